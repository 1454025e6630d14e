/- FnExactUnion: both answers, and the law's walk (printed by tools/mkl11.py). -/
import Derived.Test.YtoeamgcoeoaijaaQ11U
import Derived.Deep.RegionHeld3
import Derived.Deep.DeepCutAuto
namespace Go.Proofs.Ytoeamgcoeoaijaa
open Go.ChangeShapes Go.WideShapes Go.ChangeAt Go.RowKit
set_option linter.unusedVariables false
theorem bothFnExactUnion (m0 : List St) (ok0 : okStoreS m0) (hs0 : sizStoreS m0 ≤ 1048576) : ∃ (R : List Ent), cntEntryS R ≤ 8388608 ∧ (∀ W v0, RdStoreS v0 m0 W → Calls Try.prog 11 #[v0] W fun e w' => ∃ u, e = .returned u ∧ Sits (OwEntryS W.heap.size w'.heap.size u R) W.heap.size w'.heap.size w' ∧ Below W.heap.size W w') ∧ (∀ W v0, RdStoreS v0 m0 W → Calls Try.prog 9 #[v0] W fun e w' => ∃ u, e = .returned u ∧ Sits (OwEntryS W.heap.size w'.heap.size u R) W.heap.size w'.heap.size w' ∧ Below W.heap.size W w') := bothUnion_ m0 ok0 hs0
set_option maxHeartbeats 4000000 in
set_option maxRecDepth 100000 in
theorem walkFnExactUnion (v0 : Value) (m0 : List St) (w : World) (i0 : IsStoreS v0 m0 w) :
    Calls Try.prog 5 #[v0] w fun r w' => r = .returned (.bool true) ∧ Below w.heap.size w w' := by
  obtain ⟨r0, ok0⟩ := i0
  have ha : ∀ (w : World) o, Below w.heap.size w (w.alloc o) := fun w o => (Below.refl _ _).alloc (Nat.le_refl _) o
  have A0 := dHide fun W (hb : Below w.heap.size w W) => r0.below hb
  obtain ⟨v0a, v0c, rfl, v0l⟩ := formStoreS r0
  by_cases z0 : (1048576 : Int) < (sizStoreS m0 : Int)
  · have CS0 := dHide fun W (hb : Below w.heap.size w W) => szStoreS_ _ m0 (1048576 : Int) (by omega) (by omega) (txtSS_of ok0) W (dUnhide A0 W hb)
    rw [lft_no z0] at CS0
    clear z0
    go_enter Try.func5, Try.ntmps5
    go_wp2_with fail
    have B := Below.refl w.heap.size w
    refine (dUnhide CS0 _ B).mono ?_
    rintro e ws0 ⟨rfl, bs⟩
    have sz1 := dHide bs.size
    replace B := belowThen B bs
    clear bs CS0
    go_wp2
    go_ret
    exact ⟨rfl, B⟩
  have hs0 : sizStoreS m0 ≤ 1048576 := by omega
  have hc0 := cntStoreS_le hs0
  obtain ⟨R, hR, p1, p2⟩ := bothFnExactUnion m0 ok0 hs0
  have CP := dHide p1
  have CI := dHide p2
  have CS0 := dHide fun W (hb : Below w.heap.size w W) => szStoreS_ _ m0 (1048576 : Int) (by omega) (by omega) (txtSS_of ok0) W (dUnhide A0 W hb)
  rw [lft_yes z0] at CS0
  have z0' : ¬ ((1048576 : Int) - (sizStoreS m0 : Int) < 0) := by omega
  clear p1 p2 r0 ok0 
  go_enter Try.func5, Try.ntmps5
  go_wp2_with fail
  have B := Below.refl w.heap.size w
  refine (dUnhide CS0 _ B).mono ?_
  rintro e ws0 ⟨rfl, bs⟩
  have sz1 := dHide bs.size
  replace B := belowThen B bs
  clear bs CS0
  go_wp2_with fail
  refine (toStoreS_ _ m0 _ hs0 (dUnhide A0 _ B)).mono ?_
  rintro e w4 ⟨u3, rfl, T2, b5⟩
  have sz6 := dHide b5.size
  replace B := belowThen B b5
  replace T2 := dHide T2
  clear b5
  obtain ⟨u3a, u3c, rfl, u3l⟩ := formStoreS (dUnhide T2).now.rd
  go_wp2_with fail
  refine (dUnhide CP _ _ (dUnhide T2).now.rd).mono ?_
  rintro e w3 ⟨uw, rfl, OW, bw⟩
  clear T2
  have sz7 := dHide bw.size
  replace B := belowThen B bw
  replace OW := dHide OW
  clear bw CP
  obtain ⟨uwa, uwc, rfl, uwl⟩ := formEntryS (dUnhide OW).now.rd
  go_wp2_with fail
  refine (toStoreS_ _ m0 _ hs0 (dUnhide A0 _ B)).mono ?_
  rintro e w10 ⟨u9, rfl, T8, b11⟩
  have sz12 := dHide b11.size
  replace OW := dHide ((dUnhide OW).below b11)
  replace B := belowThen B b11
  replace T8 := dHide T8
  clear b11
  obtain ⟨u9a, u9c, rfl, u9l⟩ := formStoreS (dUnhide T8).now.rd
  go_wp2_with fail
  refine (dUnhide CI _ _ (dUnhide T8).now.rd).mono ?_
  rintro e w13 ⟨ug, rfl, OG, b14⟩
  have sz15 := dHide b14.size
  replace OW := dHide ((dUnhide OW).below b14)
  replace T8 := dHide ((dUnhide T8).below b14)
  replace B := belowThen B b14
  replace OG := dHide OG
  clear b14
  obtain ⟨uga, ugc, rfl, ugl⟩ := formEntryS (dUnhide OG).now.rd
  go_wp2_with fail
  refine (eqEntryS_ _ _ _ _ (dUnhide OG).now.rd (dUnhide OW).now.rd).mono ?_
  rintro e w16 ⟨rfl, b17⟩
  have sz18 := dHide b17.size
  replace OW := dHide ((dUnhide OW).below b17)
  replace T8 := dHide ((dUnhide T8).below b17)
  replace OG := dHide ((dUnhide OG).below b17)
  replace B := belowThen B b17
  clear b17
  go_wp2_with fail
  refine (toStoreS_ _ m0 _ hs0 (dUnhide A0 _ B)).mono ?_
  rintro e w21 ⟨u20, rfl, T19, b22⟩
  have sz23 := dHide b22.size
  replace OW := dHide ((dUnhide OW).below b22)
  replace T8 := dHide ((dUnhide T8).below b22)
  replace OG := dHide ((dUnhide OG).below b22)
  replace B := belowThen B b22
  replace T19 := dHide T19
  clear b22
  obtain ⟨u20a, u20c, rfl, u20l⟩ := formStoreS (dUnhide T19).now.rd
  go_wp2_with fail
  refine (eqStoreS_ _ _ _ _ (dUnhide T8).now.rd (dUnhide T19).now.rd).mono ?_
  rintro e w24 ⟨rfl, b25⟩
  clear T19
  have sz26 := dHide b25.size
  replace OW := dHide ((dUnhide OW).below b25)
  replace T8 := dHide ((dUnhide T8).below b25)
  replace OG := dHide ((dUnhide OG).below b25)
  replace B := belowThen B b25
  clear b25
  go_wp2_with fail
  refine (markStoreS_ _ _ _ _ 1 _ (by omega) (by omega) (dUnhide T8)).mono ?_
  rintro e w27 ⟨rfl, M29, b28⟩
  replace OW := dHide ((dUnhide OW).wr b28 (by have := dUnhide sz1; have := dUnhide sz6; have := dUnhide sz7; have := dUnhide sz12; have := dUnhide sz15; have := dUnhide sz18; have := dUnhide sz23; have := dUnhide sz26; omega))
  replace OG := dHide ((dUnhide OG).wr b28 (by have := dUnhide sz1; have := dUnhide sz6; have := dUnhide sz7; have := dUnhide sz12; have := dUnhide sz15; have := dUnhide sz18; have := dUnhide sz23; have := dUnhide sz26; omega))
  replace B := b28.below B B.size (by have := dUnhide sz1; have := dUnhide sz6; have := dUnhide sz7; have := dUnhide sz12; have := dUnhide sz15; have := dUnhide sz18; have := dUnhide sz23; have := dUnhide sz26; omega)
  have sz30 := dHide b28.size
  replace M29 := dHide M29
  clear b28 T8
  clear M29
  have hk : ¬ (((1 + cntStoreS m0 : Nat) : Int) < 0) := by omega
  go_wp2_with fail
  refine (eqEntryS_ _ _ _ _ (dUnhide OG).now.rd (dUnhide OW).now.rd).mono ?_
  rintro e w31 ⟨rfl, b32⟩
  have sz33 := dHide b32.size
  replace OW := dHide ((dUnhide OW).below b32)
  replace OG := dHide ((dUnhide OG).below b32)
  replace B := belowThen B b32
  clear b32
  go_wp2_with fail
  refine (markEntryS_ _ _ _ _ 1 _ (by omega) (by omega) (dUnhide OG)).mono ?_
  rintro e w34 ⟨rfl, M36, b35⟩
  replace OW := dHide ((dUnhide OW).wr b35 (by have := dUnhide sz1; have := dUnhide sz6; have := dUnhide sz7; have := dUnhide sz12; have := dUnhide sz15; have := dUnhide sz18; have := dUnhide sz23; have := dUnhide sz26; have := dUnhide sz30; have := dUnhide sz33; omega))
  replace B := b35.below B B.size (by have := dUnhide sz1; have := dUnhide sz6; have := dUnhide sz7; have := dUnhide sz12; have := dUnhide sz15; have := dUnhide sz18; have := dUnhide sz23; have := dUnhide sz26; have := dUnhide sz30; have := dUnhide sz33; omega)
  have sz37 := dHide b35.size
  replace M36 := dHide M36
  clear b35 OG
  go_wp2_with fail
  refine (heldEntryS_ _ R 1 _ (by omega) (by omega) (dUnhide M36).now.rd).mono ?_
  rintro e w38 ⟨rfl, b39⟩
  have sz40 := dHide b39.size
  replace OW := dHide ((dUnhide OW).below b39)
  replace M36 := dHide ((dUnhide M36).below b39)
  replace B := belowThen B b39
  clear b39
  have hq : ¬ (((1 + cntEntryS R : Nat) : Int) < 0) := by omega
  go_wp2_with fail
  refine (toStoreS_ _ m0 _ hs0 (dUnhide A0 _ B)).mono ?_
  rintro e w43 ⟨u42, rfl, T41, b44⟩
  have sz45 := dHide b44.size
  replace OW := dHide ((dUnhide OW).below b44)
  replace M36 := dHide ((dUnhide M36).below b44)
  replace B := belowThen B b44
  replace T41 := dHide T41
  clear b44
  obtain ⟨u42a, u42c, rfl, u42l⟩ := formStoreS (dUnhide T41).now.rd
  go_wp2_with fail
  refine (dUnhide CI _ _ (dUnhide T41).now.rd).mono ?_
  rintro e w46 ⟨uh, rfl, OH, b47⟩
  clear T41
  have sz48 := dHide b47.size
  replace OW := dHide ((dUnhide OW).below b47)
  replace M36 := dHide ((dUnhide M36).below b47)
  replace B := belowThen B b47
  replace OH := dHide OH
  clear b47
  obtain ⟨uha, uhc, rfl, uhl⟩ := formEntryS (dUnhide OH).now.rd
  go_wp2_with fail
  refine (eqEntryS_ _ _ _ _ (dUnhide OH).now.rd (dUnhide OW).now.rd).mono ?_
  rintro e w49 ⟨rfl, b50⟩
  have sz51 := dHide b50.size
  replace OW := dHide ((dUnhide OW).below b50)
  replace M36 := dHide ((dUnhide M36).below b50)
  replace OH := dHide ((dUnhide OH).below b50)
  replace B := belowThen B b50
  clear b50
  go_wp2_with fail
  refine (heldEntryS_ _ R 1 _ (by omega) (by omega) (dUnhide M36).now.rd).mono ?_
  rintro e w52 ⟨rfl, b53⟩
  have sz54 := dHide b53.size
  replace OW := dHide ((dUnhide OW).below b53)
  replace M36 := dHide ((dUnhide M36).below b53)
  replace OH := dHide ((dUnhide OH).below b53)
  replace B := belowThen B b53
  clear b53
  clear OW M36 OH
  go_wp2
  go_ret
  exact ⟨rfl, B⟩
end Go.Proofs.Ytoeamgcoeoaijaa
