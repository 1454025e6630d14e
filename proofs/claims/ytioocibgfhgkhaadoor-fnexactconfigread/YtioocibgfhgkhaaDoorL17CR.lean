/- FnExactConfigRead: both answers, and the law's walk (printed by tools/mkl17.py). -/
import Derived.Test.YtioocibgfhgkhaaDoorQ17D
import Derived.Test.YtioocibgfhgkhaaDoorSitX
import Derived.Deep.RegionHeld3
import Derived.Deep.DeepCutAuto
namespace Go.Proofs.YtioocibgfhgkhaaDoor
open Go.ChangeShapes Go.WideShapes Go.ChangeAt Go.RowKit
set_option linter.unusedVariables false
theorem bothFnExactConfigRead (m0 : List UInt8) (ok0 : okByteS m0) (hs0 : sizByteS m0 ≤ 1048576) (w : World) (hS : Hnd w) : ∃ (R : List Int × Int) (s1 : Bool), cntConfig R ≤ 16777216 ∧ (∀ W v0, RdByteS v0 m0 W → Calls Tryd.prog 5 #[v0] W fun e w' => ∃ u, e = .returned (.tuple #[u, .bool s1]) ∧ Sits (OwConfig W.heap.size w'.heap.size u R) W.heap.size w'.heap.size w' ∧ Below W.heap.size W w') ∧ (∀ W, Below w.heap.size w W → ∀ v0, RdByteS v0 m0 W → Calls Tryd.prog 7 #[v0] W fun e w' => ∃ u, e = .returned (.tuple #[u, .bool s1]) ∧ Sits (OwConfig W.heap.size w'.heap.size u R) W.heap.size w'.heap.size w' ∧ Below W.heap.size W w') := bothConfigRead_ m0 ok0 hs0 w hS
set_option maxHeartbeats 4000000 in
set_option maxRecDepth 100000 in
theorem walkFnExactConfigRead (v0 : Value) (m0 : List UInt8) (w : World) (i0 : RdByteS v0 m0 w) (hS : Hnd w) :
    Calls Tryd.prog 3 #[v0] w fun r w' => r = .returned (.bool true) ∧ Below w.heap.size w w' := by
  have r0 : RdByteS v0 m0 w := i0
  have ok0 : okByteS m0 := trivial
  have ha : ∀ (w : World) o, Below w.heap.size w (w.alloc o) := fun w o => (Below.refl _ _).alloc (Nat.le_refl _) o
  have A0 := dHide fun W (hb : Below w.heap.size w W) => r0.below hb
  obtain ⟨v0a, v0c, rfl, v0l⟩ := formByteS r0
  by_cases g0 : (1048576 : Int) < (m0.length : Int)
  · go_enter Tryd.func3, Tryd.ntmps3
    go_wp2
    go_ret
    exact ⟨rfl, Below.refl _ _⟩
  have hs0 : sizByteS m0 ≤ 1048576 := by unfold sizByteS; omega
  have hc0 := cntByteS_le hs0
  obtain ⟨R, s1, hR, p1, p2⟩ := bothFnExactConfigRead m0 ok0 hs0 w hS
  have CP := dHide p1
  have CI := dHide p2
  clear p1 p2 hS r0 ok0 
  go_enter Tryd.func3, Tryd.ntmps3
  go_wp2_with fail
  have B := Below.refl w.heap.size w
  refine (toByteS_ _ m0 _ hs0 (dUnhide A0 _ B)).mono ?_
  rintro e w3 ⟨u2, rfl, T1, b4⟩
  have sz5 := dHide b4.size
  replace B := belowThen B b4
  replace T1 := dHide T1
  clear b4
  obtain ⟨u2a, u2c, rfl, u2l⟩ := formByteS (dUnhide T1).now.rd
  go_wp2_with fail
  refine (dUnhide CP _ _ (dUnhide T1).now.rd).mono ?_
  rintro e w3 ⟨uw, rfl, OW, bw⟩
  clear T1
  have sz6 := dHide bw.size
  replace B := belowThen B bw
  replace OW := dHide OW
  clear bw CP
  obtain ⟨uwa, uwc, rfl, uwl⟩ := formConfig (dUnhide OW).now.rd
  have X7 := Sits.box w3 #[.slice uwa R.1.length uwc, .int .i64 R.2] 25
  have ba := ha w3 (.cells #[.slice uwa R.1.length uwc, .int .i64 R.2] 25)
  have sz9 := dHide ba.size
  replace OW := dHide ((dUnhide OW).below ba)
  replace B := belowThen B ba
  have sz10 : Hid (w3.heap.size + 1 = (w3.alloc (.cells #[.slice uwa R.1.length uwc, .int .i64 R.2] 25)).heap.size) := by simp [Hid]
  replace X7 := dHide X7
  clear ba
  go_wp2_with fail
  generalize hbx8 : w3.heap.size = bx8 at *
  generalize w3.alloc (.cells #[.slice uwa R.1.length uwc, .int .i64 R.2] 25) = w11 at *
  have sz12 := dHide hbx8
  clear hbx8
  refine (toByteS_ _ m0 _ hs0 (dUnhide A0 _ B)).mono ?_
  rintro e w15 ⟨u14, rfl, T13, b16⟩
  have sz17 := dHide b16.size
  replace OW := dHide ((dUnhide OW).below b16)
  replace X7 := dHide ((dUnhide X7).below b16)
  replace B := belowThen B b16
  replace T13 := dHide T13
  clear b16
  obtain ⟨u14a, u14c, rfl, u14l⟩ := formByteS (dUnhide T13).now.rd
  go_wp2_with fail
  refine (dUnhide CI _ B _ (dUnhide T13).now.rd).mono ?_
  rintro e w18 ⟨ug, rfl, OG, b19⟩
  have sz20 := dHide b19.size
  replace OW := dHide ((dUnhide OW).below b19)
  replace X7 := dHide ((dUnhide X7).below b19)
  replace T13 := dHide ((dUnhide T13).below b19)
  replace B := belowThen B b19
  replace OG := dHide OG
  clear b19
  obtain ⟨uga, ugc, rfl, ugl⟩ := formConfig (dUnhide OG).now.rd
  have X21 := Sits.box w18 #[.slice uga R.1.length ugc, .int .i64 R.2] 25
  have ba := ha w18 (.cells #[.slice uga R.1.length ugc, .int .i64 R.2] 25)
  have sz23 := dHide ba.size
  replace OW := dHide ((dUnhide OW).below ba)
  replace X7 := dHide ((dUnhide X7).below ba)
  replace T13 := dHide ((dUnhide T13).below ba)
  replace OG := dHide ((dUnhide OG).below ba)
  replace B := belowThen B ba
  have sz24 : Hid (w18.heap.size + 1 = (w18.alloc (.cells #[.slice uga R.1.length ugc, .int .i64 R.2] 25)).heap.size) := by simp [Hid]
  replace X21 := dHide X21
  clear ba
  have k25 := (dUnhide X21).now 0 _ rfl
  have k26 := (dUnhide X21).now 1 _ rfl
  have k27 := (dUnhide X7).now 0 _ rfl
  have k28 := (dUnhide X7).now 1 _ rfl
  go_wp2_with fail
  generalize hbx22 : w18.heap.size = bx22 at *
  generalize w18.alloc (.cells #[.slice uga R.1.length ugc, .int .i64 R.2] 25) = w29 at *
  have sz30 := dHide hbx22
  clear hbx22
  refine (eqConfig_ _ _ _ _ (dUnhide OG).now.rd (dUnhide OW).now.rd).mono ?_
  rintro e w31 ⟨rfl, b32⟩
  clear k25 k26 k27 k28
  have sz33 := dHide b32.size
  replace OW := dHide ((dUnhide OW).below b32)
  replace X7 := dHide ((dUnhide X7).below b32)
  replace T13 := dHide ((dUnhide T13).below b32)
  replace OG := dHide ((dUnhide OG).below b32)
  replace X21 := dHide ((dUnhide X21).below b32)
  replace B := belowThen B b32
  clear b32
  go_wp2_with fail
  refine (toByteS_ _ m0 _ hs0 (dUnhide A0 _ B)).mono ?_
  rintro e w36 ⟨u35, rfl, T34, b37⟩
  have sz38 := dHide b37.size
  replace OW := dHide ((dUnhide OW).below b37)
  replace X7 := dHide ((dUnhide X7).below b37)
  replace T13 := dHide ((dUnhide T13).below b37)
  replace OG := dHide ((dUnhide OG).below b37)
  replace X21 := dHide ((dUnhide X21).below b37)
  replace B := belowThen B b37
  replace T34 := dHide T34
  clear b37
  obtain ⟨u35a, u35c, rfl, u35l⟩ := formByteS (dUnhide T34).now.rd
  go_wp2_with fail
  refine (eqByteS_ _ _ _ _ (dUnhide T13).now.rd (dUnhide T34).now.rd).mono ?_
  rintro e w39 ⟨rfl, b40⟩
  clear T34
  have sz41 := dHide b40.size
  replace OW := dHide ((dUnhide OW).below b40)
  replace X7 := dHide ((dUnhide X7).below b40)
  replace T13 := dHide ((dUnhide T13).below b40)
  replace OG := dHide ((dUnhide OG).below b40)
  replace X21 := dHide ((dUnhide X21).below b40)
  replace B := belowThen B b40
  clear b40
  go_wp2_with fail
  refine (markByteS_ _ _ _ _ 1 _ (by omega) (by omega) (dUnhide T13)).mono ?_
  rintro e w42 ⟨rfl, M44, b43⟩
  replace OW := dHide ((dUnhide OW).wr b43 (by have := dUnhide sz5; have := dUnhide sz6; have := dUnhide sz9; have := dUnhide sz10; have := dUnhide sz12; have := dUnhide sz17; have := dUnhide sz20; have := dUnhide sz23; have := dUnhide sz24; have := dUnhide sz30; have := dUnhide sz33; have := dUnhide sz38; have := dUnhide sz41; omega))
  replace X7 := dHide ((dUnhide X7).wr b43 (by have := dUnhide sz5; have := dUnhide sz6; have := dUnhide sz9; have := dUnhide sz10; have := dUnhide sz12; have := dUnhide sz17; have := dUnhide sz20; have := dUnhide sz23; have := dUnhide sz24; have := dUnhide sz30; have := dUnhide sz33; have := dUnhide sz38; have := dUnhide sz41; omega))
  replace OG := dHide ((dUnhide OG).wr b43 (by have := dUnhide sz5; have := dUnhide sz6; have := dUnhide sz9; have := dUnhide sz10; have := dUnhide sz12; have := dUnhide sz17; have := dUnhide sz20; have := dUnhide sz23; have := dUnhide sz24; have := dUnhide sz30; have := dUnhide sz33; have := dUnhide sz38; have := dUnhide sz41; omega))
  replace X21 := dHide ((dUnhide X21).wr b43 (by have := dUnhide sz5; have := dUnhide sz6; have := dUnhide sz9; have := dUnhide sz10; have := dUnhide sz12; have := dUnhide sz17; have := dUnhide sz20; have := dUnhide sz23; have := dUnhide sz24; have := dUnhide sz30; have := dUnhide sz33; have := dUnhide sz38; have := dUnhide sz41; omega))
  replace B := b43.below B B.size (by have := dUnhide sz5; have := dUnhide sz6; have := dUnhide sz9; have := dUnhide sz10; have := dUnhide sz12; have := dUnhide sz17; have := dUnhide sz20; have := dUnhide sz23; have := dUnhide sz24; have := dUnhide sz30; have := dUnhide sz33; have := dUnhide sz38; have := dUnhide sz41; omega)
  have sz45 := dHide b43.size
  replace M44 := dHide M44
  clear b43 T13
  clear M44
  have hk : ¬ (((1 + cntByteS m0 : Nat) : Int) < 0) := by omega
  have k46 := (dUnhide X21).now 0 _ rfl
  have k47 := (dUnhide X21).now 1 _ rfl
  have k48 := (dUnhide X7).now 0 _ rfl
  have k49 := (dUnhide X7).now 1 _ rfl
  go_wp2_with fail
  refine (eqConfig_ _ _ _ _ (dUnhide OG).now.rd (dUnhide OW).now.rd).mono ?_
  rintro e w50 ⟨rfl, b51⟩
  clear k46 k47 k48 k49
  have sz52 := dHide b51.size
  replace OW := dHide ((dUnhide OW).below b51)
  replace X7 := dHide ((dUnhide X7).below b51)
  replace OG := dHide ((dUnhide OG).below b51)
  replace X21 := dHide ((dUnhide X21).below b51)
  replace B := belowThen B b51
  clear b51
  have k53 := (dUnhide X21).now 0 _ rfl
  have k54 := (dUnhide X21).now 1 _ rfl
  go_wp2_with fail
  refine (markConfig_ _ _ _ _ 1 _ (by omega) (by omega) (dUnhide OG)).mono ?_
  rintro e w55 ⟨rfl, M57, b56⟩
  clear k53 k54
  replace OW := dHide ((dUnhide OW).wr b56 (by have := dUnhide sz5; have := dUnhide sz6; have := dUnhide sz9; have := dUnhide sz10; have := dUnhide sz12; have := dUnhide sz17; have := dUnhide sz20; have := dUnhide sz23; have := dUnhide sz24; have := dUnhide sz30; have := dUnhide sz33; have := dUnhide sz38; have := dUnhide sz41; have := dUnhide sz45; have := dUnhide sz52; omega))
  replace X7 := dHide ((dUnhide X7).wr b56 (by have := dUnhide sz5; have := dUnhide sz6; have := dUnhide sz9; have := dUnhide sz10; have := dUnhide sz12; have := dUnhide sz17; have := dUnhide sz20; have := dUnhide sz23; have := dUnhide sz24; have := dUnhide sz30; have := dUnhide sz33; have := dUnhide sz38; have := dUnhide sz41; have := dUnhide sz45; have := dUnhide sz52; omega))
  replace X21 := dHide ((dUnhide X21).wr b56 (by have := dUnhide sz5; have := dUnhide sz6; have := dUnhide sz9; have := dUnhide sz10; have := dUnhide sz12; have := dUnhide sz17; have := dUnhide sz20; have := dUnhide sz23; have := dUnhide sz24; have := dUnhide sz30; have := dUnhide sz33; have := dUnhide sz38; have := dUnhide sz41; have := dUnhide sz45; have := dUnhide sz52; omega))
  replace B := b56.below B B.size (by have := dUnhide sz5; have := dUnhide sz6; have := dUnhide sz9; have := dUnhide sz10; have := dUnhide sz12; have := dUnhide sz17; have := dUnhide sz20; have := dUnhide sz23; have := dUnhide sz24; have := dUnhide sz30; have := dUnhide sz33; have := dUnhide sz38; have := dUnhide sz41; have := dUnhide sz45; have := dUnhide sz52; omega)
  have sz58 := dHide b56.size
  replace M57 := dHide M57
  clear b56 OG
  have k59 := (dUnhide X21).now 0 _ rfl
  have k60 := (dUnhide X21).now 1 _ rfl
  go_wp2_with fail
  refine (heldConfig_ _ R 1 _ (by omega) (by omega) (dUnhide M57).now.rd).mono ?_
  rintro e w61 ⟨rfl, b62⟩
  clear k59 k60
  have sz63 := dHide b62.size
  replace OW := dHide ((dUnhide OW).below b62)
  replace X7 := dHide ((dUnhide X7).below b62)
  replace X21 := dHide ((dUnhide X21).below b62)
  replace M57 := dHide ((dUnhide M57).below b62)
  replace B := belowThen B b62
  clear b62
  have hq : ¬ (((1 + cntConfig R : Nat) : Int) < 0) := by omega
  go_wp2_with fail
  refine (toByteS_ _ m0 _ hs0 (dUnhide A0 _ B)).mono ?_
  rintro e w66 ⟨u65, rfl, T64, b67⟩
  have sz68 := dHide b67.size
  replace OW := dHide ((dUnhide OW).below b67)
  replace X7 := dHide ((dUnhide X7).below b67)
  replace X21 := dHide ((dUnhide X21).below b67)
  replace M57 := dHide ((dUnhide M57).below b67)
  replace B := belowThen B b67
  replace T64 := dHide T64
  clear b67
  obtain ⟨u65a, u65c, rfl, u65l⟩ := formByteS (dUnhide T64).now.rd
  go_wp2_with fail
  refine (dUnhide CI _ B _ (dUnhide T64).now.rd).mono ?_
  rintro e w69 ⟨uh, rfl, OH, b70⟩
  clear T64
  have sz71 := dHide b70.size
  replace OW := dHide ((dUnhide OW).below b70)
  replace X7 := dHide ((dUnhide X7).below b70)
  replace X21 := dHide ((dUnhide X21).below b70)
  replace M57 := dHide ((dUnhide M57).below b70)
  replace B := belowThen B b70
  replace OH := dHide OH
  clear b70
  obtain ⟨uha, uhc, rfl, uhl⟩ := formConfig (dUnhide OH).now.rd
  have X72 := Sits.box w69 #[.slice uha R.1.length uhc, .int .i64 R.2] 25
  have ba := ha w69 (.cells #[.slice uha R.1.length uhc, .int .i64 R.2] 25)
  have sz74 := dHide ba.size
  replace OW := dHide ((dUnhide OW).below ba)
  replace X7 := dHide ((dUnhide X7).below ba)
  replace X21 := dHide ((dUnhide X21).below ba)
  replace M57 := dHide ((dUnhide M57).below ba)
  replace OH := dHide ((dUnhide OH).below ba)
  replace B := belowThen B ba
  have sz75 : Hid (w69.heap.size + 1 = (w69.alloc (.cells #[.slice uha R.1.length uhc, .int .i64 R.2] 25)).heap.size) := by simp [Hid]
  replace X72 := dHide X72
  clear ba
  have k76 := (dUnhide X72).now 0 _ rfl
  have k77 := (dUnhide X72).now 1 _ rfl
  have k78 := (dUnhide X7).now 0 _ rfl
  have k79 := (dUnhide X7).now 1 _ rfl
  go_wp2_with fail
  generalize hbx73 : w69.heap.size = bx73 at *
  generalize w69.alloc (.cells #[.slice uha R.1.length uhc, .int .i64 R.2] 25) = w80 at *
  have sz81 := dHide hbx73
  clear hbx73
  refine (eqConfig_ _ _ _ _ (dUnhide OH).now.rd (dUnhide OW).now.rd).mono ?_
  rintro e w82 ⟨rfl, b83⟩
  clear k76 k77 k78 k79
  have sz84 := dHide b83.size
  replace OW := dHide ((dUnhide OW).below b83)
  replace X7 := dHide ((dUnhide X7).below b83)
  replace X21 := dHide ((dUnhide X21).below b83)
  replace M57 := dHide ((dUnhide M57).below b83)
  replace OH := dHide ((dUnhide OH).below b83)
  replace X72 := dHide ((dUnhide X72).below b83)
  replace B := belowThen B b83
  clear b83
  have k85 := (dUnhide X21).now 0 _ rfl
  have k86 := (dUnhide X21).now 1 _ rfl
  go_wp2_with fail
  refine (heldConfig_ _ R 1 _ (by omega) (by omega) (dUnhide M57).now.rd).mono ?_
  rintro e w87 ⟨rfl, b88⟩
  clear k85 k86
  have sz89 := dHide b88.size
  replace OW := dHide ((dUnhide OW).below b88)
  replace X7 := dHide ((dUnhide X7).below b88)
  replace X21 := dHide ((dUnhide X21).below b88)
  replace M57 := dHide ((dUnhide M57).below b88)
  replace OH := dHide ((dUnhide OH).below b88)
  replace X72 := dHide ((dUnhide X72).below b88)
  replace B := belowThen B b88
  clear b88
  clear OW X7 X21 M57 OH X72
  go_wp2
  go_ret
  exact ⟨rfl, B⟩
end Go.Proofs.YtioocibgfhgkhaaDoor
