/- The walks of the laws FnExactMaskNodes, FnExactNodesMask, FnExactChoose. -/
import Derived.Test.YtofklfjomofijaaSitC
import Derived.Test.YtofklfjomofijaaChoD
import Derived.Test.YtofklfjomofijaaImplE
import Derived.Deep.RegionHeld3
import Derived.Deep.DeepCutAuto
namespace Go.Proofs.Ytofklfjomofijaa
open Go.ChangeShapes Go.WideShapes Go.ChangeAt Go.RowKit
set_option linter.unusedVariables false

theorem bothFnExactMaskNodes (m0 : Int) (ok0 : okInt m0) :
    ∃ R : List Int, cntIntS R ≤ 1048576 ∧
      (∀ W, Calls Try.prog 12 #[.int .i64 m0] W fun e w' => ∃ u, e = .returned u ∧ Sits (OwIntS W.heap.size w'.heap.size u R) W.heap.size w'.heap.size w' ∧ Below W.heap.size W w') ∧
      (∀ W, Calls Try.prog 10 #[.int .i64 m0] W fun e w' => ∃ u, e = .returned u ∧ Sits (OwIntS W.heap.size w'.heap.size u R) W.heap.size w'.heap.size w' ∧ Below W.heap.size W w') := by
  refine ⟨maskL m0, ?_, fun W => ?_, fun W => ?_⟩
  · have := maskL_len m0
    unfold cntIntS
    omega
  · exact (specMask_any m0 W).mono fun e w' ⟨⟨o, k1, k2⟩, k3⟩ => ⟨o, k1, (ownN_of_row k2).sits, k3⟩
  · exact (implMask_any m0 W ok0).mono fun e w' ⟨⟨o, k1, k2⟩, k3⟩ => ⟨o, k1, k2.sits, k3⟩
theorem bothFnExactNodesMask (m0 : List Int) (ok0 : okIntS m0) (hs0 : sizIntS m0 ≤ 1048576) :
    ∃ s0 : Int,
      (∀ W v0, RdIntS v0 m0 W → Calls Try.prog 15 #[v0] W fun e w' => e = .returned (.int .i64 s0) ∧ Below W.heap.size W w') ∧
      (∀ W v0, RdIntS v0 m0 W → Calls Try.prog 14 #[v0] W fun e w' => e = .returned (.int .i64 s0) ∧ Below W.heap.size W w') := by
  by_cases h : ascP m0 0 7
  · exact ⟨orL m0, fun W v hv => specNodesMask_yes v m0 W hv h, fun W v hv => implNodesMask_yes v m0 W hv ok0 hs0 h⟩
  · exact ⟨-1, fun W v hv => specNodesMask_no v m0 W hv h, fun W v hv => implNodesMask_no v m0 W hv ok0 hs0 h⟩
theorem bothFnExactChoose (m0 : List Int × Int) (m1 : List Int) (m2 : Int) (ok0 : okConfig m0) (ok1 : okIntS m1) (ok2 : okInt m2) (hs0 : sizConfig m0 ≤ 1048576) (hs1 : sizIntS m1 ≤ 1048576) :
    ∃ (R : List Int) (s1 : Bool), cntIntS R ≤ 1048576 ∧
      (∀ W v0 v1, RdConfig v0 m0 W → RdIntS v1 m1 W → Calls Try.prog 18 #[v0, v1, .int .i64 m2] W fun e w' => ∃ u, e = .returned (.tuple #[u, .bool s1]) ∧ Sits (OwIntS W.heap.size w'.heap.size u R) W.heap.size w'.heap.size w' ∧ Below W.heap.size W w') ∧
      (∀ W v0 v1, RdConfig v0 m0 W → RdIntS v1 m1 W → Calls Try.prog 17 #[v0, v1, .int .i64 m2] W fun e w' => ∃ u, e = .returned (.tuple #[u, .bool s1]) ∧ Sits (OwIntS W.heap.size w'.heap.size u R) W.heap.size w'.heap.size w' ∧ Below W.heap.size W w') := by
  obtain ⟨ds, cop⟩ := m0
  obtain ⟨a0, c0, c1⟩ := ok0
  unfold sizConfig sizIntS at *
  by_cases h : holdsP ds cop m1 ∧ 0 ≤ m2
  · obtain ⟨hh, h0⟩ := h
    obtain ⟨F, rfl⟩ := Int.eq_ofNat_of_zero_le h0
    have hF : F ≤ 9223372036854775807 := by have := ok2.2; omega
    have hl : m1.length ≤ 1000000 := by
      have h1 := hh.1.1.1.2
      have h2 := nodes_len hh.1
      omega
    refine ⟨chooseL ds cop m1 F, true, ?_, ?_, ?_⟩
    · have h1 := (chooseL_right (frm := F) hh).2.2.1
      have h2 := hh.1.1.2.1.2
      unfold cntIntS
      omega
    · rintro W _ v1 ⟨sv, rfl, g0⟩ g1
      exact (specChoose_yes sv v1 ds m1 cop F W g0 g1 hF hh hl).mono fun e w' ⟨⟨o, k1, k2⟩, k3⟩ => ⟨o, k1, k2.sits, k3⟩
    · rintro W _ v1 ⟨sv, rfl, g0⟩ g1
      exact (implChoose_yes sv v1 ds m1 cop F W g0 g1 a0 ok1 hs0 hs1 c0 c1 hF hh).mono fun e w' ⟨⟨o, k1, k2⟩, k3⟩ => ⟨o, k1, k2.sits, k3⟩
  · refine ⟨[], false, by simp [cntIntS], ?_, ?_⟩
    · rintro W _ v1 ⟨sv, rfl, g0⟩ g1
      exact (specChoose_no sv v1 ds m1 cop m2 W g0 g1 (by omega) h).mono fun e w' ⟨⟨o, k1, k2⟩, k3⟩ => ⟨o, k1, k2.sits, k3⟩
    · rintro W _ v1 ⟨sv, rfl, g0⟩ g1
      exact (implChoose_no sv v1 ds m1 cop m2 W g0 g1 a0 ok1 hs0 hs1 c0 c1 ok2 h).mono fun e w' ⟨⟨o, k1, k2⟩, k3⟩ => ⟨o, k1, k2.sits, k3⟩
set_option maxHeartbeats 4000000 in
set_option maxRecDepth 100000 in
theorem walkFnExactMaskNodes (v0 : Value) (m0 : Int) (w : World) (i0 : IsInt v0 m0 w) :
    Calls Try.prog 5 #[v0] w fun r w' => r = .returned (.bool true) ∧ Below w.heap.size w w' := by
  obtain ⟨rfl, ok0⟩ := i0
  have ha : ∀ (w : World) o, Below w.heap.size w (w.alloc o) := fun w o => (Below.refl _ _).alloc (Nat.le_refl _) o
  obtain ⟨R, hR, p1, p2⟩ := bothFnExactMaskNodes m0 ok0 
  have CP := dHide p1
  have CI := dHide p2
  clear p1 p2  ok0
  go_enter Try.func5, Try.ntmps5
  go_wp2_with fail
  have B := Below.refl w.heap.size w
  refine (dUnhide CP _).mono ?_
  rintro e w3 ⟨uw, rfl, OW, bw⟩
  have sz1 := dHide bw.size
  replace B := belowThen B bw
  replace OW := dHide OW
  clear bw CP
  obtain ⟨uwa, uwc, rfl, uwl⟩ := formIntS (dUnhide OW).now.rd
  go_wp2_with fail
  refine (dUnhide CI _).mono ?_
  rintro e w2 ⟨ug, rfl, OG, b3⟩
  have sz4 := dHide b3.size
  replace OW := dHide ((dUnhide OW).below b3)
  replace B := belowThen B b3
  replace OG := dHide OG
  clear b3
  obtain ⟨uga, ugc, rfl, ugl⟩ := formIntS (dUnhide OG).now.rd
  go_wp2_with fail
  refine (eqIntS_ _ _ _ _ (dUnhide OG).now.rd (dUnhide OW).now.rd).mono ?_
  rintro e w5 ⟨rfl, b6⟩
  have sz7 := dHide b6.size
  replace OW := dHide ((dUnhide OW).below b6)
  replace OG := dHide ((dUnhide OG).below b6)
  replace B := belowThen B b6
  clear b6
  go_wp2_with fail
  refine (markIntS_ _ _ _ _ 1 _ (by omega) (by omega) (dUnhide OG)).mono ?_
  rintro e w8 ⟨rfl, M10, b9⟩
  replace OW := dHide ((dUnhide OW).wr b9 (by have := dUnhide sz1; have := dUnhide sz4; have := dUnhide sz7; omega))
  replace B := b9.below B B.size (by have := dUnhide sz1; have := dUnhide sz4; have := dUnhide sz7; omega)
  have sz11 := dHide b9.size
  replace M10 := dHide M10
  clear b9 OG
  go_wp2_with fail
  refine (heldIntS_ _ R 1 _ (by omega) (by omega) (dUnhide M10).now.rd).mono ?_
  rintro e w12 ⟨rfl, b13⟩
  have sz14 := dHide b13.size
  replace OW := dHide ((dUnhide OW).below b13)
  replace M10 := dHide ((dUnhide M10).below b13)
  replace B := belowThen B b13
  clear b13
  have hq : ¬ (((1 + cntIntS R : Nat) : Int) < 0) := by omega
  go_wp2_with fail
  refine (dUnhide CI _).mono ?_
  rintro e w15 ⟨uh, rfl, OH, b16⟩
  have sz17 := dHide b16.size
  replace OW := dHide ((dUnhide OW).below b16)
  replace M10 := dHide ((dUnhide M10).below b16)
  replace B := belowThen B b16
  replace OH := dHide OH
  clear b16
  obtain ⟨uha, uhc, rfl, uhl⟩ := formIntS (dUnhide OH).now.rd
  go_wp2_with fail
  refine (eqIntS_ _ _ _ _ (dUnhide OH).now.rd (dUnhide OW).now.rd).mono ?_
  rintro e w18 ⟨rfl, b19⟩
  have sz20 := dHide b19.size
  replace OW := dHide ((dUnhide OW).below b19)
  replace M10 := dHide ((dUnhide M10).below b19)
  replace OH := dHide ((dUnhide OH).below b19)
  replace B := belowThen B b19
  clear b19
  go_wp2_with fail
  refine (heldIntS_ _ R 1 _ (by omega) (by omega) (dUnhide M10).now.rd).mono ?_
  rintro e w21 ⟨rfl, b22⟩
  have sz23 := dHide b22.size
  replace OW := dHide ((dUnhide OW).below b22)
  replace M10 := dHide ((dUnhide M10).below b22)
  replace OH := dHide ((dUnhide OH).below b22)
  replace B := belowThen B b22
  clear b22
  clear OW M10 OH
  go_wp2
  go_ret
  exact ⟨rfl, B⟩
set_option maxHeartbeats 4000000 in
set_option maxRecDepth 100000 in
theorem walkFnExactNodesMask (v0 : Value) (m0 : List Int) (w : World) (i0 : IsIntS v0 m0 w) :
    Calls Try.prog 6 #[v0] w fun r w' => r = .returned (.bool true) ∧ Below w.heap.size w w' := by
  obtain ⟨r0, ok0⟩ := i0
  have ha : ∀ (w : World) o, Below w.heap.size w (w.alloc o) := fun w o => (Below.refl _ _).alloc (Nat.le_refl _) o
  have A0 := dHide fun W (hb : Below w.heap.size w W) => r0.below hb
  obtain ⟨v0a, v0c, rfl, v0l⟩ := formIntS r0
  by_cases g0 : (1048576 : Int) < (m0.length : Int)
  · go_enter Try.func6, Try.ntmps6
    go_wp2
    go_ret
    exact ⟨rfl, Below.refl _ _⟩
  have hs0 : sizIntS m0 ≤ 1048576 := by unfold sizIntS; omega
  have hc0 := cntIntS_le hs0
  obtain ⟨s0, p1, p2⟩ := bothFnExactNodesMask m0 ok0 hs0
  have CP := dHide p1
  have CI := dHide p2
  clear p1 p2 r0 ok0 
  go_enter Try.func6, Try.ntmps6
  go_wp2_with fail
  have B := Below.refl w.heap.size w
  refine (toIntS_ _ m0 _ hs0 (dUnhide A0 _ B)).mono ?_
  rintro e w3 ⟨u2, rfl, T1, b4⟩
  have sz5 := dHide b4.size
  replace B := belowThen B b4
  replace T1 := dHide T1
  clear b4
  obtain ⟨u2a, u2c, rfl, u2l⟩ := formIntS (dUnhide T1).now.rd
  go_wp2_with fail
  refine (dUnhide CP _ _ (dUnhide T1).now.rd).mono ?_
  rintro e w3 ⟨rfl, bw⟩
  clear T1
  have sz6 := dHide bw.size
  replace B := belowThen B bw
  clear bw CP
  go_wp2_with fail
  refine (toIntS_ _ m0 _ hs0 (dUnhide A0 _ B)).mono ?_
  rintro e w9 ⟨u8, rfl, T7, b10⟩
  have sz11 := dHide b10.size
  replace B := belowThen B b10
  replace T7 := dHide T7
  clear b10
  obtain ⟨u8a, u8c, rfl, u8l⟩ := formIntS (dUnhide T7).now.rd
  go_wp2_with fail
  refine (dUnhide CI _ _ (dUnhide T7).now.rd).mono ?_
  rintro e w12 ⟨rfl, b13⟩
  have sz14 := dHide b13.size
  replace T7 := dHide ((dUnhide T7).below b13)
  replace B := belowThen B b13
  clear b13
  go_wp2_with fail
  refine (toIntS_ _ m0 _ hs0 (dUnhide A0 _ B)).mono ?_
  rintro e w17 ⟨u16, rfl, T15, b18⟩
  have sz19 := dHide b18.size
  replace T7 := dHide ((dUnhide T7).below b18)
  replace B := belowThen B b18
  replace T15 := dHide T15
  clear b18
  obtain ⟨u16a, u16c, rfl, u16l⟩ := formIntS (dUnhide T15).now.rd
  go_wp2_with fail
  refine (eqIntS_ _ _ _ _ (dUnhide T7).now.rd (dUnhide T15).now.rd).mono ?_
  rintro e w20 ⟨rfl, b21⟩
  clear T15
  have sz22 := dHide b21.size
  replace T7 := dHide ((dUnhide T7).below b21)
  replace B := belowThen B b21
  clear b21
  clear T7
  go_wp2
  go_ret
  exact ⟨rfl, B⟩
set_option maxHeartbeats 4000000 in
set_option maxRecDepth 100000 in
theorem walkFnExactChoose (v0 v1 v2 : Value) (m0 : List Int × Int) (m1 : List Int) (m2 : Int) (w : World) (i0 : IsConfig v0 m0 w) (i1 : IsIntS v1 m1 w) (i2 : IsInt v2 m2 w) :
    Calls Try.prog 7 #[v0, v1, v2] w fun r w' => r = .returned (.bool true) ∧ Below w.heap.size w w' := by
  obtain ⟨rfl, ok2⟩ := i2
  obtain ⟨r0, ok0⟩ := i0
  obtain ⟨r1, ok1⟩ := i1
  have ha : ∀ (w : World) o, Below w.heap.size w (w.alloc o) := fun w o => (Below.refl _ _).alloc (Nat.le_refl _) o
  have A0 := dHide fun W (hb : Below w.heap.size w W) => r0.below hb
  have A1 := dHide fun W (hb : Below w.heap.size w W) => r1.below hb
  obtain ⟨v0a, v0c, rfl, v0l⟩ := formConfig r0
  obtain ⟨v1a, v1c, rfl, v1l⟩ := formIntS r1
  by_cases g1 : (1048576 : Int) < (m1.length : Int)
  · go_enter Try.func7, Try.ntmps7
    go_wp2
    go_ret
    exact ⟨rfl, ha w _⟩
  by_cases z0 : (1048576 : Int) < (sizConfig m0 : Int)
  · have CS := dHide fun W (hb : Below w.heap.size w W) => szConfig_ _ m0 1048576 (by omega) (by omega) W (dUnhide A0 W hb)
    rw [lft_no z0] at CS
    clear z0
    go_enter Try.func7, Try.ntmps7
    go_wp2_with fail
    refine (dUnhide CS _ (ha _ _)).mono ?_
    rintro e w1 ⟨rfl, b1⟩
    have B1 := belowThen (ha w _) b1
    clear b1 ha CS
    go_wp2
    go_ret
    exact ⟨rfl, B1⟩
  have hs0 : sizConfig m0 ≤ 1048576 := by omega
  have hs1 : sizIntS m1 ≤ 1048576 := by unfold sizIntS; omega
  have hc0 := cntConfig_le hs0
  have hc1 := cntIntS_le hs1
  obtain ⟨R, s1, hR, p1, p2⟩ := bothFnExactChoose m0 m1 m2 ok0 ok1 ok2 hs0 hs1
  have CP := dHide p1
  have CI := dHide p2
  have CS := dHide fun W (hb : Below w.heap.size w W) => szConfig_ _ m0 1048576 (by omega) (by omega) W (dUnhide A0 W hb)
  rw [lft_yes z0] at CS
  have z0' : ¬ ((1048576 : Int) - (sizConfig m0 : Int) < 0) := by omega
  clear p1 p2 r0 ok0 r1 ok1 ok2
  go_enter Try.func7, Try.ntmps7
  go_wp2_with fail
  have B := ha w (.cells #[.slice v0a m0.1.length v0c, .int .i64 m0.2] 43)
  have X0 := dHide (Sits.box w #[.slice v0a m0.1.length v0c, .int .i64 m0.2] 43)
  have sz0 : Hid (w.heap.size + 1 = (w.alloc (.cells #[.slice v0a m0.1.length v0c, .int .i64 m0.2] 43)).heap.size) := by simp [Hid]
  generalize w.alloc (.cells #[.slice v0a m0.1.length v0c, .int .i64 m0.2] 43) = wb at *
  refine (dUnhide CS _ B).mono ?_
  rintro e ws ⟨rfl, bs⟩
  have sz1 := dHide bs.size
  replace X0 := dHide ((dUnhide X0).below bs)
  replace B := belowThen B bs
  clear bs CS
  have k2 := (dUnhide X0).now 0 _ rfl
  have k3 := (dUnhide X0).now 1 _ rfl
  go_wp2_with fail
  refine (toConfig_ _ m0 _ hs0 (dUnhide A0 _ B)).mono ?_
  rintro e w6 ⟨u5, rfl, T4, b7⟩
  clear k2 k3
  have sz8 := dHide b7.size
  replace X0 := dHide ((dUnhide X0).below b7)
  replace B := belowThen B b7
  replace T4 := dHide T4
  clear b7
  obtain ⟨u5a, u5c, rfl, u5l⟩ := formConfig (dUnhide T4).now.rd
  go_wp2_with fail
  refine (toIntS_ _ m1 _ hs1 (dUnhide A1 _ B)).mono ?_
  rintro e w11 ⟨u10, rfl, T9, b12⟩
  have sz13 := dHide b12.size
  replace X0 := dHide ((dUnhide X0).below b12)
  replace T4 := dHide ((dUnhide T4).below b12)
  replace B := belowThen B b12
  replace T9 := dHide T9
  clear b12
  obtain ⟨u10a, u10c, rfl, u10l⟩ := formIntS (dUnhide T9).now.rd
  go_wp2_with fail
  refine (dUnhide CP _ _ _ (dUnhide T4).now.rd (dUnhide T9).now.rd).mono ?_
  rintro e w3 ⟨uw, rfl, OW, bw⟩
  clear T4 T9
  have sz14 := dHide bw.size
  replace X0 := dHide ((dUnhide X0).below bw)
  replace B := belowThen B bw
  replace OW := dHide OW
  clear bw CP
  obtain ⟨uwa, uwc, rfl, uwl⟩ := formIntS (dUnhide OW).now.rd
  have k15 := (dUnhide X0).now 0 _ rfl
  have k16 := (dUnhide X0).now 1 _ rfl
  go_wp2_with fail
  refine (toConfig_ _ m0 _ hs0 (dUnhide A0 _ B)).mono ?_
  rintro e w19 ⟨u18, rfl, T17, b20⟩
  clear k15 k16
  have sz21 := dHide b20.size
  replace X0 := dHide ((dUnhide X0).below b20)
  replace OW := dHide ((dUnhide OW).below b20)
  replace B := belowThen B b20
  replace T17 := dHide T17
  clear b20
  obtain ⟨u18a, u18c, rfl, u18l⟩ := formConfig (dUnhide T17).now.rd
  go_wp2_with fail
  have X23 := Sits.box w19 #[.slice u18a m0.1.length u18c, .int .i64 m0.2] 31
  have ba := ha w19 (.cells #[.slice u18a m0.1.length u18c, .int .i64 m0.2] 31)
  have sz24 := dHide ba.size
  replace X0 := dHide ((dUnhide X0).below ba)
  replace OW := dHide ((dUnhide OW).below ba)
  replace T17 := dHide ((dUnhide T17).below ba)
  replace B := belowThen B ba
  have sz25 : Hid (w19.heap.size + 1 = (w19.alloc (.cells #[.slice u18a m0.1.length u18c, .int .i64 m0.2] 31)).heap.size) := by simp [Hid]
  replace X23 := dHide X23
  clear ba
  generalize hbx22 : w19.heap.size = bx22 at *
  generalize w19.alloc (.cells #[.slice u18a m0.1.length u18c, .int .i64 m0.2] 31) = w26 at *
  have sz27 := dHide hbx22
  clear hbx22
  refine (toIntS_ _ m1 _ hs1 (dUnhide A1 _ B)).mono ?_
  rintro e w30 ⟨u29, rfl, T28, b31⟩
  have sz32 := dHide b31.size
  replace X0 := dHide ((dUnhide X0).below b31)
  replace OW := dHide ((dUnhide OW).below b31)
  replace T17 := dHide ((dUnhide T17).below b31)
  replace X23 := dHide ((dUnhide X23).below b31)
  replace B := belowThen B b31
  replace T28 := dHide T28
  clear b31
  obtain ⟨u29a, u29c, rfl, u29l⟩ := formIntS (dUnhide T28).now.rd
  have k33 := (dUnhide X23).now 0 _ rfl
  have k34 := (dUnhide X23).now 1 _ rfl
  go_wp2_with fail
  refine (dUnhide CI _ _ _ (dUnhide T17).now.rd (dUnhide T28).now.rd).mono ?_
  rintro e w35 ⟨ug, rfl, OG, b36⟩
  clear k33 k34
  have sz37 := dHide b36.size
  replace X0 := dHide ((dUnhide X0).below b36)
  replace OW := dHide ((dUnhide OW).below b36)
  replace T17 := dHide ((dUnhide T17).below b36)
  replace X23 := dHide ((dUnhide X23).below b36)
  replace T28 := dHide ((dUnhide T28).below b36)
  replace B := belowThen B b36
  replace OG := dHide OG
  clear b36
  obtain ⟨uga, ugc, rfl, ugl⟩ := formIntS (dUnhide OG).now.rd
  go_wp2_with fail
  refine (eqIntS_ _ _ _ _ (dUnhide OG).now.rd (dUnhide OW).now.rd).mono ?_
  rintro e w38 ⟨rfl, b39⟩
  have sz40 := dHide b39.size
  replace X0 := dHide ((dUnhide X0).below b39)
  replace OW := dHide ((dUnhide OW).below b39)
  replace T17 := dHide ((dUnhide T17).below b39)
  replace X23 := dHide ((dUnhide X23).below b39)
  replace T28 := dHide ((dUnhide T28).below b39)
  replace OG := dHide ((dUnhide OG).below b39)
  replace B := belowThen B b39
  clear b39
  have k41 := (dUnhide X23).now 0 _ rfl
  have k42 := (dUnhide X23).now 1 _ rfl
  have k43 := (dUnhide X0).now 0 _ rfl
  have k44 := (dUnhide X0).now 1 _ rfl
  have hbr := Below.refl w38.heap.size w38
  go_wp2_with fail
  go_cut [60] (fun sv wx => sv = .bool false ∧ Below w38.heap.size w38 wx)
  case first =>
    go_region_held3 (fun W => W.cell? ⟨bx22, 0, none⟩ = some (.slice u18a m0.1.length u18c) ∧ W.cell? ⟨bx22, 1, none⟩ = some (.int .i64 m0.2) ∧ W.cell? ⟨w.heap.size, 0, none⟩ = some (.slice v0a m0.1.length v0c) ∧ W.cell? ⟨w.heap.size, 1, none⟩ = some (.int .i64 m0.2)) (go_keep)
      (first
        | (go_at_call 27; refine (toConfig_ _ m0 _ hs0 (dUnhide A0 _ (belowThen B hbr.drew))).mono ?_; rintro e w8 ⟨o8, rfl, q8, b8⟩; have hb8 := belowThen hbr.drew b8; have k45 := ((dUnhide X23).at hb8) 0 _ rfl; have k46 := ((dUnhide X23).at hb8) 1 _ rfl; have k47 := ((dUnhide X0).at hb8) 0 _ rfl; have k48 := ((dUnhide X0).at hb8) 1 _ rfl; have Q8 := dHide q8; obtain ⟨o8a, o8c, rfl, o8l⟩ := formConfig q8.now.rd; clear q8)
        | (go_at_call 28; refine (eqConfig_ _ _ _ _ ((dUnhide T17).at hb8).rd (dUnhide Q8).now.rd).mono ?_; rintro e w9 ⟨rfl, b9⟩; have hb9 := belowThen hb8 b9; have k49 := ((dUnhide X23).at hb9) 0 _ rfl; have k50 := ((dUnhide X23).at hb9) 1 _ rfl; have k51 := ((dUnhide X0).at hb9) 0 _ rfl; have k52 := ((dUnhide X0).at hb9) 1 _ rfl))
    all_goals
      go_wp2_with fail
      go_meet
      case rel => exact ⟨rfl, hb9⟩
  case rest =>
    obtain ⟨rfl, bc⟩ := hcut
    clear hbr
    clear k41 k42 k43 k44
    have sz53 := dHide bc.size
    replace X0 := dHide ((dUnhide X0).below bc)
    replace OW := dHide ((dUnhide OW).below bc)
    replace T17 := dHide ((dUnhide T17).below bc)
    replace X23 := dHide ((dUnhide X23).below bc)
    replace T28 := dHide ((dUnhide T28).below bc)
    replace OG := dHide ((dUnhide OG).below bc)
    replace B := belowThen B bc
    generalize wc = w54 at *
    clear bc
    go_wp2_with fail
    refine (toIntS_ _ m1 _ hs1 (dUnhide A1 _ B)).mono ?_
    rintro e w57 ⟨u56, rfl, T55, b58⟩
    have sz59 := dHide b58.size
    replace X0 := dHide ((dUnhide X0).below b58)
    replace OW := dHide ((dUnhide OW).below b58)
    replace T17 := dHide ((dUnhide T17).below b58)
    replace X23 := dHide ((dUnhide X23).below b58)
    replace T28 := dHide ((dUnhide T28).below b58)
    replace OG := dHide ((dUnhide OG).below b58)
    replace B := belowThen B b58
    replace T55 := dHide T55
    clear b58
    obtain ⟨u56a, u56c, rfl, u56l⟩ := formIntS (dUnhide T55).now.rd
    go_wp2_with fail
    refine (eqIntS_ _ _ _ _ (dUnhide T28).now.rd (dUnhide T55).now.rd).mono ?_
    rintro e w60 ⟨rfl, b61⟩
    clear T55
    have sz62 := dHide b61.size
    replace X0 := dHide ((dUnhide X0).below b61)
    replace OW := dHide ((dUnhide OW).below b61)
    replace T17 := dHide ((dUnhide T17).below b61)
    replace X23 := dHide ((dUnhide X23).below b61)
    replace T28 := dHide ((dUnhide T28).below b61)
    replace OG := dHide ((dUnhide OG).below b61)
    replace B := belowThen B b61
    clear b61
    have k63 := (dUnhide X23).now 0 _ rfl
    have k64 := (dUnhide X23).now 1 _ rfl
    go_wp2_with fail
    refine (markConfig_ _ _ _ _ 1 _ (by omega) (by omega) (dUnhide T17)).mono ?_
    rintro e w65 ⟨rfl, M67, b66⟩
    clear k63 k64
    replace X0 := dHide ((dUnhide X0).wr b66 (by have := dUnhide sz0; have := dUnhide sz1; have := dUnhide sz8; have := dUnhide sz13; have := dUnhide sz14; have := dUnhide sz21; have := dUnhide sz24; have := dUnhide sz25; have := dUnhide sz27; have := dUnhide sz32; have := dUnhide sz37; have := dUnhide sz40; have := dUnhide sz53; have := dUnhide sz59; have := dUnhide sz62; omega))
    replace OW := dHide ((dUnhide OW).wr b66 (by have := dUnhide sz0; have := dUnhide sz1; have := dUnhide sz8; have := dUnhide sz13; have := dUnhide sz14; have := dUnhide sz21; have := dUnhide sz24; have := dUnhide sz25; have := dUnhide sz27; have := dUnhide sz32; have := dUnhide sz37; have := dUnhide sz40; have := dUnhide sz53; have := dUnhide sz59; have := dUnhide sz62; omega))
    replace X23 := dHide ((dUnhide X23).wr b66 (by have := dUnhide sz0; have := dUnhide sz1; have := dUnhide sz8; have := dUnhide sz13; have := dUnhide sz14; have := dUnhide sz21; have := dUnhide sz24; have := dUnhide sz25; have := dUnhide sz27; have := dUnhide sz32; have := dUnhide sz37; have := dUnhide sz40; have := dUnhide sz53; have := dUnhide sz59; have := dUnhide sz62; omega))
    replace T28 := dHide ((dUnhide T28).wr b66 (by have := dUnhide sz0; have := dUnhide sz1; have := dUnhide sz8; have := dUnhide sz13; have := dUnhide sz14; have := dUnhide sz21; have := dUnhide sz24; have := dUnhide sz25; have := dUnhide sz27; have := dUnhide sz32; have := dUnhide sz37; have := dUnhide sz40; have := dUnhide sz53; have := dUnhide sz59; have := dUnhide sz62; omega))
    replace OG := dHide ((dUnhide OG).wr b66 (by have := dUnhide sz0; have := dUnhide sz1; have := dUnhide sz8; have := dUnhide sz13; have := dUnhide sz14; have := dUnhide sz21; have := dUnhide sz24; have := dUnhide sz25; have := dUnhide sz27; have := dUnhide sz32; have := dUnhide sz37; have := dUnhide sz40; have := dUnhide sz53; have := dUnhide sz59; have := dUnhide sz62; omega))
    replace B := b66.below B B.size (by have := dUnhide sz0; have := dUnhide sz1; have := dUnhide sz8; have := dUnhide sz13; have := dUnhide sz14; have := dUnhide sz21; have := dUnhide sz24; have := dUnhide sz25; have := dUnhide sz27; have := dUnhide sz32; have := dUnhide sz37; have := dUnhide sz40; have := dUnhide sz53; have := dUnhide sz59; have := dUnhide sz62; omega)
    have sz68 := dHide b66.size
    replace M67 := dHide M67
    clear b66 T17
    go_wp2_with fail
    refine (markIntS_ _ _ _ _ (1 + cntConfig m0) _ (by omega) (by omega) (dUnhide T28)).mono ?_
    rintro e w69 ⟨rfl, M71, b70⟩
    replace X0 := dHide ((dUnhide X0).wr b70 (by have := dUnhide sz0; have := dUnhide sz1; have := dUnhide sz8; have := dUnhide sz13; have := dUnhide sz14; have := dUnhide sz21; have := dUnhide sz24; have := dUnhide sz25; have := dUnhide sz27; have := dUnhide sz32; have := dUnhide sz37; have := dUnhide sz40; have := dUnhide sz53; have := dUnhide sz59; have := dUnhide sz62; have := dUnhide sz68; omega))
    replace OW := dHide ((dUnhide OW).wr b70 (by have := dUnhide sz0; have := dUnhide sz1; have := dUnhide sz8; have := dUnhide sz13; have := dUnhide sz14; have := dUnhide sz21; have := dUnhide sz24; have := dUnhide sz25; have := dUnhide sz27; have := dUnhide sz32; have := dUnhide sz37; have := dUnhide sz40; have := dUnhide sz53; have := dUnhide sz59; have := dUnhide sz62; have := dUnhide sz68; omega))
    replace X23 := dHide ((dUnhide X23).wr b70 (by have := dUnhide sz0; have := dUnhide sz1; have := dUnhide sz8; have := dUnhide sz13; have := dUnhide sz14; have := dUnhide sz21; have := dUnhide sz24; have := dUnhide sz25; have := dUnhide sz27; have := dUnhide sz32; have := dUnhide sz37; have := dUnhide sz40; have := dUnhide sz53; have := dUnhide sz59; have := dUnhide sz62; have := dUnhide sz68; omega))
    replace OG := dHide ((dUnhide OG).wr b70 (by have := dUnhide sz0; have := dUnhide sz1; have := dUnhide sz8; have := dUnhide sz13; have := dUnhide sz14; have := dUnhide sz21; have := dUnhide sz24; have := dUnhide sz25; have := dUnhide sz27; have := dUnhide sz32; have := dUnhide sz37; have := dUnhide sz40; have := dUnhide sz53; have := dUnhide sz59; have := dUnhide sz62; have := dUnhide sz68; omega))
    replace M67 := dHide ((dUnhide M67).wr b70 (by have := dUnhide sz0; have := dUnhide sz1; have := dUnhide sz8; have := dUnhide sz13; have := dUnhide sz14; have := dUnhide sz21; have := dUnhide sz24; have := dUnhide sz25; have := dUnhide sz27; have := dUnhide sz32; have := dUnhide sz37; have := dUnhide sz40; have := dUnhide sz53; have := dUnhide sz59; have := dUnhide sz62; have := dUnhide sz68; omega))
    replace B := b70.below B B.size (by have := dUnhide sz0; have := dUnhide sz1; have := dUnhide sz8; have := dUnhide sz13; have := dUnhide sz14; have := dUnhide sz21; have := dUnhide sz24; have := dUnhide sz25; have := dUnhide sz27; have := dUnhide sz32; have := dUnhide sz37; have := dUnhide sz40; have := dUnhide sz53; have := dUnhide sz59; have := dUnhide sz62; have := dUnhide sz68; omega)
    have sz72 := dHide b70.size
    replace M71 := dHide M71
    clear b70 T28
    clear M67 M71 X23
    have hk : ¬ (((1 + cntConfig m0 + cntIntS m1 : Nat) : Int) < 0) := by omega
    go_wp2_with fail
    refine (eqIntS_ _ _ _ _ (dUnhide OG).now.rd (dUnhide OW).now.rd).mono ?_
    rintro e w73 ⟨rfl, b74⟩
    have sz75 := dHide b74.size
    replace X0 := dHide ((dUnhide X0).below b74)
    replace OW := dHide ((dUnhide OW).below b74)
    replace OG := dHide ((dUnhide OG).below b74)
    replace B := belowThen B b74
    clear b74
    go_wp2_with fail
    refine (markIntS_ _ _ _ _ 1 _ (by omega) (by omega) (dUnhide OG)).mono ?_
    rintro e w76 ⟨rfl, M78, b77⟩
    replace X0 := dHide ((dUnhide X0).wr b77 (by have := dUnhide sz0; have := dUnhide sz1; have := dUnhide sz8; have := dUnhide sz13; have := dUnhide sz14; have := dUnhide sz21; have := dUnhide sz24; have := dUnhide sz25; have := dUnhide sz27; have := dUnhide sz32; have := dUnhide sz37; have := dUnhide sz40; have := dUnhide sz53; have := dUnhide sz59; have := dUnhide sz62; have := dUnhide sz68; have := dUnhide sz72; have := dUnhide sz75; omega))
    replace OW := dHide ((dUnhide OW).wr b77 (by have := dUnhide sz0; have := dUnhide sz1; have := dUnhide sz8; have := dUnhide sz13; have := dUnhide sz14; have := dUnhide sz21; have := dUnhide sz24; have := dUnhide sz25; have := dUnhide sz27; have := dUnhide sz32; have := dUnhide sz37; have := dUnhide sz40; have := dUnhide sz53; have := dUnhide sz59; have := dUnhide sz62; have := dUnhide sz68; have := dUnhide sz72; have := dUnhide sz75; omega))
    replace B := b77.below B B.size (by have := dUnhide sz0; have := dUnhide sz1; have := dUnhide sz8; have := dUnhide sz13; have := dUnhide sz14; have := dUnhide sz21; have := dUnhide sz24; have := dUnhide sz25; have := dUnhide sz27; have := dUnhide sz32; have := dUnhide sz37; have := dUnhide sz40; have := dUnhide sz53; have := dUnhide sz59; have := dUnhide sz62; have := dUnhide sz68; have := dUnhide sz72; have := dUnhide sz75; omega)
    have sz79 := dHide b77.size
    replace M78 := dHide M78
    clear b77 OG
    go_wp2_with fail
    refine (heldIntS_ _ R 1 _ (by omega) (by omega) (dUnhide M78).now.rd).mono ?_
    rintro e w80 ⟨rfl, b81⟩
    have sz82 := dHide b81.size
    replace X0 := dHide ((dUnhide X0).below b81)
    replace OW := dHide ((dUnhide OW).below b81)
    replace M78 := dHide ((dUnhide M78).below b81)
    replace B := belowThen B b81
    clear b81
    have hq : ¬ (((1 + cntIntS R : Nat) : Int) < 0) := by omega
    have k83 := (dUnhide X0).now 0 _ rfl
    have k84 := (dUnhide X0).now 1 _ rfl
    go_wp2_with fail
    refine (toConfig_ _ m0 _ hs0 (dUnhide A0 _ B)).mono ?_
    rintro e w87 ⟨u86, rfl, T85, b88⟩
    clear k83 k84
    have sz89 := dHide b88.size
    replace X0 := dHide ((dUnhide X0).below b88)
    replace OW := dHide ((dUnhide OW).below b88)
    replace M78 := dHide ((dUnhide M78).below b88)
    replace B := belowThen B b88
    replace T85 := dHide T85
    clear b88
    obtain ⟨u86a, u86c, rfl, u86l⟩ := formConfig (dUnhide T85).now.rd
    go_wp2_with fail
    refine (toIntS_ _ m1 _ hs1 (dUnhide A1 _ B)).mono ?_
    rintro e w92 ⟨u91, rfl, T90, b93⟩
    have sz94 := dHide b93.size
    replace X0 := dHide ((dUnhide X0).below b93)
    replace OW := dHide ((dUnhide OW).below b93)
    replace M78 := dHide ((dUnhide M78).below b93)
    replace T85 := dHide ((dUnhide T85).below b93)
    replace B := belowThen B b93
    replace T90 := dHide T90
    clear b93
    obtain ⟨u91a, u91c, rfl, u91l⟩ := formIntS (dUnhide T90).now.rd
    go_wp2_with fail
    refine (dUnhide CI _ _ _ (dUnhide T85).now.rd (dUnhide T90).now.rd).mono ?_
    rintro e w95 ⟨uh, rfl, OH, b96⟩
    clear T85 T90
    have sz97 := dHide b96.size
    replace X0 := dHide ((dUnhide X0).below b96)
    replace OW := dHide ((dUnhide OW).below b96)
    replace M78 := dHide ((dUnhide M78).below b96)
    replace B := belowThen B b96
    replace OH := dHide OH
    clear b96
    obtain ⟨uha, uhc, rfl, uhl⟩ := formIntS (dUnhide OH).now.rd
    go_wp2_with fail
    refine (eqIntS_ _ _ _ _ (dUnhide OH).now.rd (dUnhide OW).now.rd).mono ?_
    rintro e w98 ⟨rfl, b99⟩
    have sz100 := dHide b99.size
    replace X0 := dHide ((dUnhide X0).below b99)
    replace OW := dHide ((dUnhide OW).below b99)
    replace M78 := dHide ((dUnhide M78).below b99)
    replace OH := dHide ((dUnhide OH).below b99)
    replace B := belowThen B b99
    clear b99
    go_wp2_with fail
    refine (heldIntS_ _ R 1 _ (by omega) (by omega) (dUnhide M78).now.rd).mono ?_
    rintro e w101 ⟨rfl, b102⟩
    have sz103 := dHide b102.size
    replace X0 := dHide ((dUnhide X0).below b102)
    replace OW := dHide ((dUnhide OW).below b102)
    replace M78 := dHide ((dUnhide M78).below b102)
    replace OH := dHide ((dUnhide OH).below b102)
    replace B := belowThen B b102
    clear b102
    clear X0 OW M78 OH
    go_wp2
    go_ret
    exact ⟨rfl, B⟩
end Go.Proofs.Ytofklfjomofijaa
