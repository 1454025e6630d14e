/- FnExactConfigPack: both answers, and the law's walk (printed by tools/mkl17.py). -/
import Derived.Test.YtioocibgfhgkhaaQ17C
import Derived.Deep.RegionHeld3
import Derived.Deep.DeepCutAuto
namespace Go.Proofs.Ytioocibgfhgkhaa
open Go.ChangeShapes Go.WideShapes Go.ChangeAt Go.RowKit
set_option linter.unusedVariables false
theorem bothFnExactConfigPack (m0 : List Int × Int) (ok0 : okConfig m0) (hs0 : sizConfig m0 ≤ 1048576) : ∃ (R : List UInt8) (s1 : Bool), cntByteS R ≤ 16777216 ∧ (∀ W v0, RdConfig v0 m0 W → Calls Try.prog 8 #[v0] W fun e w' => ∃ u, e = .returned (.tuple #[u, .bool s1]) ∧ Sits (OwByteS W.heap.size w'.heap.size u R) W.heap.size w'.heap.size w' ∧ Below W.heap.size W w') ∧ (∀ W v0, RdConfig v0 m0 W → Calls Try.prog 10 #[v0] W fun e w' => ∃ u, e = .returned (.tuple #[u, .bool s1]) ∧ Sits (OwByteS W.heap.size w'.heap.size u R) W.heap.size w'.heap.size w' ∧ Below W.heap.size W w') := bothConfigPack_ m0 ok0 hs0
set_option maxHeartbeats 4000000 in
set_option maxRecDepth 100000 in
theorem walkFnExactConfigPack (v0 : Value) (m0 : List Int × Int) (w : World) (i0 : IsConfig v0 m0 w) :
    Calls Try.prog 3 #[v0] w fun r w' => r = .returned (.bool true) ∧ Below w.heap.size w w' := by
  obtain ⟨r0, ok0⟩ := i0
  have ha : ∀ (w : World) o, Below w.heap.size w (w.alloc o) := fun w o => (Below.refl _ _).alloc (Nat.le_refl _) o
  have A0 := dHide fun W (hb : Below w.heap.size w W) => r0.below hb
  obtain ⟨v0a, v0c, rfl, v0l⟩ := formConfig r0
  by_cases z0 : (1048576 : Int) < (sizConfig m0 : Int)
  · have CS0 := dHide fun W (hb : Below w.heap.size w W) => szConfig_ _ m0 (1048576 : Int) (by omega) (by omega) W (dUnhide A0 W hb)
    rw [lft_no z0] at CS0
    clear z0
    go_enter Try.func3, Try.ntmps3
    go_wp2_with fail
    have B := ha w (.cells #[.slice v0a m0.1.length v0c, .int .i64 m0.2] 24)
    have X0 := dHide (Sits.box w #[.slice v0a m0.1.length v0c, .int .i64 m0.2] 24)
    have sz0 : Hid (w.heap.size + 1 = (w.alloc (.cells #[.slice v0a m0.1.length v0c, .int .i64 m0.2] 24)).heap.size) := by simp [Hid]
    generalize w.alloc (.cells #[.slice v0a m0.1.length v0c, .int .i64 m0.2] 24) = wb at *
    refine (dUnhide CS0 _ B).mono ?_
    rintro e ws0 ⟨rfl, bs⟩
    have sz1 := dHide bs.size
    replace X0 := dHide ((dUnhide X0).below bs)
    replace B := belowThen B bs
    clear bs CS0
    clear X0
    go_wp2
    go_ret
    exact ⟨rfl, B⟩
  have hs0 : sizConfig m0 ≤ 1048576 := by omega
  have hc0 := cntConfig_le hs0
  obtain ⟨R, s1, hR, p1, p2⟩ := bothFnExactConfigPack m0 ok0 hs0
  have CP := dHide p1
  have CI := dHide p2
  have CS0 := dHide fun W (hb : Below w.heap.size w W) => szConfig_ _ m0 (1048576 : Int) (by omega) (by omega) W (dUnhide A0 W hb)
  rw [lft_yes z0] at CS0
  have z0' : ¬ ((1048576 : Int) - (sizConfig m0 : Int) < 0) := by omega
  clear p1 p2 r0 ok0 
  go_enter Try.func3, Try.ntmps3
  go_wp2_with fail
  have B := ha w (.cells #[.slice v0a m0.1.length v0c, .int .i64 m0.2] 24)
  have X0 := dHide (Sits.box w #[.slice v0a m0.1.length v0c, .int .i64 m0.2] 24)
  have sz0 : Hid (w.heap.size + 1 = (w.alloc (.cells #[.slice v0a m0.1.length v0c, .int .i64 m0.2] 24)).heap.size) := by simp [Hid]
  generalize w.alloc (.cells #[.slice v0a m0.1.length v0c, .int .i64 m0.2] 24) = wb at *
  refine (dUnhide CS0 _ B).mono ?_
  rintro e ws0 ⟨rfl, bs⟩
  have sz1 := dHide bs.size
  replace X0 := dHide ((dUnhide X0).below bs)
  replace B := belowThen B bs
  clear bs CS0
  have k2 := (dUnhide X0).now 0 _ rfl
  have k3 := (dUnhide X0).now 1 _ rfl
  go_wp2_with fail
  refine (toConfig_ _ m0 _ hs0 (dUnhide A0 _ B)).mono ?_
  rintro e w6 ⟨u5, rfl, T4, b7⟩
  clear k2 k3
  have sz8 := dHide b7.size
  replace X0 := dHide ((dUnhide X0).below b7)
  replace B := belowThen B b7
  replace T4 := dHide T4
  clear b7
  obtain ⟨u5a, u5c, rfl, u5l⟩ := formConfig (dUnhide T4).now.rd
  go_wp2_with fail
  refine (dUnhide CP _ _ (dUnhide T4).now.rd).mono ?_
  rintro e w3 ⟨uw, rfl, OW, bw⟩
  clear T4
  have sz9 := dHide bw.size
  replace X0 := dHide ((dUnhide X0).below bw)
  replace B := belowThen B bw
  replace OW := dHide OW
  clear bw CP
  obtain ⟨uwa, uwc, rfl, uwl⟩ := formByteS (dUnhide OW).now.rd
  have k10 := (dUnhide X0).now 0 _ rfl
  have k11 := (dUnhide X0).now 1 _ rfl
  go_wp2_with fail
  refine (toConfig_ _ m0 _ hs0 (dUnhide A0 _ B)).mono ?_
  rintro e w14 ⟨u13, rfl, T12, b15⟩
  clear k10 k11
  have sz16 := dHide b15.size
  replace X0 := dHide ((dUnhide X0).below b15)
  replace OW := dHide ((dUnhide OW).below b15)
  replace B := belowThen B b15
  replace T12 := dHide T12
  clear b15
  obtain ⟨u13a, u13c, rfl, u13l⟩ := formConfig (dUnhide T12).now.rd
  have X17 := Sits.box w14 #[.slice u13a m0.1.length u13c, .int .i64 m0.2] 29
  have ba := ha w14 (.cells #[.slice u13a m0.1.length u13c, .int .i64 m0.2] 29)
  have sz19 := dHide ba.size
  replace X0 := dHide ((dUnhide X0).below ba)
  replace OW := dHide ((dUnhide OW).below ba)
  replace T12 := dHide ((dUnhide T12).below ba)
  replace B := belowThen B ba
  have sz20 : Hid (w14.heap.size + 1 = (w14.alloc (.cells #[.slice u13a m0.1.length u13c, .int .i64 m0.2] 29)).heap.size) := by simp [Hid]
  replace X17 := dHide X17
  clear ba
  go_wp2_with fail
  generalize hbx18 : w14.heap.size = bx18 at *
  generalize w14.alloc (.cells #[.slice u13a m0.1.length u13c, .int .i64 m0.2] 29) = w21 at *
  have sz22 := dHide hbx18
  clear hbx18
  have k23 := (dUnhide X17).now 0 _ rfl
  have k24 := (dUnhide X17).now 1 _ rfl
  refine (dUnhide CI _ _ (dUnhide T12).now.rd).mono ?_
  rintro e w25 ⟨ug, rfl, OG, b26⟩
  clear k23 k24
  have sz27 := dHide b26.size
  replace X0 := dHide ((dUnhide X0).below b26)
  replace OW := dHide ((dUnhide OW).below b26)
  replace T12 := dHide ((dUnhide T12).below b26)
  replace X17 := dHide ((dUnhide X17).below b26)
  replace B := belowThen B b26
  replace OG := dHide OG
  clear b26
  obtain ⟨uga, ugc, rfl, ugl⟩ := formByteS (dUnhide OG).now.rd
  go_wp2_with fail
  refine (eqByteS_ _ _ _ _ (dUnhide OG).now.rd (dUnhide OW).now.rd).mono ?_
  rintro e w28 ⟨rfl, b29⟩
  have sz30 := dHide b29.size
  replace X0 := dHide ((dUnhide X0).below b29)
  replace OW := dHide ((dUnhide OW).below b29)
  replace T12 := dHide ((dUnhide T12).below b29)
  replace X17 := dHide ((dUnhide X17).below b29)
  replace OG := dHide ((dUnhide OG).below b29)
  replace B := belowThen B b29
  clear b29
  have k31 := (dUnhide X17).now 0 _ rfl
  have k32 := (dUnhide X17).now 1 _ rfl
  have k33 := (dUnhide X0).now 0 _ rfl
  have k34 := (dUnhide X0).now 1 _ rfl
  have hbr := Below.refl w28.heap.size w28
  go_wp2_with fail
  go_cut [45] (fun sv wx => sv = .bool false ∧ Below w28.heap.size w28 wx)
  case first =>
    go_region_held3 (fun W => W.cell? ⟨bx18, 0, none⟩ = some (.slice u13a m0.1.length u13c) ∧ W.cell? ⟨bx18, 1, none⟩ = some (.int .i64 m0.2) ∧ W.cell? ⟨w.heap.size, 0, none⟩ = some (.slice v0a m0.1.length v0c) ∧ W.cell? ⟨w.heap.size, 1, none⟩ = some (.int .i64 m0.2)) (go_keep)
      (first
        | (go_at_call 9; refine (toConfig_ _ m0 _ hs0 (dUnhide A0 _ (belowThen B hbr.drew))).mono ?_; rintro e w8 ⟨o8, rfl, q8, b8⟩; have hb8 := belowThen hbr.drew b8; have k35 := ((dUnhide X17).at hb8) 0 _ rfl; have k36 := ((dUnhide X17).at hb8) 1 _ rfl; have k37 := ((dUnhide X0).at hb8) 0 _ rfl; have k38 := ((dUnhide X0).at hb8) 1 _ rfl; have Q8 := dHide q8; obtain ⟨o8a, o8c, rfl, o8l⟩ := formConfig q8.now.rd; clear q8)
        | (go_at_call 12; refine (eqConfig_ _ _ _ _ ((dUnhide T12).at hb8).rd (dUnhide Q8).now.rd).mono ?_; rintro e w9 ⟨rfl, b9⟩; have hb9 := belowThen hb8 b9; have k39 := ((dUnhide X17).at hb9) 0 _ rfl; have k40 := ((dUnhide X17).at hb9) 1 _ rfl; have k41 := ((dUnhide X0).at hb9) 0 _ rfl; have k42 := ((dUnhide X0).at hb9) 1 _ rfl))
    all_goals
      go_wp2_with fail
      go_meet
      case rel => exact ⟨rfl, hb9⟩
  case rest =>
    obtain ⟨rfl, bc⟩ := hcut
    clear hbr
    clear k31 k32 k33 k34
    have sz43 := dHide bc.size
    replace X0 := dHide ((dUnhide X0).below bc)
    replace OW := dHide ((dUnhide OW).below bc)
    replace T12 := dHide ((dUnhide T12).below bc)
    replace X17 := dHide ((dUnhide X17).below bc)
    replace OG := dHide ((dUnhide OG).below bc)
    replace B := belowThen B bc
    generalize wc = w44 at *
    clear bc
    have k45 := (dUnhide X17).now 0 _ rfl
    have k46 := (dUnhide X17).now 1 _ rfl
    go_wp2_with fail
    refine (markConfig_ _ _ _ _ 1 _ (by omega) (by omega) (dUnhide T12)).mono ?_
    rintro e w47 ⟨rfl, M49, b48⟩
    clear k45 k46
    replace X0 := dHide ((dUnhide X0).wr b48 (by have := dUnhide sz0; have := dUnhide sz1; have := dUnhide sz8; have := dUnhide sz9; have := dUnhide sz16; have := dUnhide sz19; have := dUnhide sz20; have := dUnhide sz22; have := dUnhide sz27; have := dUnhide sz30; have := dUnhide sz43; omega))
    replace OW := dHide ((dUnhide OW).wr b48 (by have := dUnhide sz0; have := dUnhide sz1; have := dUnhide sz8; have := dUnhide sz9; have := dUnhide sz16; have := dUnhide sz19; have := dUnhide sz20; have := dUnhide sz22; have := dUnhide sz27; have := dUnhide sz30; have := dUnhide sz43; omega))
    replace X17 := dHide ((dUnhide X17).wr b48 (by have := dUnhide sz0; have := dUnhide sz1; have := dUnhide sz8; have := dUnhide sz9; have := dUnhide sz16; have := dUnhide sz19; have := dUnhide sz20; have := dUnhide sz22; have := dUnhide sz27; have := dUnhide sz30; have := dUnhide sz43; omega))
    replace OG := dHide ((dUnhide OG).wr b48 (by have := dUnhide sz0; have := dUnhide sz1; have := dUnhide sz8; have := dUnhide sz9; have := dUnhide sz16; have := dUnhide sz19; have := dUnhide sz20; have := dUnhide sz22; have := dUnhide sz27; have := dUnhide sz30; have := dUnhide sz43; omega))
    replace B := b48.below B B.size (by have := dUnhide sz0; have := dUnhide sz1; have := dUnhide sz8; have := dUnhide sz9; have := dUnhide sz16; have := dUnhide sz19; have := dUnhide sz20; have := dUnhide sz22; have := dUnhide sz27; have := dUnhide sz30; have := dUnhide sz43; omega)
    have sz50 := dHide b48.size
    replace M49 := dHide M49
    clear b48 T12
    clear M49 X17
    have hk : ¬ (((1 + cntConfig m0 : Nat) : Int) < 0) := by omega
    go_wp2_with fail
    refine (eqByteS_ _ _ _ _ (dUnhide OG).now.rd (dUnhide OW).now.rd).mono ?_
    rintro e w51 ⟨rfl, b52⟩
    have sz53 := dHide b52.size
    replace X0 := dHide ((dUnhide X0).below b52)
    replace OW := dHide ((dUnhide OW).below b52)
    replace OG := dHide ((dUnhide OG).below b52)
    replace B := belowThen B b52
    clear b52
    go_wp2_with fail
    refine (markByteS_ _ _ _ _ 1 _ (by omega) (by omega) (dUnhide OG)).mono ?_
    rintro e w54 ⟨rfl, M56, b55⟩
    replace X0 := dHide ((dUnhide X0).wr b55 (by have := dUnhide sz0; have := dUnhide sz1; have := dUnhide sz8; have := dUnhide sz9; have := dUnhide sz16; have := dUnhide sz19; have := dUnhide sz20; have := dUnhide sz22; have := dUnhide sz27; have := dUnhide sz30; have := dUnhide sz43; have := dUnhide sz50; have := dUnhide sz53; omega))
    replace OW := dHide ((dUnhide OW).wr b55 (by have := dUnhide sz0; have := dUnhide sz1; have := dUnhide sz8; have := dUnhide sz9; have := dUnhide sz16; have := dUnhide sz19; have := dUnhide sz20; have := dUnhide sz22; have := dUnhide sz27; have := dUnhide sz30; have := dUnhide sz43; have := dUnhide sz50; have := dUnhide sz53; omega))
    replace B := b55.below B B.size (by have := dUnhide sz0; have := dUnhide sz1; have := dUnhide sz8; have := dUnhide sz9; have := dUnhide sz16; have := dUnhide sz19; have := dUnhide sz20; have := dUnhide sz22; have := dUnhide sz27; have := dUnhide sz30; have := dUnhide sz43; have := dUnhide sz50; have := dUnhide sz53; omega)
    have sz57 := dHide b55.size
    replace M56 := dHide M56
    clear b55 OG
    go_wp2_with fail
    refine (heldByteS_ _ R 1 _ (by omega) (by omega) (dUnhide M56).now.rd).mono ?_
    rintro e w58 ⟨rfl, b59⟩
    have sz60 := dHide b59.size
    replace X0 := dHide ((dUnhide X0).below b59)
    replace OW := dHide ((dUnhide OW).below b59)
    replace M56 := dHide ((dUnhide M56).below b59)
    replace B := belowThen B b59
    clear b59
    have hq : ¬ (((1 + cntByteS R : Nat) : Int) < 0) := by omega
    have k61 := (dUnhide X0).now 0 _ rfl
    have k62 := (dUnhide X0).now 1 _ rfl
    go_wp2_with fail
    refine (toConfig_ _ m0 _ hs0 (dUnhide A0 _ B)).mono ?_
    rintro e w65 ⟨u64, rfl, T63, b66⟩
    clear k61 k62
    have sz67 := dHide b66.size
    replace X0 := dHide ((dUnhide X0).below b66)
    replace OW := dHide ((dUnhide OW).below b66)
    replace M56 := dHide ((dUnhide M56).below b66)
    replace B := belowThen B b66
    replace T63 := dHide T63
    clear b66
    obtain ⟨u64a, u64c, rfl, u64l⟩ := formConfig (dUnhide T63).now.rd
    go_wp2_with fail
    refine (dUnhide CI _ _ (dUnhide T63).now.rd).mono ?_
    rintro e w68 ⟨uh, rfl, OH, b69⟩
    clear T63
    have sz70 := dHide b69.size
    replace X0 := dHide ((dUnhide X0).below b69)
    replace OW := dHide ((dUnhide OW).below b69)
    replace M56 := dHide ((dUnhide M56).below b69)
    replace B := belowThen B b69
    replace OH := dHide OH
    clear b69
    obtain ⟨uha, uhc, rfl, uhl⟩ := formByteS (dUnhide OH).now.rd
    go_wp2_with fail
    refine (eqByteS_ _ _ _ _ (dUnhide OH).now.rd (dUnhide OW).now.rd).mono ?_
    rintro e w71 ⟨rfl, b72⟩
    have sz73 := dHide b72.size
    replace X0 := dHide ((dUnhide X0).below b72)
    replace OW := dHide ((dUnhide OW).below b72)
    replace M56 := dHide ((dUnhide M56).below b72)
    replace OH := dHide ((dUnhide OH).below b72)
    replace B := belowThen B b72
    clear b72
    go_wp2_with fail
    refine (heldByteS_ _ R 1 _ (by omega) (by omega) (dUnhide M56).now.rd).mono ?_
    rintro e w74 ⟨rfl, b75⟩
    have sz76 := dHide b75.size
    replace X0 := dHide ((dUnhide X0).below b75)
    replace OW := dHide ((dUnhide OW).below b75)
    replace M56 := dHide ((dUnhide M56).below b75)
    replace OH := dHide ((dUnhide OH).below b75)
    replace B := belowThen B b75
    clear b75
    clear X0 OW M56 OH
    go_wp2
    go_ret
    exact ⟨rfl, B⟩
end Go.Proofs.Ytioocibgfhgkhaa
