/- FnExactFill: both answers, and the law's walk (printed by tools/mkl11.py). -/
import Derived.Test.YtoeamgcoeoaijaaQ11F
import Derived.Test.YtoeamgcoeoaijaaBoxQ
import Derived.Deep.RegionHeld3
import Derived.Deep.DeepCutAuto
namespace Go.Proofs.Ytoeamgcoeoaijaa
open Go.ChangeShapes Go.WideShapes Go.ChangeAt Go.RowKit
set_option linter.unusedVariables false
theorem bothFnExactFill (m0 : List Int × Int) (m1 : List St) (m2 : List Int) (m3 m4 : Int) (ok0 : okConfig m0) (ok1 : okStoreS m1) (ok2 : okIntS m2) (ok3 : okInt m3) (ok4 : okInt m4) (hs0 : sizConfig m0 ≤ 1048576) (hs1 : sizStoreS m1 ≤ 1048576) (hs2 : sizIntS m2 ≤ 1048576) : ∃ (R : St) (s1 : Bool), cntStore R ≤ 8388608 ∧ (∀ W v0 v1 v2, RdConfig v0 m0 W → RdStoreS v1 m1 W → RdIntS v2 m2 W → Calls Try.prog 29 #[v0, v1, v2, .int .i64 m3, .int .i64 m4] W fun e w' => ∃ u, e = .returned (.tuple #[u, .bool s1]) ∧ Sits (OwStore W.heap.size w'.heap.size u R) W.heap.size w'.heap.size w' ∧ Below W.heap.size W w') ∧ (∀ W v0 v1 v2, RdConfig v0 m0 W → RdStoreS v1 m1 W → RdIntS v2 m2 W → Calls Try.prog 30 #[v0, v1, v2, .int .i64 m3, .int .i64 m4] W fun e w' => ∃ u, e = .returned (.tuple #[u, .bool s1]) ∧ Sits (OwStore W.heap.size w'.heap.size u R) W.heap.size w'.heap.size w' ∧ Below W.heap.size W w') := bothFill_ m0 m1 m2 m3 m4 ok0 ok1 ok2 ok3 ok4 hs0 hs1 hs2
set_option maxHeartbeats 4000000 in
set_option maxRecDepth 100000 in
theorem walkFnExactFill (v0 v1 v2 v3 v4 : Value) (m0 : List Int × Int) (m1 : List St) (m2 : List Int) (m3 : Int) (m4 : Int) (w : World) (i0 : IsConfig v0 m0 w) (i1 : IsStoreS v1 m1 w) (i2 : IsIntS v2 m2 w) (i3 : IsInt v3 m3 w) (i4 : IsInt v4 m4 w) :
    Calls Try.prog 6 #[v0, v1, v2, v3, v4] w fun r w' => r = .returned (.bool true) ∧ Below w.heap.size w w' := by
  obtain ⟨rfl, ok3⟩ := i3
  obtain ⟨rfl, ok4⟩ := i4
  obtain ⟨r0, ok0⟩ := i0
  obtain ⟨r1, ok1⟩ := i1
  obtain ⟨r2, ok2⟩ := i2
  have ha : ∀ (w : World) o, Below w.heap.size w (w.alloc o) := fun w o => (Below.refl _ _).alloc (Nat.le_refl _) o
  have A0 := dHide fun W (hb : Below w.heap.size w W) => r0.below hb
  have A1 := dHide fun W (hb : Below w.heap.size w W) => r1.below hb
  have A2 := dHide fun W (hb : Below w.heap.size w W) => r2.below hb
  obtain ⟨v0a, v0c, rfl, v0l⟩ := formConfig r0
  obtain ⟨v1a, v1c, rfl, v1l⟩ := formStoreS r1
  obtain ⟨v2a, v2c, rfl, v2l⟩ := formIntS r2
  by_cases g2 : (1048576 : Int) < (m2.length : Int)
  · go_enter Try.func6, Try.ntmps6
    go_wp2
    go_ret
    exact ⟨rfl, ha w _⟩
  by_cases z0 : (1048576 : Int) < (sizConfig m0 : Int)
  · have CS0 := dHide fun W (hb : Below w.heap.size w W) => szConfig_ _ m0 (1048576 : Int) (by omega) (by omega) W (dUnhide A0 W hb)
    rw [lft_no z0] at CS0
    clear z0
    go_enter Try.func6, Try.ntmps6
    go_wp2_with fail
    have B := ha w (.cells #[.slice v0a m0.1.length v0c, .int .i64 m0.2] 39)
    have X0 := dHide (Sits.box w #[.slice v0a m0.1.length v0c, .int .i64 m0.2] 39)
    have sz0 : Hid (w.heap.size + 1 = (w.alloc (.cells #[.slice v0a m0.1.length v0c, .int .i64 m0.2] 39)).heap.size) := by simp [Hid]
    generalize w.alloc (.cells #[.slice v0a m0.1.length v0c, .int .i64 m0.2] 39) = wb at *
    refine (dUnhide CS0 _ B).mono ?_
    rintro e ws0 ⟨rfl, bs⟩
    have sz1 := dHide bs.size
    replace X0 := dHide ((dUnhide X0).below bs)
    replace B := belowThen B bs
    clear bs CS0
    clear X0
    go_wp2
    go_ret
    exact ⟨rfl, B⟩
  by_cases z1 : ((1048576 : Int) - (sizConfig m0 : Int)) < (sizStoreS m1 : Int)
  · have CS0 := dHide fun W (hb : Below w.heap.size w W) => szConfig_ _ m0 (1048576 : Int) (by omega) (by omega) W (dUnhide A0 W hb)
    rw [lft_yes z0] at CS0
    have z0' : ¬ ((1048576 : Int) - (sizConfig m0 : Int) < 0) := by omega
    have CS1 := dHide fun W (hb : Below w.heap.size w W) => szStoreS_ _ m1 ((1048576 : Int) - (sizConfig m0 : Int)) (by omega) (by omega) (txtSS_of ok1) W (dUnhide A1 W hb)
    rw [lft_no z1] at CS1
    clear z0 z1
    go_enter Try.func6, Try.ntmps6
    go_wp2_with fail
    have B := ha w (.cells #[.slice v0a m0.1.length v0c, .int .i64 m0.2] 39)
    have X0 := dHide (Sits.box w #[.slice v0a m0.1.length v0c, .int .i64 m0.2] 39)
    have sz0 : Hid (w.heap.size + 1 = (w.alloc (.cells #[.slice v0a m0.1.length v0c, .int .i64 m0.2] 39)).heap.size) := by simp [Hid]
    generalize w.alloc (.cells #[.slice v0a m0.1.length v0c, .int .i64 m0.2] 39) = wb at *
    refine (dUnhide CS0 _ B).mono ?_
    rintro e ws0 ⟨rfl, bs⟩
    have sz1 := dHide bs.size
    replace X0 := dHide ((dUnhide X0).below bs)
    replace B := belowThen B bs
    clear bs CS0
    go_wp2_with fail
    refine (dUnhide CS1 _ B).mono ?_
    rintro e ws1 ⟨rfl, bs⟩
    have sz2 := dHide bs.size
    replace X0 := dHide ((dUnhide X0).below bs)
    replace B := belowThen B bs
    clear bs CS1
    clear X0
    go_wp2
    go_ret
    exact ⟨rfl, B⟩
  have hs0 : sizConfig m0 ≤ 1048576 := by omega
  have hs1 : sizStoreS m1 ≤ 1048576 := by omega
  have hs2 : sizIntS m2 ≤ 1048576 := by unfold sizIntS; omega
  have hc0 := cntConfig_le hs0
  have hc1 := cntStoreS_le hs1
  have hc2 := cntIntS_le hs2
  obtain ⟨R, s1, hR, p1, p2⟩ := bothFnExactFill m0 m1 m2 m3 m4 ok0 ok1 ok2 ok3 ok4 hs0 hs1 hs2
  have CP := dHide p1
  have CI := dHide p2
  have CS0 := dHide fun W (hb : Below w.heap.size w W) => szConfig_ _ m0 (1048576 : Int) (by omega) (by omega) W (dUnhide A0 W hb)
  rw [lft_yes z0] at CS0
  have z0' : ¬ ((1048576 : Int) - (sizConfig m0 : Int) < 0) := by omega
  have CS1 := dHide fun W (hb : Below w.heap.size w W) => szStoreS_ _ m1 ((1048576 : Int) - (sizConfig m0 : Int)) (by omega) (by omega) (txtSS_of ok1) W (dUnhide A1 W hb)
  rw [lft_yes z1] at CS1
  have z1' : ¬ (((1048576 : Int) - (sizConfig m0 : Int)) - (sizStoreS m1 : Int) < 0) := by omega
  clear p1 p2 r0 ok0 r1 ok1 r2 ok2 ok3 ok4
  go_enter Try.func6, Try.ntmps6
  go_wp2_with fail
  have B := ha w (.cells #[.slice v0a m0.1.length v0c, .int .i64 m0.2] 39)
  have X0 := dHide (Sits.box w #[.slice v0a m0.1.length v0c, .int .i64 m0.2] 39)
  have sz0 : Hid (w.heap.size + 1 = (w.alloc (.cells #[.slice v0a m0.1.length v0c, .int .i64 m0.2] 39)).heap.size) := by simp [Hid]
  generalize w.alloc (.cells #[.slice v0a m0.1.length v0c, .int .i64 m0.2] 39) = wb at *
  refine (dUnhide CS0 _ B).mono ?_
  rintro e ws0 ⟨rfl, bs⟩
  have sz1 := dHide bs.size
  replace X0 := dHide ((dUnhide X0).below bs)
  replace B := belowThen B bs
  clear bs CS0
  go_wp2_with fail
  refine (dUnhide CS1 _ B).mono ?_
  rintro e ws1 ⟨rfl, bs⟩
  have sz2 := dHide bs.size
  replace X0 := dHide ((dUnhide X0).below bs)
  replace B := belowThen B bs
  clear bs CS1
  have k3 := (dUnhide X0).now 0 _ rfl
  have k4 := (dUnhide X0).now 1 _ rfl
  go_wp2_with fail
  refine (toConfig_ _ m0 _ hs0 (dUnhide A0 _ B)).mono ?_
  rintro e w7 ⟨u6, rfl, T5, b8⟩
  clear k3 k4
  have sz9 := dHide b8.size
  replace X0 := dHide ((dUnhide X0).below b8)
  replace B := belowThen B b8
  replace T5 := dHide T5
  clear b8
  obtain ⟨u6a, u6c, rfl, u6l⟩ := formConfig (dUnhide T5).now.rd
  go_wp2_with fail
  refine (toStoreS_ _ m1 _ hs1 (dUnhide A1 _ B)).mono ?_
  rintro e w12 ⟨u11, rfl, T10, b13⟩
  have sz14 := dHide b13.size
  replace X0 := dHide ((dUnhide X0).below b13)
  replace T5 := dHide ((dUnhide T5).below b13)
  replace B := belowThen B b13
  replace T10 := dHide T10
  clear b13
  obtain ⟨u11a, u11c, rfl, u11l⟩ := formStoreS (dUnhide T10).now.rd
  go_wp2_with fail
  refine (toIntS_ _ m2 _ hs2 (dUnhide A2 _ B)).mono ?_
  rintro e w17 ⟨u16, rfl, T15, b18⟩
  have sz19 := dHide b18.size
  replace X0 := dHide ((dUnhide X0).below b18)
  replace T5 := dHide ((dUnhide T5).below b18)
  replace T10 := dHide ((dUnhide T10).below b18)
  replace B := belowThen B b18
  replace T15 := dHide T15
  clear b18
  obtain ⟨u16a, u16c, rfl, u16l⟩ := formIntS (dUnhide T15).now.rd
  go_wp2_with fail
  refine (dUnhide CP _ _ _ _ (dUnhide T5).now.rd (dUnhide T10).now.rd (dUnhide T15).now.rd).mono ?_
  rintro e w3 ⟨uw, rfl, OW, bw⟩
  clear T5 T10 T15
  have sz20 := dHide bw.size
  replace X0 := dHide ((dUnhide X0).below bw)
  replace B := belowThen B bw
  replace OW := dHide OW
  clear bw CP
  obtain ⟨uwka, uwkc, uwla, uwlc, rfl, uwl1, uwl2⟩ := formStore (dUnhide OW).now.rd
  have X21 := Sits.box w3 #[.slice uwka R.kept.length uwkc, .slice uwla R.late.length uwlc, .int .i64 R.lock] 31
  have ba := ha w3 (.cells #[.slice uwka R.kept.length uwkc, .slice uwla R.late.length uwlc, .int .i64 R.lock] 31)
  have sz23 := dHide ba.size
  replace X0 := dHide ((dUnhide X0).below ba)
  replace OW := dHide ((dUnhide OW).below ba)
  replace B := belowThen B ba
  have sz24 : Hid (w3.heap.size + 1 = (w3.alloc (.cells #[.slice uwka R.kept.length uwkc, .slice uwla R.late.length uwlc, .int .i64 R.lock] 31)).heap.size) := by simp [Hid]
  replace X21 := dHide X21
  clear ba
  have k25 := (dUnhide X0).now 0 _ rfl
  have k26 := (dUnhide X0).now 1 _ rfl
  go_wp2_with fail
  generalize hbx22 : w3.heap.size = bx22 at *
  generalize w3.alloc (.cells #[.slice uwka R.kept.length uwkc, .slice uwla R.late.length uwlc, .int .i64 R.lock] 31) = w27 at *
  have sz28 := dHide hbx22
  clear hbx22
  have k29 := (dUnhide X0).now 0 _ rfl
  have k30 := (dUnhide X0).now 1 _ rfl
  refine (toConfig_ _ m0 _ hs0 (dUnhide A0 _ B)).mono ?_
  rintro e w33 ⟨u32, rfl, T31, b34⟩
  clear k29 k30
  clear k25 k26
  have sz35 := dHide b34.size
  replace X0 := dHide ((dUnhide X0).below b34)
  replace OW := dHide ((dUnhide OW).below b34)
  replace X21 := dHide ((dUnhide X21).below b34)
  replace B := belowThen B b34
  replace T31 := dHide T31
  clear b34
  obtain ⟨u32a, u32c, rfl, u32l⟩ := formConfig (dUnhide T31).now.rd
  have X36 := Sits.box w33 #[.slice u32a m0.1.length u32c, .int .i64 m0.2] 42
  have ba := ha w33 (.cells #[.slice u32a m0.1.length u32c, .int .i64 m0.2] 42)
  have sz38 := dHide ba.size
  replace X0 := dHide ((dUnhide X0).below ba)
  replace OW := dHide ((dUnhide OW).below ba)
  replace X21 := dHide ((dUnhide X21).below ba)
  replace T31 := dHide ((dUnhide T31).below ba)
  replace B := belowThen B ba
  have sz39 : Hid (w33.heap.size + 1 = (w33.alloc (.cells #[.slice u32a m0.1.length u32c, .int .i64 m0.2] 42)).heap.size) := by simp [Hid]
  replace X36 := dHide X36
  clear ba
  go_wp2_with fail
  generalize hbx37 : w33.heap.size = bx37 at *
  generalize w33.alloc (.cells #[.slice u32a m0.1.length u32c, .int .i64 m0.2] 42) = w40 at *
  have sz41 := dHide hbx37
  clear hbx37
  refine (toStoreS_ _ m1 _ hs1 (dUnhide A1 _ B)).mono ?_
  rintro e w44 ⟨u43, rfl, T42, b45⟩
  have sz46 := dHide b45.size
  replace X0 := dHide ((dUnhide X0).below b45)
  replace OW := dHide ((dUnhide OW).below b45)
  replace X21 := dHide ((dUnhide X21).below b45)
  replace T31 := dHide ((dUnhide T31).below b45)
  replace X36 := dHide ((dUnhide X36).below b45)
  replace B := belowThen B b45
  replace T42 := dHide T42
  clear b45
  obtain ⟨u43a, u43c, rfl, u43l⟩ := formStoreS (dUnhide T42).now.rd
  go_wp2_with fail
  refine (toIntS_ _ m2 _ hs2 (dUnhide A2 _ B)).mono ?_
  rintro e w49 ⟨u48, rfl, T47, b50⟩
  have sz51 := dHide b50.size
  replace X0 := dHide ((dUnhide X0).below b50)
  replace OW := dHide ((dUnhide OW).below b50)
  replace X21 := dHide ((dUnhide X21).below b50)
  replace T31 := dHide ((dUnhide T31).below b50)
  replace X36 := dHide ((dUnhide X36).below b50)
  replace T42 := dHide ((dUnhide T42).below b50)
  replace B := belowThen B b50
  replace T47 := dHide T47
  clear b50
  obtain ⟨u48a, u48c, rfl, u48l⟩ := formIntS (dUnhide T47).now.rd
  have k52 := (dUnhide X36).now 0 _ rfl
  have k53 := (dUnhide X36).now 1 _ rfl
  go_wp2_with fail
  refine (dUnhide CI _ _ _ _ (dUnhide T31).now.rd (dUnhide T42).now.rd (dUnhide T47).now.rd).mono ?_
  rintro e w54 ⟨ug, rfl, OG, b55⟩
  clear k52 k53
  have sz56 := dHide b55.size
  replace X0 := dHide ((dUnhide X0).below b55)
  replace OW := dHide ((dUnhide OW).below b55)
  replace X21 := dHide ((dUnhide X21).below b55)
  replace T31 := dHide ((dUnhide T31).below b55)
  replace X36 := dHide ((dUnhide X36).below b55)
  replace T42 := dHide ((dUnhide T42).below b55)
  replace T47 := dHide ((dUnhide T47).below b55)
  replace B := belowThen B b55
  replace OG := dHide OG
  clear b55
  obtain ⟨ugka, ugkc, ugla, uglc, rfl, ugl1, ugl2⟩ := formStore (dUnhide OG).now.rd
  have X57 := Sits.box w54 #[.slice ugka R.kept.length ugkc, .slice ugla R.late.length uglc, .int .i64 R.lock] 31
  have ba := ha w54 (.cells #[.slice ugka R.kept.length ugkc, .slice ugla R.late.length uglc, .int .i64 R.lock] 31)
  have sz59 := dHide ba.size
  replace X0 := dHide ((dUnhide X0).below ba)
  replace OW := dHide ((dUnhide OW).below ba)
  replace X21 := dHide ((dUnhide X21).below ba)
  replace T31 := dHide ((dUnhide T31).below ba)
  replace X36 := dHide ((dUnhide X36).below ba)
  replace T42 := dHide ((dUnhide T42).below ba)
  replace T47 := dHide ((dUnhide T47).below ba)
  replace OG := dHide ((dUnhide OG).below ba)
  replace B := belowThen B ba
  have sz60 : Hid (w54.heap.size + 1 = (w54.alloc (.cells #[.slice ugka R.kept.length ugkc, .slice ugla R.late.length uglc, .int .i64 R.lock] 31)).heap.size) := by simp [Hid]
  replace X57 := dHide X57
  clear ba
  have k61 := (dUnhide X57).now 0 _ rfl
  have k62 := (dUnhide X57).now 1 _ rfl
  have k63 := (dUnhide X57).now 2 _ rfl
  have k64 := (dUnhide X21).now 0 _ rfl
  have k65 := (dUnhide X21).now 1 _ rfl
  have k66 := (dUnhide X21).now 2 _ rfl
  go_wp2_with fail
  generalize hbx58 : w54.heap.size = bx58 at *
  generalize w54.alloc (.cells #[.slice ugka R.kept.length ugkc, .slice ugla R.late.length uglc, .int .i64 R.lock] 31) = w67 at *
  have sz68 := dHide hbx58
  clear hbx58
  refine (eqStore_ _ _ _ _ (dUnhide OG).now.rd (dUnhide OW).now.rd).mono ?_
  rintro e w69 ⟨rfl, b70⟩
  clear k61 k62 k63 k64 k65 k66
  have sz71 := dHide b70.size
  replace X0 := dHide ((dUnhide X0).below b70)
  replace OW := dHide ((dUnhide OW).below b70)
  replace X21 := dHide ((dUnhide X21).below b70)
  replace T31 := dHide ((dUnhide T31).below b70)
  replace X36 := dHide ((dUnhide X36).below b70)
  replace T42 := dHide ((dUnhide T42).below b70)
  replace T47 := dHide ((dUnhide T47).below b70)
  replace OG := dHide ((dUnhide OG).below b70)
  replace X57 := dHide ((dUnhide X57).below b70)
  replace B := belowThen B b70
  clear b70
  have k72 := (dUnhide X36).now 0 _ rfl
  have k73 := (dUnhide X36).now 1 _ rfl
  have k74 := (dUnhide X0).now 0 _ rfl
  have k75 := (dUnhide X0).now 1 _ rfl
  have hbr := Below.refl w69.heap.size w69
  go_wp2_with fail
  go_cut [77] (fun sv wx => sv = .bool false ∧ Below w69.heap.size w69 wx)
  case first =>
    go_region_held3 (fun W => W.cell? ⟨bx37, 0, none⟩ = some (.slice u32a m0.1.length u32c) ∧ W.cell? ⟨bx37, 1, none⟩ = some (.int .i64 m0.2) ∧ W.cell? ⟨w.heap.size, 0, none⟩ = some (.slice v0a m0.1.length v0c) ∧ W.cell? ⟨w.heap.size, 1, none⟩ = some (.int .i64 m0.2)) (go_keep)
      (first
        | (go_at_call 17; refine (toConfig_ _ m0 _ hs0 (dUnhide A0 _ (belowThen B hbr.drew))).mono ?_; rintro e w8 ⟨o8, rfl, q8, b8⟩; have hb8 := belowThen hbr.drew b8; have k76 := ((dUnhide X36).at hb8) 0 _ rfl; have k77 := ((dUnhide X36).at hb8) 1 _ rfl; have k78 := ((dUnhide X0).at hb8) 0 _ rfl; have k79 := ((dUnhide X0).at hb8) 1 _ rfl; have Q8 := dHide q8; obtain ⟨o8a, o8c, rfl, o8l⟩ := formConfig q8.now.rd; clear q8)
        | (go_at_call 20; refine (eqConfig_ _ _ _ _ ((dUnhide T31).at hb8).rd (dUnhide Q8).now.rd).mono ?_; rintro e w9 ⟨rfl, b9⟩; have hb9 := belowThen hb8 b9; have k80 := ((dUnhide X36).at hb9) 0 _ rfl; have k81 := ((dUnhide X36).at hb9) 1 _ rfl; have k82 := ((dUnhide X0).at hb9) 0 _ rfl; have k83 := ((dUnhide X0).at hb9) 1 _ rfl))
    all_goals
      go_wp2_with fail
      go_meet
      case rel => exact ⟨rfl, hb9⟩
  case rest =>
    obtain ⟨rfl, bc⟩ := hcut
    clear hbr
    clear k72 k73 k74 k75
    have sz84 := dHide bc.size
    replace X0 := dHide ((dUnhide X0).below bc)
    replace OW := dHide ((dUnhide OW).below bc)
    replace X21 := dHide ((dUnhide X21).below bc)
    replace T31 := dHide ((dUnhide T31).below bc)
    replace X36 := dHide ((dUnhide X36).below bc)
    replace T42 := dHide ((dUnhide T42).below bc)
    replace T47 := dHide ((dUnhide T47).below bc)
    replace OG := dHide ((dUnhide OG).below bc)
    replace X57 := dHide ((dUnhide X57).below bc)
    replace B := belowThen B bc
    generalize wc = w85 at *
    clear bc
    go_wp2_with fail
    refine (toStoreS_ _ m1 _ hs1 (dUnhide A1 _ B)).mono ?_
    rintro e w88 ⟨u87, rfl, T86, b89⟩
    have sz90 := dHide b89.size
    replace X0 := dHide ((dUnhide X0).below b89)
    replace OW := dHide ((dUnhide OW).below b89)
    replace X21 := dHide ((dUnhide X21).below b89)
    replace T31 := dHide ((dUnhide T31).below b89)
    replace X36 := dHide ((dUnhide X36).below b89)
    replace T42 := dHide ((dUnhide T42).below b89)
    replace T47 := dHide ((dUnhide T47).below b89)
    replace OG := dHide ((dUnhide OG).below b89)
    replace X57 := dHide ((dUnhide X57).below b89)
    replace B := belowThen B b89
    replace T86 := dHide T86
    clear b89
    obtain ⟨u87a, u87c, rfl, u87l⟩ := formStoreS (dUnhide T86).now.rd
    go_wp2_with fail
    refine (eqStoreS_ _ _ _ _ (dUnhide T42).now.rd (dUnhide T86).now.rd).mono ?_
    rintro e w91 ⟨rfl, b92⟩
    clear T86
    have sz93 := dHide b92.size
    replace X0 := dHide ((dUnhide X0).below b92)
    replace OW := dHide ((dUnhide OW).below b92)
    replace X21 := dHide ((dUnhide X21).below b92)
    replace T31 := dHide ((dUnhide T31).below b92)
    replace X36 := dHide ((dUnhide X36).below b92)
    replace T42 := dHide ((dUnhide T42).below b92)
    replace T47 := dHide ((dUnhide T47).below b92)
    replace OG := dHide ((dUnhide OG).below b92)
    replace X57 := dHide ((dUnhide X57).below b92)
    replace B := belowThen B b92
    clear b92
    go_wp2_with fail
    refine (toIntS_ _ m2 _ hs2 (dUnhide A2 _ B)).mono ?_
    rintro e w96 ⟨u95, rfl, T94, b97⟩
    have sz98 := dHide b97.size
    replace X0 := dHide ((dUnhide X0).below b97)
    replace OW := dHide ((dUnhide OW).below b97)
    replace X21 := dHide ((dUnhide X21).below b97)
    replace T31 := dHide ((dUnhide T31).below b97)
    replace X36 := dHide ((dUnhide X36).below b97)
    replace T42 := dHide ((dUnhide T42).below b97)
    replace T47 := dHide ((dUnhide T47).below b97)
    replace OG := dHide ((dUnhide OG).below b97)
    replace X57 := dHide ((dUnhide X57).below b97)
    replace B := belowThen B b97
    replace T94 := dHide T94
    clear b97
    obtain ⟨u95a, u95c, rfl, u95l⟩ := formIntS (dUnhide T94).now.rd
    go_wp2_with fail
    refine (eqIntS_ _ _ _ _ (dUnhide T47).now.rd (dUnhide T94).now.rd).mono ?_
    rintro e w99 ⟨rfl, b100⟩
    clear T94
    have sz101 := dHide b100.size
    replace X0 := dHide ((dUnhide X0).below b100)
    replace OW := dHide ((dUnhide OW).below b100)
    replace X21 := dHide ((dUnhide X21).below b100)
    replace T31 := dHide ((dUnhide T31).below b100)
    replace X36 := dHide ((dUnhide X36).below b100)
    replace T42 := dHide ((dUnhide T42).below b100)
    replace T47 := dHide ((dUnhide T47).below b100)
    replace OG := dHide ((dUnhide OG).below b100)
    replace X57 := dHide ((dUnhide X57).below b100)
    replace B := belowThen B b100
    clear b100
    have k102 := (dUnhide X36).now 0 _ rfl
    have k103 := (dUnhide X36).now 1 _ rfl
    go_wp2_with fail
    refine (markConfig_ _ _ _ _ 1 _ (by omega) (by omega) (dUnhide T31)).mono ?_
    rintro e w104 ⟨rfl, M106, b105⟩
    clear k102 k103
    replace X0 := dHide ((dUnhide X0).wr b105 (by have := dUnhide sz0; have := dUnhide sz1; have := dUnhide sz2; have := dUnhide sz9; have := dUnhide sz14; have := dUnhide sz19; have := dUnhide sz20; have := dUnhide sz23; have := dUnhide sz24; have := dUnhide sz28; have := dUnhide sz35; have := dUnhide sz38; have := dUnhide sz39; have := dUnhide sz41; have := dUnhide sz46; have := dUnhide sz51; have := dUnhide sz56; have := dUnhide sz59; have := dUnhide sz60; have := dUnhide sz68; have := dUnhide sz71; have := dUnhide sz84; have := dUnhide sz90; have := dUnhide sz93; have := dUnhide sz98; have := dUnhide sz101; omega))
    replace OW := dHide ((dUnhide OW).wr b105 (by have := dUnhide sz0; have := dUnhide sz1; have := dUnhide sz2; have := dUnhide sz9; have := dUnhide sz14; have := dUnhide sz19; have := dUnhide sz20; have := dUnhide sz23; have := dUnhide sz24; have := dUnhide sz28; have := dUnhide sz35; have := dUnhide sz38; have := dUnhide sz39; have := dUnhide sz41; have := dUnhide sz46; have := dUnhide sz51; have := dUnhide sz56; have := dUnhide sz59; have := dUnhide sz60; have := dUnhide sz68; have := dUnhide sz71; have := dUnhide sz84; have := dUnhide sz90; have := dUnhide sz93; have := dUnhide sz98; have := dUnhide sz101; omega))
    replace X21 := dHide ((dUnhide X21).wr b105 (by have := dUnhide sz0; have := dUnhide sz1; have := dUnhide sz2; have := dUnhide sz9; have := dUnhide sz14; have := dUnhide sz19; have := dUnhide sz20; have := dUnhide sz23; have := dUnhide sz24; have := dUnhide sz28; have := dUnhide sz35; have := dUnhide sz38; have := dUnhide sz39; have := dUnhide sz41; have := dUnhide sz46; have := dUnhide sz51; have := dUnhide sz56; have := dUnhide sz59; have := dUnhide sz60; have := dUnhide sz68; have := dUnhide sz71; have := dUnhide sz84; have := dUnhide sz90; have := dUnhide sz93; have := dUnhide sz98; have := dUnhide sz101; omega))
    replace X36 := dHide ((dUnhide X36).wr b105 (by have := dUnhide sz0; have := dUnhide sz1; have := dUnhide sz2; have := dUnhide sz9; have := dUnhide sz14; have := dUnhide sz19; have := dUnhide sz20; have := dUnhide sz23; have := dUnhide sz24; have := dUnhide sz28; have := dUnhide sz35; have := dUnhide sz38; have := dUnhide sz39; have := dUnhide sz41; have := dUnhide sz46; have := dUnhide sz51; have := dUnhide sz56; have := dUnhide sz59; have := dUnhide sz60; have := dUnhide sz68; have := dUnhide sz71; have := dUnhide sz84; have := dUnhide sz90; have := dUnhide sz93; have := dUnhide sz98; have := dUnhide sz101; omega))
    replace T42 := dHide ((dUnhide T42).wr b105 (by have := dUnhide sz0; have := dUnhide sz1; have := dUnhide sz2; have := dUnhide sz9; have := dUnhide sz14; have := dUnhide sz19; have := dUnhide sz20; have := dUnhide sz23; have := dUnhide sz24; have := dUnhide sz28; have := dUnhide sz35; have := dUnhide sz38; have := dUnhide sz39; have := dUnhide sz41; have := dUnhide sz46; have := dUnhide sz51; have := dUnhide sz56; have := dUnhide sz59; have := dUnhide sz60; have := dUnhide sz68; have := dUnhide sz71; have := dUnhide sz84; have := dUnhide sz90; have := dUnhide sz93; have := dUnhide sz98; have := dUnhide sz101; omega))
    replace T47 := dHide ((dUnhide T47).wr b105 (by have := dUnhide sz0; have := dUnhide sz1; have := dUnhide sz2; have := dUnhide sz9; have := dUnhide sz14; have := dUnhide sz19; have := dUnhide sz20; have := dUnhide sz23; have := dUnhide sz24; have := dUnhide sz28; have := dUnhide sz35; have := dUnhide sz38; have := dUnhide sz39; have := dUnhide sz41; have := dUnhide sz46; have := dUnhide sz51; have := dUnhide sz56; have := dUnhide sz59; have := dUnhide sz60; have := dUnhide sz68; have := dUnhide sz71; have := dUnhide sz84; have := dUnhide sz90; have := dUnhide sz93; have := dUnhide sz98; have := dUnhide sz101; omega))
    replace OG := dHide ((dUnhide OG).wr b105 (by have := dUnhide sz0; have := dUnhide sz1; have := dUnhide sz2; have := dUnhide sz9; have := dUnhide sz14; have := dUnhide sz19; have := dUnhide sz20; have := dUnhide sz23; have := dUnhide sz24; have := dUnhide sz28; have := dUnhide sz35; have := dUnhide sz38; have := dUnhide sz39; have := dUnhide sz41; have := dUnhide sz46; have := dUnhide sz51; have := dUnhide sz56; have := dUnhide sz59; have := dUnhide sz60; have := dUnhide sz68; have := dUnhide sz71; have := dUnhide sz84; have := dUnhide sz90; have := dUnhide sz93; have := dUnhide sz98; have := dUnhide sz101; omega))
    replace X57 := dHide ((dUnhide X57).wr b105 (by have := dUnhide sz0; have := dUnhide sz1; have := dUnhide sz2; have := dUnhide sz9; have := dUnhide sz14; have := dUnhide sz19; have := dUnhide sz20; have := dUnhide sz23; have := dUnhide sz24; have := dUnhide sz28; have := dUnhide sz35; have := dUnhide sz38; have := dUnhide sz39; have := dUnhide sz41; have := dUnhide sz46; have := dUnhide sz51; have := dUnhide sz56; have := dUnhide sz59; have := dUnhide sz60; have := dUnhide sz68; have := dUnhide sz71; have := dUnhide sz84; have := dUnhide sz90; have := dUnhide sz93; have := dUnhide sz98; have := dUnhide sz101; omega))
    replace B := b105.below B B.size (by have := dUnhide sz0; have := dUnhide sz1; have := dUnhide sz2; have := dUnhide sz9; have := dUnhide sz14; have := dUnhide sz19; have := dUnhide sz20; have := dUnhide sz23; have := dUnhide sz24; have := dUnhide sz28; have := dUnhide sz35; have := dUnhide sz38; have := dUnhide sz39; have := dUnhide sz41; have := dUnhide sz46; have := dUnhide sz51; have := dUnhide sz56; have := dUnhide sz59; have := dUnhide sz60; have := dUnhide sz68; have := dUnhide sz71; have := dUnhide sz84; have := dUnhide sz90; have := dUnhide sz93; have := dUnhide sz98; have := dUnhide sz101; omega)
    have sz107 := dHide b105.size
    replace M106 := dHide M106
    clear b105 T31
    go_wp2_with fail
    refine (markStoreS_ _ _ _ _ (1 + cntConfig m0) _ (by omega) (by omega) (dUnhide T42)).mono ?_
    rintro e w108 ⟨rfl, M110, b109⟩
    replace X0 := dHide ((dUnhide X0).wr b109 (by have := dUnhide sz0; have := dUnhide sz1; have := dUnhide sz2; have := dUnhide sz9; have := dUnhide sz14; have := dUnhide sz19; have := dUnhide sz20; have := dUnhide sz23; have := dUnhide sz24; have := dUnhide sz28; have := dUnhide sz35; have := dUnhide sz38; have := dUnhide sz39; have := dUnhide sz41; have := dUnhide sz46; have := dUnhide sz51; have := dUnhide sz56; have := dUnhide sz59; have := dUnhide sz60; have := dUnhide sz68; have := dUnhide sz71; have := dUnhide sz84; have := dUnhide sz90; have := dUnhide sz93; have := dUnhide sz98; have := dUnhide sz101; have := dUnhide sz107; omega))
    replace OW := dHide ((dUnhide OW).wr b109 (by have := dUnhide sz0; have := dUnhide sz1; have := dUnhide sz2; have := dUnhide sz9; have := dUnhide sz14; have := dUnhide sz19; have := dUnhide sz20; have := dUnhide sz23; have := dUnhide sz24; have := dUnhide sz28; have := dUnhide sz35; have := dUnhide sz38; have := dUnhide sz39; have := dUnhide sz41; have := dUnhide sz46; have := dUnhide sz51; have := dUnhide sz56; have := dUnhide sz59; have := dUnhide sz60; have := dUnhide sz68; have := dUnhide sz71; have := dUnhide sz84; have := dUnhide sz90; have := dUnhide sz93; have := dUnhide sz98; have := dUnhide sz101; have := dUnhide sz107; omega))
    replace X21 := dHide ((dUnhide X21).wr b109 (by have := dUnhide sz0; have := dUnhide sz1; have := dUnhide sz2; have := dUnhide sz9; have := dUnhide sz14; have := dUnhide sz19; have := dUnhide sz20; have := dUnhide sz23; have := dUnhide sz24; have := dUnhide sz28; have := dUnhide sz35; have := dUnhide sz38; have := dUnhide sz39; have := dUnhide sz41; have := dUnhide sz46; have := dUnhide sz51; have := dUnhide sz56; have := dUnhide sz59; have := dUnhide sz60; have := dUnhide sz68; have := dUnhide sz71; have := dUnhide sz84; have := dUnhide sz90; have := dUnhide sz93; have := dUnhide sz98; have := dUnhide sz101; have := dUnhide sz107; omega))
    replace X36 := dHide ((dUnhide X36).wr b109 (by have := dUnhide sz0; have := dUnhide sz1; have := dUnhide sz2; have := dUnhide sz9; have := dUnhide sz14; have := dUnhide sz19; have := dUnhide sz20; have := dUnhide sz23; have := dUnhide sz24; have := dUnhide sz28; have := dUnhide sz35; have := dUnhide sz38; have := dUnhide sz39; have := dUnhide sz41; have := dUnhide sz46; have := dUnhide sz51; have := dUnhide sz56; have := dUnhide sz59; have := dUnhide sz60; have := dUnhide sz68; have := dUnhide sz71; have := dUnhide sz84; have := dUnhide sz90; have := dUnhide sz93; have := dUnhide sz98; have := dUnhide sz101; have := dUnhide sz107; omega))
    replace T47 := dHide ((dUnhide T47).wr b109 (by have := dUnhide sz0; have := dUnhide sz1; have := dUnhide sz2; have := dUnhide sz9; have := dUnhide sz14; have := dUnhide sz19; have := dUnhide sz20; have := dUnhide sz23; have := dUnhide sz24; have := dUnhide sz28; have := dUnhide sz35; have := dUnhide sz38; have := dUnhide sz39; have := dUnhide sz41; have := dUnhide sz46; have := dUnhide sz51; have := dUnhide sz56; have := dUnhide sz59; have := dUnhide sz60; have := dUnhide sz68; have := dUnhide sz71; have := dUnhide sz84; have := dUnhide sz90; have := dUnhide sz93; have := dUnhide sz98; have := dUnhide sz101; have := dUnhide sz107; omega))
    replace OG := dHide ((dUnhide OG).wr b109 (by have := dUnhide sz0; have := dUnhide sz1; have := dUnhide sz2; have := dUnhide sz9; have := dUnhide sz14; have := dUnhide sz19; have := dUnhide sz20; have := dUnhide sz23; have := dUnhide sz24; have := dUnhide sz28; have := dUnhide sz35; have := dUnhide sz38; have := dUnhide sz39; have := dUnhide sz41; have := dUnhide sz46; have := dUnhide sz51; have := dUnhide sz56; have := dUnhide sz59; have := dUnhide sz60; have := dUnhide sz68; have := dUnhide sz71; have := dUnhide sz84; have := dUnhide sz90; have := dUnhide sz93; have := dUnhide sz98; have := dUnhide sz101; have := dUnhide sz107; omega))
    replace X57 := dHide ((dUnhide X57).wr b109 (by have := dUnhide sz0; have := dUnhide sz1; have := dUnhide sz2; have := dUnhide sz9; have := dUnhide sz14; have := dUnhide sz19; have := dUnhide sz20; have := dUnhide sz23; have := dUnhide sz24; have := dUnhide sz28; have := dUnhide sz35; have := dUnhide sz38; have := dUnhide sz39; have := dUnhide sz41; have := dUnhide sz46; have := dUnhide sz51; have := dUnhide sz56; have := dUnhide sz59; have := dUnhide sz60; have := dUnhide sz68; have := dUnhide sz71; have := dUnhide sz84; have := dUnhide sz90; have := dUnhide sz93; have := dUnhide sz98; have := dUnhide sz101; have := dUnhide sz107; omega))
    replace M106 := dHide ((dUnhide M106).wr b109 (by have := dUnhide sz0; have := dUnhide sz1; have := dUnhide sz2; have := dUnhide sz9; have := dUnhide sz14; have := dUnhide sz19; have := dUnhide sz20; have := dUnhide sz23; have := dUnhide sz24; have := dUnhide sz28; have := dUnhide sz35; have := dUnhide sz38; have := dUnhide sz39; have := dUnhide sz41; have := dUnhide sz46; have := dUnhide sz51; have := dUnhide sz56; have := dUnhide sz59; have := dUnhide sz60; have := dUnhide sz68; have := dUnhide sz71; have := dUnhide sz84; have := dUnhide sz90; have := dUnhide sz93; have := dUnhide sz98; have := dUnhide sz101; have := dUnhide sz107; omega))
    replace B := b109.below B B.size (by have := dUnhide sz0; have := dUnhide sz1; have := dUnhide sz2; have := dUnhide sz9; have := dUnhide sz14; have := dUnhide sz19; have := dUnhide sz20; have := dUnhide sz23; have := dUnhide sz24; have := dUnhide sz28; have := dUnhide sz35; have := dUnhide sz38; have := dUnhide sz39; have := dUnhide sz41; have := dUnhide sz46; have := dUnhide sz51; have := dUnhide sz56; have := dUnhide sz59; have := dUnhide sz60; have := dUnhide sz68; have := dUnhide sz71; have := dUnhide sz84; have := dUnhide sz90; have := dUnhide sz93; have := dUnhide sz98; have := dUnhide sz101; have := dUnhide sz107; omega)
    have sz111 := dHide b109.size
    replace M110 := dHide M110
    clear b109 T42
    go_wp2_with fail
    refine (markIntS_ _ _ _ _ (1 + cntConfig m0 + cntStoreS m1) _ (by omega) (by omega) (dUnhide T47)).mono ?_
    rintro e w112 ⟨rfl, M114, b113⟩
    replace X0 := dHide ((dUnhide X0).wr b113 (by have := dUnhide sz0; have := dUnhide sz1; have := dUnhide sz2; have := dUnhide sz9; have := dUnhide sz14; have := dUnhide sz19; have := dUnhide sz20; have := dUnhide sz23; have := dUnhide sz24; have := dUnhide sz28; have := dUnhide sz35; have := dUnhide sz38; have := dUnhide sz39; have := dUnhide sz41; have := dUnhide sz46; have := dUnhide sz51; have := dUnhide sz56; have := dUnhide sz59; have := dUnhide sz60; have := dUnhide sz68; have := dUnhide sz71; have := dUnhide sz84; have := dUnhide sz90; have := dUnhide sz93; have := dUnhide sz98; have := dUnhide sz101; have := dUnhide sz107; have := dUnhide sz111; omega))
    replace OW := dHide ((dUnhide OW).wr b113 (by have := dUnhide sz0; have := dUnhide sz1; have := dUnhide sz2; have := dUnhide sz9; have := dUnhide sz14; have := dUnhide sz19; have := dUnhide sz20; have := dUnhide sz23; have := dUnhide sz24; have := dUnhide sz28; have := dUnhide sz35; have := dUnhide sz38; have := dUnhide sz39; have := dUnhide sz41; have := dUnhide sz46; have := dUnhide sz51; have := dUnhide sz56; have := dUnhide sz59; have := dUnhide sz60; have := dUnhide sz68; have := dUnhide sz71; have := dUnhide sz84; have := dUnhide sz90; have := dUnhide sz93; have := dUnhide sz98; have := dUnhide sz101; have := dUnhide sz107; have := dUnhide sz111; omega))
    replace X21 := dHide ((dUnhide X21).wr b113 (by have := dUnhide sz0; have := dUnhide sz1; have := dUnhide sz2; have := dUnhide sz9; have := dUnhide sz14; have := dUnhide sz19; have := dUnhide sz20; have := dUnhide sz23; have := dUnhide sz24; have := dUnhide sz28; have := dUnhide sz35; have := dUnhide sz38; have := dUnhide sz39; have := dUnhide sz41; have := dUnhide sz46; have := dUnhide sz51; have := dUnhide sz56; have := dUnhide sz59; have := dUnhide sz60; have := dUnhide sz68; have := dUnhide sz71; have := dUnhide sz84; have := dUnhide sz90; have := dUnhide sz93; have := dUnhide sz98; have := dUnhide sz101; have := dUnhide sz107; have := dUnhide sz111; omega))
    replace X36 := dHide ((dUnhide X36).wr b113 (by have := dUnhide sz0; have := dUnhide sz1; have := dUnhide sz2; have := dUnhide sz9; have := dUnhide sz14; have := dUnhide sz19; have := dUnhide sz20; have := dUnhide sz23; have := dUnhide sz24; have := dUnhide sz28; have := dUnhide sz35; have := dUnhide sz38; have := dUnhide sz39; have := dUnhide sz41; have := dUnhide sz46; have := dUnhide sz51; have := dUnhide sz56; have := dUnhide sz59; have := dUnhide sz60; have := dUnhide sz68; have := dUnhide sz71; have := dUnhide sz84; have := dUnhide sz90; have := dUnhide sz93; have := dUnhide sz98; have := dUnhide sz101; have := dUnhide sz107; have := dUnhide sz111; omega))
    replace OG := dHide ((dUnhide OG).wr b113 (by have := dUnhide sz0; have := dUnhide sz1; have := dUnhide sz2; have := dUnhide sz9; have := dUnhide sz14; have := dUnhide sz19; have := dUnhide sz20; have := dUnhide sz23; have := dUnhide sz24; have := dUnhide sz28; have := dUnhide sz35; have := dUnhide sz38; have := dUnhide sz39; have := dUnhide sz41; have := dUnhide sz46; have := dUnhide sz51; have := dUnhide sz56; have := dUnhide sz59; have := dUnhide sz60; have := dUnhide sz68; have := dUnhide sz71; have := dUnhide sz84; have := dUnhide sz90; have := dUnhide sz93; have := dUnhide sz98; have := dUnhide sz101; have := dUnhide sz107; have := dUnhide sz111; omega))
    replace X57 := dHide ((dUnhide X57).wr b113 (by have := dUnhide sz0; have := dUnhide sz1; have := dUnhide sz2; have := dUnhide sz9; have := dUnhide sz14; have := dUnhide sz19; have := dUnhide sz20; have := dUnhide sz23; have := dUnhide sz24; have := dUnhide sz28; have := dUnhide sz35; have := dUnhide sz38; have := dUnhide sz39; have := dUnhide sz41; have := dUnhide sz46; have := dUnhide sz51; have := dUnhide sz56; have := dUnhide sz59; have := dUnhide sz60; have := dUnhide sz68; have := dUnhide sz71; have := dUnhide sz84; have := dUnhide sz90; have := dUnhide sz93; have := dUnhide sz98; have := dUnhide sz101; have := dUnhide sz107; have := dUnhide sz111; omega))
    replace M106 := dHide ((dUnhide M106).wr b113 (by have := dUnhide sz0; have := dUnhide sz1; have := dUnhide sz2; have := dUnhide sz9; have := dUnhide sz14; have := dUnhide sz19; have := dUnhide sz20; have := dUnhide sz23; have := dUnhide sz24; have := dUnhide sz28; have := dUnhide sz35; have := dUnhide sz38; have := dUnhide sz39; have := dUnhide sz41; have := dUnhide sz46; have := dUnhide sz51; have := dUnhide sz56; have := dUnhide sz59; have := dUnhide sz60; have := dUnhide sz68; have := dUnhide sz71; have := dUnhide sz84; have := dUnhide sz90; have := dUnhide sz93; have := dUnhide sz98; have := dUnhide sz101; have := dUnhide sz107; have := dUnhide sz111; omega))
    replace M110 := dHide ((dUnhide M110).wr b113 (by have := dUnhide sz0; have := dUnhide sz1; have := dUnhide sz2; have := dUnhide sz9; have := dUnhide sz14; have := dUnhide sz19; have := dUnhide sz20; have := dUnhide sz23; have := dUnhide sz24; have := dUnhide sz28; have := dUnhide sz35; have := dUnhide sz38; have := dUnhide sz39; have := dUnhide sz41; have := dUnhide sz46; have := dUnhide sz51; have := dUnhide sz56; have := dUnhide sz59; have := dUnhide sz60; have := dUnhide sz68; have := dUnhide sz71; have := dUnhide sz84; have := dUnhide sz90; have := dUnhide sz93; have := dUnhide sz98; have := dUnhide sz101; have := dUnhide sz107; have := dUnhide sz111; omega))
    replace B := b113.below B B.size (by have := dUnhide sz0; have := dUnhide sz1; have := dUnhide sz2; have := dUnhide sz9; have := dUnhide sz14; have := dUnhide sz19; have := dUnhide sz20; have := dUnhide sz23; have := dUnhide sz24; have := dUnhide sz28; have := dUnhide sz35; have := dUnhide sz38; have := dUnhide sz39; have := dUnhide sz41; have := dUnhide sz46; have := dUnhide sz51; have := dUnhide sz56; have := dUnhide sz59; have := dUnhide sz60; have := dUnhide sz68; have := dUnhide sz71; have := dUnhide sz84; have := dUnhide sz90; have := dUnhide sz93; have := dUnhide sz98; have := dUnhide sz101; have := dUnhide sz107; have := dUnhide sz111; omega)
    have sz115 := dHide b113.size
    replace M114 := dHide M114
    clear b113 T47
    clear M106 M110 M114 X36
    have hk : ¬ (((1 + cntConfig m0 + cntStoreS m1 + cntIntS m2 : Nat) : Int) < 0) := by omega
    have k116 := (dUnhide X57).now 0 _ rfl
    have k117 := (dUnhide X57).now 1 _ rfl
    have k118 := (dUnhide X57).now 2 _ rfl
    have k119 := (dUnhide X21).now 0 _ rfl
    have k120 := (dUnhide X21).now 1 _ rfl
    have k121 := (dUnhide X21).now 2 _ rfl
    go_wp2_with fail
    refine (eqStore_ _ _ _ _ (dUnhide OG).now.rd (dUnhide OW).now.rd).mono ?_
    rintro e w122 ⟨rfl, b123⟩
    clear k116 k117 k118 k119 k120 k121
    have sz124 := dHide b123.size
    replace X0 := dHide ((dUnhide X0).below b123)
    replace OW := dHide ((dUnhide OW).below b123)
    replace X21 := dHide ((dUnhide X21).below b123)
    replace OG := dHide ((dUnhide OG).below b123)
    replace X57 := dHide ((dUnhide X57).below b123)
    replace B := belowThen B b123
    clear b123
    have k125 := (dUnhide X57).now 0 _ rfl
    have k126 := (dUnhide X57).now 1 _ rfl
    have k127 := (dUnhide X57).now 2 _ rfl
    go_wp2_with fail
    refine (markStore_ _ _ _ _ 1 _ (by omega) (by omega) (dUnhide OG)).mono ?_
    rintro e w128 ⟨rfl, M130, b129⟩
    clear k125 k126 k127
    replace X0 := dHide ((dUnhide X0).wr b129 (by have := dUnhide sz0; have := dUnhide sz1; have := dUnhide sz2; have := dUnhide sz9; have := dUnhide sz14; have := dUnhide sz19; have := dUnhide sz20; have := dUnhide sz23; have := dUnhide sz24; have := dUnhide sz28; have := dUnhide sz35; have := dUnhide sz38; have := dUnhide sz39; have := dUnhide sz41; have := dUnhide sz46; have := dUnhide sz51; have := dUnhide sz56; have := dUnhide sz59; have := dUnhide sz60; have := dUnhide sz68; have := dUnhide sz71; have := dUnhide sz84; have := dUnhide sz90; have := dUnhide sz93; have := dUnhide sz98; have := dUnhide sz101; have := dUnhide sz107; have := dUnhide sz111; have := dUnhide sz115; have := dUnhide sz124; omega))
    replace OW := dHide ((dUnhide OW).wr b129 (by have := dUnhide sz0; have := dUnhide sz1; have := dUnhide sz2; have := dUnhide sz9; have := dUnhide sz14; have := dUnhide sz19; have := dUnhide sz20; have := dUnhide sz23; have := dUnhide sz24; have := dUnhide sz28; have := dUnhide sz35; have := dUnhide sz38; have := dUnhide sz39; have := dUnhide sz41; have := dUnhide sz46; have := dUnhide sz51; have := dUnhide sz56; have := dUnhide sz59; have := dUnhide sz60; have := dUnhide sz68; have := dUnhide sz71; have := dUnhide sz84; have := dUnhide sz90; have := dUnhide sz93; have := dUnhide sz98; have := dUnhide sz101; have := dUnhide sz107; have := dUnhide sz111; have := dUnhide sz115; have := dUnhide sz124; omega))
    replace X21 := dHide ((dUnhide X21).wr b129 (by have := dUnhide sz0; have := dUnhide sz1; have := dUnhide sz2; have := dUnhide sz9; have := dUnhide sz14; have := dUnhide sz19; have := dUnhide sz20; have := dUnhide sz23; have := dUnhide sz24; have := dUnhide sz28; have := dUnhide sz35; have := dUnhide sz38; have := dUnhide sz39; have := dUnhide sz41; have := dUnhide sz46; have := dUnhide sz51; have := dUnhide sz56; have := dUnhide sz59; have := dUnhide sz60; have := dUnhide sz68; have := dUnhide sz71; have := dUnhide sz84; have := dUnhide sz90; have := dUnhide sz93; have := dUnhide sz98; have := dUnhide sz101; have := dUnhide sz107; have := dUnhide sz111; have := dUnhide sz115; have := dUnhide sz124; omega))
    replace X57 := dHide ((dUnhide X57).wr b129 (by have := dUnhide sz0; have := dUnhide sz1; have := dUnhide sz2; have := dUnhide sz9; have := dUnhide sz14; have := dUnhide sz19; have := dUnhide sz20; have := dUnhide sz23; have := dUnhide sz24; have := dUnhide sz28; have := dUnhide sz35; have := dUnhide sz38; have := dUnhide sz39; have := dUnhide sz41; have := dUnhide sz46; have := dUnhide sz51; have := dUnhide sz56; have := dUnhide sz59; have := dUnhide sz60; have := dUnhide sz68; have := dUnhide sz71; have := dUnhide sz84; have := dUnhide sz90; have := dUnhide sz93; have := dUnhide sz98; have := dUnhide sz101; have := dUnhide sz107; have := dUnhide sz111; have := dUnhide sz115; have := dUnhide sz124; omega))
    replace B := b129.below B B.size (by have := dUnhide sz0; have := dUnhide sz1; have := dUnhide sz2; have := dUnhide sz9; have := dUnhide sz14; have := dUnhide sz19; have := dUnhide sz20; have := dUnhide sz23; have := dUnhide sz24; have := dUnhide sz28; have := dUnhide sz35; have := dUnhide sz38; have := dUnhide sz39; have := dUnhide sz41; have := dUnhide sz46; have := dUnhide sz51; have := dUnhide sz56; have := dUnhide sz59; have := dUnhide sz60; have := dUnhide sz68; have := dUnhide sz71; have := dUnhide sz84; have := dUnhide sz90; have := dUnhide sz93; have := dUnhide sz98; have := dUnhide sz101; have := dUnhide sz107; have := dUnhide sz111; have := dUnhide sz115; have := dUnhide sz124; omega)
    have sz131 := dHide b129.size
    replace M130 := dHide M130
    clear b129 OG
    have k132 := (dUnhide X57).now 0 _ rfl
    have k133 := (dUnhide X57).now 1 _ rfl
    have k134 := (dUnhide X57).now 2 _ rfl
    go_wp2_with fail
    refine (heldStore_ _ R 1 _ (by omega) (by omega) (dUnhide M130).now.rd).mono ?_
    rintro e w135 ⟨rfl, b136⟩
    clear k132 k133 k134
    have sz137 := dHide b136.size
    replace X0 := dHide ((dUnhide X0).below b136)
    replace OW := dHide ((dUnhide OW).below b136)
    replace X21 := dHide ((dUnhide X21).below b136)
    replace X57 := dHide ((dUnhide X57).below b136)
    replace M130 := dHide ((dUnhide M130).below b136)
    replace B := belowThen B b136
    clear b136
    have hq : ¬ (((1 + cntStore R : Nat) : Int) < 0) := by omega
    have k138 := (dUnhide X0).now 0 _ rfl
    have k139 := (dUnhide X0).now 1 _ rfl
    go_wp2_with fail
    refine (toConfig_ _ m0 _ hs0 (dUnhide A0 _ B)).mono ?_
    rintro e w142 ⟨u141, rfl, T140, b143⟩
    clear k138 k139
    have sz144 := dHide b143.size
    replace X0 := dHide ((dUnhide X0).below b143)
    replace OW := dHide ((dUnhide OW).below b143)
    replace X21 := dHide ((dUnhide X21).below b143)
    replace X57 := dHide ((dUnhide X57).below b143)
    replace M130 := dHide ((dUnhide M130).below b143)
    replace B := belowThen B b143
    replace T140 := dHide T140
    clear b143
    obtain ⟨u141a, u141c, rfl, u141l⟩ := formConfig (dUnhide T140).now.rd
    go_wp2_with fail
    refine (toStoreS_ _ m1 _ hs1 (dUnhide A1 _ B)).mono ?_
    rintro e w147 ⟨u146, rfl, T145, b148⟩
    have sz149 := dHide b148.size
    replace X0 := dHide ((dUnhide X0).below b148)
    replace OW := dHide ((dUnhide OW).below b148)
    replace X21 := dHide ((dUnhide X21).below b148)
    replace X57 := dHide ((dUnhide X57).below b148)
    replace M130 := dHide ((dUnhide M130).below b148)
    replace T140 := dHide ((dUnhide T140).below b148)
    replace B := belowThen B b148
    replace T145 := dHide T145
    clear b148
    obtain ⟨u146a, u146c, rfl, u146l⟩ := formStoreS (dUnhide T145).now.rd
    go_wp2_with fail
    refine (toIntS_ _ m2 _ hs2 (dUnhide A2 _ B)).mono ?_
    rintro e w152 ⟨u151, rfl, T150, b153⟩
    have sz154 := dHide b153.size
    replace X0 := dHide ((dUnhide X0).below b153)
    replace OW := dHide ((dUnhide OW).below b153)
    replace X21 := dHide ((dUnhide X21).below b153)
    replace X57 := dHide ((dUnhide X57).below b153)
    replace M130 := dHide ((dUnhide M130).below b153)
    replace T140 := dHide ((dUnhide T140).below b153)
    replace T145 := dHide ((dUnhide T145).below b153)
    replace B := belowThen B b153
    replace T150 := dHide T150
    clear b153
    obtain ⟨u151a, u151c, rfl, u151l⟩ := formIntS (dUnhide T150).now.rd
    go_wp2_with fail
    refine (dUnhide CI _ _ _ _ (dUnhide T140).now.rd (dUnhide T145).now.rd (dUnhide T150).now.rd).mono ?_
    rintro e w155 ⟨uh, rfl, OH, b156⟩
    clear T140 T145 T150
    have sz157 := dHide b156.size
    replace X0 := dHide ((dUnhide X0).below b156)
    replace OW := dHide ((dUnhide OW).below b156)
    replace X21 := dHide ((dUnhide X21).below b156)
    replace X57 := dHide ((dUnhide X57).below b156)
    replace M130 := dHide ((dUnhide M130).below b156)
    replace B := belowThen B b156
    replace OH := dHide OH
    clear b156
    obtain ⟨uhka, uhkc, uhla, uhlc, rfl, uhl1, uhl2⟩ := formStore (dUnhide OH).now.rd
    have X158 := Sits.box w155 #[.slice uhka R.kept.length uhkc, .slice uhla R.late.length uhlc, .int .i64 R.lock] 31
    have ba := ha w155 (.cells #[.slice uhka R.kept.length uhkc, .slice uhla R.late.length uhlc, .int .i64 R.lock] 31)
    have sz160 := dHide ba.size
    replace X0 := dHide ((dUnhide X0).below ba)
    replace OW := dHide ((dUnhide OW).below ba)
    replace X21 := dHide ((dUnhide X21).below ba)
    replace X57 := dHide ((dUnhide X57).below ba)
    replace M130 := dHide ((dUnhide M130).below ba)
    replace OH := dHide ((dUnhide OH).below ba)
    replace B := belowThen B ba
    have sz161 : Hid (w155.heap.size + 1 = (w155.alloc (.cells #[.slice uhka R.kept.length uhkc, .slice uhla R.late.length uhlc, .int .i64 R.lock] 31)).heap.size) := by simp [Hid]
    replace X158 := dHide X158
    clear ba
    have k162 := (dUnhide X158).now 0 _ rfl
    have k163 := (dUnhide X158).now 1 _ rfl
    have k164 := (dUnhide X158).now 2 _ rfl
    have k165 := (dUnhide X21).now 0 _ rfl
    have k166 := (dUnhide X21).now 1 _ rfl
    have k167 := (dUnhide X21).now 2 _ rfl
    go_wp2_with fail
    generalize hbx159 : w155.heap.size = bx159 at *
    generalize w155.alloc (.cells #[.slice uhka R.kept.length uhkc, .slice uhla R.late.length uhlc, .int .i64 R.lock] 31) = w168 at *
    have sz169 := dHide hbx159
    clear hbx159
    refine (eqStore_ _ _ _ _ (dUnhide OH).now.rd (dUnhide OW).now.rd).mono ?_
    rintro e w170 ⟨rfl, b171⟩
    clear k162 k163 k164 k165 k166 k167
    have sz172 := dHide b171.size
    replace X0 := dHide ((dUnhide X0).below b171)
    replace OW := dHide ((dUnhide OW).below b171)
    replace X21 := dHide ((dUnhide X21).below b171)
    replace X57 := dHide ((dUnhide X57).below b171)
    replace M130 := dHide ((dUnhide M130).below b171)
    replace OH := dHide ((dUnhide OH).below b171)
    replace X158 := dHide ((dUnhide X158).below b171)
    replace B := belowThen B b171
    clear b171
    have k173 := (dUnhide X57).now 0 _ rfl
    have k174 := (dUnhide X57).now 1 _ rfl
    have k175 := (dUnhide X57).now 2 _ rfl
    go_wp2_with fail
    refine (heldStore_ _ R 1 _ (by omega) (by omega) (dUnhide M130).now.rd).mono ?_
    rintro e w176 ⟨rfl, b177⟩
    clear k173 k174 k175
    have sz178 := dHide b177.size
    replace X0 := dHide ((dUnhide X0).below b177)
    replace OW := dHide ((dUnhide OW).below b177)
    replace X21 := dHide ((dUnhide X21).below b177)
    replace X57 := dHide ((dUnhide X57).below b177)
    replace M130 := dHide ((dUnhide M130).below b177)
    replace OH := dHide ((dUnhide OH).below b177)
    replace X158 := dHide ((dUnhide X158).below b177)
    replace B := belowThen B b177
    clear b177
    clear X0 OW X21 X57 M130 OH X158
    go_wp2
    go_ret
    exact ⟨rfl, B⟩
end Go.Proofs.Ytoeamgcoeoaijaa
