/- FnExactMendSeal: both answers, and the law's walk (printed by tools/mkl9.py). -/
import Derived.Test.YtjbfpmackocgnaaGreatQ9L
import Derived.Test.YtjbfpmackocgnaaGreatMnSd
import Derived.Deep.RegionHeld3
import Derived.Deep.DeepCutAuto
namespace Go.Proofs.YtjbfpmackocgnaaGreat
open Go.ChangeShapes Go.WideShapes Go.ChangeAt Go.RowKit
set_option linter.unusedVariables false
theorem bothFnExactMendSeal (m0 : List Int × Int) (m1 : Mn) (m2 : Int) (m3 : List Ent) (ok0 : okConfig m0) (ok1 : okMend m1) (ok2 : okInt m2) (ok3 : okEntryS m3) (hs0 : sizConfig m0 ≤ 1048576) (hs1 : sizMend m1 ≤ 1048576) (hs3 : sizEntryS m3 ≤ 1048576) : ∃ (R : Mn) (s1 : Bool), cntMend R ≤ 8388608 ∧ (∀ W v0 v1 v3, RdConfig v0 m0 W → RdMend v1 m1 W → RdEntryS v3 m3 W → Calls Tryz.prog 11 #[v0, v1, .int .i64 m2, v3] W fun e w' => ∃ u, e = .returned (.tuple #[u, .bool s1]) ∧ Sits (OwMend W.heap.size w'.heap.size u R) W.heap.size w'.heap.size w' ∧ Below W.heap.size W w') ∧ (∀ W v0 v1 v3, RdConfig v0 m0 W → RdMend v1 m1 W → RdEntryS v3 m3 W → Calls Tryz.prog 10 #[v0, v1, .int .i64 m2, v3] W fun e w' => ∃ u, e = .returned (.tuple #[u, .bool s1]) ∧ Sits (OwMend W.heap.size w'.heap.size u R) W.heap.size w'.heap.size w' ∧ Below W.heap.size W w') := bothMendSeal_ m0 m1 m2 m3 ok0 ok1 ok2 ok3 hs0 hs1 hs3
set_option maxHeartbeats 4000000 in
set_option maxRecDepth 100000 in
theorem walkFnExactMendSeal (v0 v1 v2 v3 : Value) (m0 : List Int × Int) (m1 : Mn) (m2 : Int) (m3 : List Ent) (w : World) (i0 : IsConfig v0 m0 w) (i1 : IsMend v1 m1 w) (i2 : IsInt v2 m2 w) (i3 : IsEntryS v3 m3 w) :
    Calls Tryz.prog 6 #[v0, v1, v2, v3] w fun r w' => r = .returned (.bool true) ∧ Below w.heap.size w w' := by
  obtain ⟨rfl, ok2⟩ := i2
  obtain ⟨r0, ok0⟩ := i0
  obtain ⟨r1, ok1⟩ := i1
  obtain ⟨r3, ok3⟩ := i3
  have ha : ∀ (w : World) o, Below w.heap.size w (w.alloc o) := fun w o => (Below.refl _ _).alloc (Nat.le_refl _) o
  have A0 := dHide fun W (hb : Below w.heap.size w W) => r0.below hb
  have A1 := dHide fun W (hb : Below w.heap.size w W) => r1.below hb
  have A3 := dHide fun W (hb : Below w.heap.size w W) => r3.below hb
  obtain ⟨v0a, v0c, rfl, v0l⟩ := formConfig r0
  obtain ⟨v1sa, v1sc, v1ea, v1ec, v1wa, v1wc, rfl, v1l1, v1l2, v1l3⟩ := formMend r1
  obtain ⟨v3a, v3c, rfl, v3l⟩ := formEntryS r3
  by_cases z0 : (1048576 : Int) < (sizConfig m0 : Int)
  · have CS0 := dHide fun W (hb : Below w.heap.size w W) => szConfig_ _ m0 (1048576 : Int) (by omega) (by omega) W (dUnhide A0 W hb)
    rw [lft_no z0] at CS0
    clear z0
    go_enter Tryz.func6, Tryz.ntmps6
    go_wp2_with fail
    have B := belowThen (ha w (.cells #[.slice v0a m0.1.length v0c, .int .i64 m0.2] 51)) (ha _ (.cells #[.int .i64 m1.bye, .int .i64 m1.epoch, .slice v1sa m1.sealed.length v1sc, .slice v1ea m1.seen.length v1ec, .bool m1.planned, .slice v1wa m1.wrote.length v1wc] 54))
    have X0 := dHide ((Sits.box w #[.slice v0a m0.1.length v0c, .int .i64 m0.2] 51).below (ha _ (.cells #[.int .i64 m1.bye, .int .i64 m1.epoch, .slice v1sa m1.sealed.length v1sc, .slice v1ea m1.seen.length v1ec, .bool m1.planned, .slice v1wa m1.wrote.length v1wc] 54)))
    have X1 := Sits.box (w.alloc (.cells #[.slice v0a m0.1.length v0c, .int .i64 m0.2] 51)) #[.int .i64 m1.bye, .int .i64 m1.epoch, .slice v1sa m1.sealed.length v1sc, .slice v1ea m1.seen.length v1ec, .bool m1.planned, .slice v1wa m1.wrote.length v1wc] 54
    have e1 : (w.alloc (.cells #[.slice v0a m0.1.length v0c, .int .i64 m0.2] 51)).heap.size = w.heap.size + 1 := by simp
    rw [e1] at X1
    replace X1 := dHide X1
    have sz0 : Hid (w.heap.size + 1 + 1 = ((w.alloc (.cells #[.slice v0a m0.1.length v0c, .int .i64 m0.2] 51)).alloc (.cells #[.int .i64 m1.bye, .int .i64 m1.epoch, .slice v1sa m1.sealed.length v1sc, .slice v1ea m1.seen.length v1ec, .bool m1.planned, .slice v1wa m1.wrote.length v1wc] 54)).heap.size) := by simp [Hid]
    clear e1
    generalize (w.alloc (.cells #[.slice v0a m0.1.length v0c, .int .i64 m0.2] 51)).alloc (.cells #[.int .i64 m1.bye, .int .i64 m1.epoch, .slice v1sa m1.sealed.length v1sc, .slice v1ea m1.seen.length v1ec, .bool m1.planned, .slice v1wa m1.wrote.length v1wc] 54) = wb at *
    refine (dUnhide CS0 _ B).mono ?_
    rintro e ws0 ⟨rfl, bs⟩
    have sz1 := dHide bs.size
    replace X0 := dHide ((dUnhide X0).below bs)
    replace X1 := dHide ((dUnhide X1).below bs)
    replace B := belowThen B bs
    clear bs CS0
    clear X0 X1
    go_wp2
    go_ret
    exact ⟨rfl, B⟩
  by_cases z1 : ((1048576 : Int) - (sizConfig m0 : Int)) < (sizMend m1 : Int)
  · have CS0 := dHide fun W (hb : Below w.heap.size w W) => szConfig_ _ m0 (1048576 : Int) (by omega) (by omega) W (dUnhide A0 W hb)
    rw [lft_yes z0] at CS0
    have z0' : ¬ ((1048576 : Int) - (sizConfig m0 : Int) < 0) := by omega
    have CS1 := dHide fun W (hb : Below w.heap.size w W) => szMend_ _ m1 ((1048576 : Int) - (sizConfig m0 : Int)) (by omega) (by omega) (txtM_of ok1) W (dUnhide A1 W hb)
    rw [lft_no z1] at CS1
    clear z0 z1
    go_enter Tryz.func6, Tryz.ntmps6
    go_wp2_with fail
    have B := belowThen (ha w (.cells #[.slice v0a m0.1.length v0c, .int .i64 m0.2] 51)) (ha _ (.cells #[.int .i64 m1.bye, .int .i64 m1.epoch, .slice v1sa m1.sealed.length v1sc, .slice v1ea m1.seen.length v1ec, .bool m1.planned, .slice v1wa m1.wrote.length v1wc] 54))
    have X0 := dHide ((Sits.box w #[.slice v0a m0.1.length v0c, .int .i64 m0.2] 51).below (ha _ (.cells #[.int .i64 m1.bye, .int .i64 m1.epoch, .slice v1sa m1.sealed.length v1sc, .slice v1ea m1.seen.length v1ec, .bool m1.planned, .slice v1wa m1.wrote.length v1wc] 54)))
    have X1 := Sits.box (w.alloc (.cells #[.slice v0a m0.1.length v0c, .int .i64 m0.2] 51)) #[.int .i64 m1.bye, .int .i64 m1.epoch, .slice v1sa m1.sealed.length v1sc, .slice v1ea m1.seen.length v1ec, .bool m1.planned, .slice v1wa m1.wrote.length v1wc] 54
    have e1 : (w.alloc (.cells #[.slice v0a m0.1.length v0c, .int .i64 m0.2] 51)).heap.size = w.heap.size + 1 := by simp
    rw [e1] at X1
    replace X1 := dHide X1
    have sz0 : Hid (w.heap.size + 1 + 1 = ((w.alloc (.cells #[.slice v0a m0.1.length v0c, .int .i64 m0.2] 51)).alloc (.cells #[.int .i64 m1.bye, .int .i64 m1.epoch, .slice v1sa m1.sealed.length v1sc, .slice v1ea m1.seen.length v1ec, .bool m1.planned, .slice v1wa m1.wrote.length v1wc] 54)).heap.size) := by simp [Hid]
    clear e1
    generalize (w.alloc (.cells #[.slice v0a m0.1.length v0c, .int .i64 m0.2] 51)).alloc (.cells #[.int .i64 m1.bye, .int .i64 m1.epoch, .slice v1sa m1.sealed.length v1sc, .slice v1ea m1.seen.length v1ec, .bool m1.planned, .slice v1wa m1.wrote.length v1wc] 54) = wb at *
    refine (dUnhide CS0 _ B).mono ?_
    rintro e ws0 ⟨rfl, bs⟩
    have sz1 := dHide bs.size
    replace X0 := dHide ((dUnhide X0).below bs)
    replace X1 := dHide ((dUnhide X1).below bs)
    replace B := belowThen B bs
    clear bs CS0
    have k2 := (dUnhide X1).now 0 _ rfl
    have k3 := (dUnhide X1).now 1 _ rfl
    have k4 := (dUnhide X1).now 2 _ rfl
    have k5 := (dUnhide X1).now 3 _ rfl
    have k6 := (dUnhide X1).now 4 _ rfl
    have k7 := (dUnhide X1).now 5 _ rfl
    go_wp2_with fail
    refine (dUnhide CS1 _ B).mono ?_
    rintro e ws1 ⟨rfl, bs⟩
    have sz8 := dHide bs.size
    replace X0 := dHide ((dUnhide X0).below bs)
    replace X1 := dHide ((dUnhide X1).below bs)
    replace B := belowThen B bs
    clear bs CS1 k2 k3 k4 k5 k6 k7
    clear X0 X1
    go_wp2
    go_ret
    exact ⟨rfl, B⟩
  by_cases z3 : ((1048576 : Int) - (sizConfig m0 : Int) - (sizMend m1 : Int)) < (sizEntryS m3 : Int)
  · have CS0 := dHide fun W (hb : Below w.heap.size w W) => szConfig_ _ m0 (1048576 : Int) (by omega) (by omega) W (dUnhide A0 W hb)
    rw [lft_yes z0] at CS0
    have z0' : ¬ ((1048576 : Int) - (sizConfig m0 : Int) < 0) := by omega
    have CS1 := dHide fun W (hb : Below w.heap.size w W) => szMend_ _ m1 ((1048576 : Int) - (sizConfig m0 : Int)) (by omega) (by omega) (txtM_of ok1) W (dUnhide A1 W hb)
    rw [lft_yes z1] at CS1
    have z1' : ¬ (((1048576 : Int) - (sizConfig m0 : Int)) - (sizMend m1 : Int) < 0) := by omega
    have CS2 := dHide fun W (hb : Below w.heap.size w W) => szEntryS_ _ m3 ((1048576 : Int) - (sizConfig m0 : Int) - (sizMend m1 : Int)) (by omega) (by omega) (txtES_of ok3) W (dUnhide A3 W hb)
    rw [lft_no z3] at CS2
    clear z0 z1 z3
    go_enter Tryz.func6, Tryz.ntmps6
    go_wp2_with fail
    have B := belowThen (ha w (.cells #[.slice v0a m0.1.length v0c, .int .i64 m0.2] 51)) (ha _ (.cells #[.int .i64 m1.bye, .int .i64 m1.epoch, .slice v1sa m1.sealed.length v1sc, .slice v1ea m1.seen.length v1ec, .bool m1.planned, .slice v1wa m1.wrote.length v1wc] 54))
    have X0 := dHide ((Sits.box w #[.slice v0a m0.1.length v0c, .int .i64 m0.2] 51).below (ha _ (.cells #[.int .i64 m1.bye, .int .i64 m1.epoch, .slice v1sa m1.sealed.length v1sc, .slice v1ea m1.seen.length v1ec, .bool m1.planned, .slice v1wa m1.wrote.length v1wc] 54)))
    have X1 := Sits.box (w.alloc (.cells #[.slice v0a m0.1.length v0c, .int .i64 m0.2] 51)) #[.int .i64 m1.bye, .int .i64 m1.epoch, .slice v1sa m1.sealed.length v1sc, .slice v1ea m1.seen.length v1ec, .bool m1.planned, .slice v1wa m1.wrote.length v1wc] 54
    have e1 : (w.alloc (.cells #[.slice v0a m0.1.length v0c, .int .i64 m0.2] 51)).heap.size = w.heap.size + 1 := by simp
    rw [e1] at X1
    replace X1 := dHide X1
    have sz0 : Hid (w.heap.size + 1 + 1 = ((w.alloc (.cells #[.slice v0a m0.1.length v0c, .int .i64 m0.2] 51)).alloc (.cells #[.int .i64 m1.bye, .int .i64 m1.epoch, .slice v1sa m1.sealed.length v1sc, .slice v1ea m1.seen.length v1ec, .bool m1.planned, .slice v1wa m1.wrote.length v1wc] 54)).heap.size) := by simp [Hid]
    clear e1
    generalize (w.alloc (.cells #[.slice v0a m0.1.length v0c, .int .i64 m0.2] 51)).alloc (.cells #[.int .i64 m1.bye, .int .i64 m1.epoch, .slice v1sa m1.sealed.length v1sc, .slice v1ea m1.seen.length v1ec, .bool m1.planned, .slice v1wa m1.wrote.length v1wc] 54) = wb at *
    refine (dUnhide CS0 _ B).mono ?_
    rintro e ws0 ⟨rfl, bs⟩
    have sz1 := dHide bs.size
    replace X0 := dHide ((dUnhide X0).below bs)
    replace X1 := dHide ((dUnhide X1).below bs)
    replace B := belowThen B bs
    clear bs CS0
    have k2 := (dUnhide X1).now 0 _ rfl
    have k3 := (dUnhide X1).now 1 _ rfl
    have k4 := (dUnhide X1).now 2 _ rfl
    have k5 := (dUnhide X1).now 3 _ rfl
    have k6 := (dUnhide X1).now 4 _ rfl
    have k7 := (dUnhide X1).now 5 _ rfl
    go_wp2_with fail
    refine (dUnhide CS1 _ B).mono ?_
    rintro e ws1 ⟨rfl, bs⟩
    have sz8 := dHide bs.size
    replace X0 := dHide ((dUnhide X0).below bs)
    replace X1 := dHide ((dUnhide X1).below bs)
    replace B := belowThen B bs
    clear bs CS1 k2 k3 k4 k5 k6 k7
    go_wp2_with fail
    refine (dUnhide CS2 _ B).mono ?_
    rintro e ws2 ⟨rfl, bs⟩
    have sz9 := dHide bs.size
    replace X0 := dHide ((dUnhide X0).below bs)
    replace X1 := dHide ((dUnhide X1).below bs)
    replace B := belowThen B bs
    clear bs CS2
    clear X0 X1
    go_wp2
    go_ret
    exact ⟨rfl, B⟩
  have hs0 : sizConfig m0 ≤ 1048576 := by omega
  have hs1 : sizMend m1 ≤ 1048576 := by omega
  have hs3 : sizEntryS m3 ≤ 1048576 := by omega
  have hc0 := cntConfig_le hs0
  have hc1 := cntMend_le hs1
  have hc3 := cntEntryS_le hs3
  obtain ⟨R, s1, hR, p1, p2⟩ := bothFnExactMendSeal m0 m1 m2 m3 ok0 ok1 ok2 ok3 hs0 hs1 hs3
  have CP := dHide p1
  have CI := dHide p2
  have CS0 := dHide fun W (hb : Below w.heap.size w W) => szConfig_ _ m0 (1048576 : Int) (by omega) (by omega) W (dUnhide A0 W hb)
  rw [lft_yes z0] at CS0
  have z0' : ¬ ((1048576 : Int) - (sizConfig m0 : Int) < 0) := by omega
  have CS1 := dHide fun W (hb : Below w.heap.size w W) => szMend_ _ m1 ((1048576 : Int) - (sizConfig m0 : Int)) (by omega) (by omega) (txtM_of ok1) W (dUnhide A1 W hb)
  rw [lft_yes z1] at CS1
  have z1' : ¬ (((1048576 : Int) - (sizConfig m0 : Int)) - (sizMend m1 : Int) < 0) := by omega
  have CS2 := dHide fun W (hb : Below w.heap.size w W) => szEntryS_ _ m3 ((1048576 : Int) - (sizConfig m0 : Int) - (sizMend m1 : Int)) (by omega) (by omega) (txtES_of ok3) W (dUnhide A3 W hb)
  rw [lft_yes z3] at CS2
  have z3' : ¬ (((1048576 : Int) - (sizConfig m0 : Int) - (sizMend m1 : Int)) - (sizEntryS m3 : Int) < 0) := by omega
  clear p1 p2 r0 ok0 r1 ok1 r3 ok3 ok2
  go_enter Tryz.func6, Tryz.ntmps6
  go_wp2_with fail
  have B := belowThen (ha w (.cells #[.slice v0a m0.1.length v0c, .int .i64 m0.2] 51)) (ha _ (.cells #[.int .i64 m1.bye, .int .i64 m1.epoch, .slice v1sa m1.sealed.length v1sc, .slice v1ea m1.seen.length v1ec, .bool m1.planned, .slice v1wa m1.wrote.length v1wc] 54))
  have X0 := dHide ((Sits.box w #[.slice v0a m0.1.length v0c, .int .i64 m0.2] 51).below (ha _ (.cells #[.int .i64 m1.bye, .int .i64 m1.epoch, .slice v1sa m1.sealed.length v1sc, .slice v1ea m1.seen.length v1ec, .bool m1.planned, .slice v1wa m1.wrote.length v1wc] 54)))
  have X1 := Sits.box (w.alloc (.cells #[.slice v0a m0.1.length v0c, .int .i64 m0.2] 51)) #[.int .i64 m1.bye, .int .i64 m1.epoch, .slice v1sa m1.sealed.length v1sc, .slice v1ea m1.seen.length v1ec, .bool m1.planned, .slice v1wa m1.wrote.length v1wc] 54
  have e1 : (w.alloc (.cells #[.slice v0a m0.1.length v0c, .int .i64 m0.2] 51)).heap.size = w.heap.size + 1 := by simp
  rw [e1] at X1
  replace X1 := dHide X1
  have sz0 : Hid (w.heap.size + 1 + 1 = ((w.alloc (.cells #[.slice v0a m0.1.length v0c, .int .i64 m0.2] 51)).alloc (.cells #[.int .i64 m1.bye, .int .i64 m1.epoch, .slice v1sa m1.sealed.length v1sc, .slice v1ea m1.seen.length v1ec, .bool m1.planned, .slice v1wa m1.wrote.length v1wc] 54)).heap.size) := by simp [Hid]
  clear e1
  generalize (w.alloc (.cells #[.slice v0a m0.1.length v0c, .int .i64 m0.2] 51)).alloc (.cells #[.int .i64 m1.bye, .int .i64 m1.epoch, .slice v1sa m1.sealed.length v1sc, .slice v1ea m1.seen.length v1ec, .bool m1.planned, .slice v1wa m1.wrote.length v1wc] 54) = wb at *
  refine (dUnhide CS0 _ B).mono ?_
  rintro e ws0 ⟨rfl, bs⟩
  have sz1 := dHide bs.size
  replace X0 := dHide ((dUnhide X0).below bs)
  replace X1 := dHide ((dUnhide X1).below bs)
  replace B := belowThen B bs
  clear bs CS0
  have k2 := (dUnhide X1).now 0 _ rfl
  have k3 := (dUnhide X1).now 1 _ rfl
  have k4 := (dUnhide X1).now 2 _ rfl
  have k5 := (dUnhide X1).now 3 _ rfl
  have k6 := (dUnhide X1).now 4 _ rfl
  have k7 := (dUnhide X1).now 5 _ rfl
  go_wp2_with fail
  refine (dUnhide CS1 _ B).mono ?_
  rintro e ws1 ⟨rfl, bs⟩
  have sz8 := dHide bs.size
  replace X0 := dHide ((dUnhide X0).below bs)
  replace X1 := dHide ((dUnhide X1).below bs)
  replace B := belowThen B bs
  clear bs CS1 k2 k3 k4 k5 k6 k7
  go_wp2_with fail
  refine (dUnhide CS2 _ B).mono ?_
  rintro e ws2 ⟨rfl, bs⟩
  have sz9 := dHide bs.size
  replace X0 := dHide ((dUnhide X0).below bs)
  replace X1 := dHide ((dUnhide X1).below bs)
  replace B := belowThen B bs
  clear bs CS2
  go_wp2_with fail
  have hC : ∀ W, Below ws2.heap.size ws2 W → W.cell? ⟨w.heap.size, 0, none⟩ = some (.slice v0a m0.1.length v0c) ∧ W.cell? ⟨w.heap.size, 1, none⟩ = some (.int .i64 m0.2) ∧ W.cell? ⟨w.heap.size + 1, 0, none⟩ = some (.int .i64 m1.bye) ∧ W.cell? ⟨w.heap.size + 1, 1, none⟩ = some (.int .i64 m1.epoch) ∧ W.cell? ⟨w.heap.size + 1, 2, none⟩ = some (.slice v1sa m1.sealed.length v1sc) ∧ W.cell? ⟨w.heap.size + 1, 3, none⟩ = some (.slice v1ea m1.seen.length v1ec) ∧ W.cell? ⟨w.heap.size + 1, 4, none⟩ = some (.bool m1.planned) ∧ W.cell? ⟨w.heap.size + 1, 5, none⟩ = some (.slice v1wa m1.wrote.length v1wc) := fun W hb =>
    ⟨(dUnhide X0).at hb 0 _ rfl, (dUnhide X0).at hb 1 _ rfl, (dUnhide X1).at hb 0 _ rfl, (dUnhide X1).at hb 1 _ rfl, (dUnhide X1).at hb 2 _ rfl, (dUnhide X1).at hb 3 _ rfl, (dUnhide X1).at hb 4 _ rfl, (dUnhide X1).at hb 5 _ rfl⟩
  have HC := dHide hC
  have hbr := Below.refl ws2.heap.size ws2
  obtain ⟨kd100, kd101, kd102, kd103, kd104, kd105, kd106, kd107⟩ := hC ws2 hbr
  clear hC
  go_cut [10, 11] (fun sv t1 wx => ∃ (bv lo hi : Nat) (sa : Option Addr) (sc : Nat) (ea : Option Addr) (ec : Nat) (wa : Option Addr) (wc : Nat), sv = .pointer (some ⟨bv, 0, none⟩) ∧ t1 = .bool s1 ∧ Sits (Box bv #[.int .i64 R.bye, .int .i64 R.epoch, .slice sa R.sealed.length sc, .slice ea R.seen.length ec, .bool R.planned, .slice wa R.wrote.length wc]) bv (bv + 1) wx ∧ Sits (OwMend lo hi (.agg #[.int .i64 R.bye, .int .i64 R.epoch, .slice sa R.sealed.length sc, .slice ea R.seen.length ec, .bool R.planned, .slice wa R.wrote.length wc]) R) lo hi wx ∧ (bv < lo ∨ hi ≤ bv) ∧ ws2.heap.size ≤ bv ∧ ws2.heap.size ≤ lo ∧ Below ws2.heap.size ws2 wx)
  case first =>
    clear kd100 kd101 kd102 kd103 kd104 kd105 kd106 kd107
    have hcur := hbr.drew
    refine wp_region_noPanic ?_
    refine wp_region_held_drew (S := fun W => W.cell? ⟨w.heap.size, 0, none⟩ = some (.slice v0a m0.1.length v0c) ∧ W.cell? ⟨w.heap.size, 1, none⟩ = some (.int .i64 m0.2) ∧ W.cell? ⟨w.heap.size + 1, 0, none⟩ = some (.int .i64 m1.bye) ∧ W.cell? ⟨w.heap.size + 1, 1, none⟩ = some (.int .i64 m1.epoch) ∧ W.cell? ⟨w.heap.size + 1, 2, none⟩ = some (.slice v1sa m1.sealed.length v1sc) ∧ W.cell? ⟨w.heap.size + 1, 3, none⟩ = some (.slice v1ea m1.seen.length v1ec) ∧ W.cell? ⟨w.heap.size + 1, 4, none⟩ = some (.bool m1.planned) ∧ W.cell? ⟨w.heap.size + 1, 5, none⟩ = some (.slice v1wa m1.wrote.length v1wc)) (by kernel_rfl) (by first | exact dUnhide HC _ hcur | exact dUnhide HC _ hst | exact dUnhide HC _ hbr | fail) (fun hHeld => ?_)
    clear hbr
    generalize ws2.drew = wd at *
    refine wpAnyH_take (i := 0) (oi := { dst := some 38, op := Op.load 51 (Operand.tmp 4), type := 51, pos := "exact.go:3276", after := #[], guard := none }) (v := ?_) rfl (by kernel_rfl) (by kernel_rfl) (by kernel_rfl) (fun _ _ _ h => h) (Or.inl ⟨by rfl, ?_⟩) (by assumption) ?_
    rotate_left 1
    · intro w hSw
      (try dsimp only at hSw)
      first | (go_simp; done) | (go_simp; with_reducible rfl)
    try simp only [Act.put, List.setIfInBounds_toArray, List.set_cons_zero, List.set_cons_succ]
    refine wpAnyH_take (i := 2) (oi := { dst := some 40, op := Op.load 54 (Operand.tmp 5), type := 54, pos := "exact.go:3276", after := #[], guard := none }) (v := ?_) rfl (by kernel_rfl) (by kernel_rfl) (by kernel_rfl) (fun _ _ _ h => h) (Or.inl ⟨by rfl, ?_⟩) (by assumption) ?_
    rotate_left 1
    · intro w hSw
      (try dsimp only at hSw)
      first | (go_simp; done) | (go_simp; with_reducible rfl)
    try simp only [Act.put, List.setIfInBounds_toArray, List.set_cons_zero, List.set_cons_succ]
    refine wpAnyH_take (i := 4) (oi := { dst := some 42, op := Op.move (Operand.tmp 2), type := 3, pos := "exact.go:3276", after := #[], guard := none }) (v := ?_) rfl (by kernel_rfl) (by kernel_rfl) (by kernel_rfl) (fun _ _ _ h => h) (Or.inl ⟨by rfl, ?_⟩) (by assumption) ?_
    rotate_left 1
    · intro w hSw
      (try dsimp only at hSw)
      first | (go_simp; done) | (go_simp; with_reducible rfl)
    try simp only [Act.put, List.setIfInBounds_toArray, List.set_cons_zero, List.set_cons_succ]
    refine wpAnyH_take (i := 5) (oi := { dst := some 43, op := Op.move (Operand.tmp 3), type := 52, pos := "exact.go:3276", after := #[], guard := none }) (v := ?_) rfl (by kernel_rfl) (by kernel_rfl) (by kernel_rfl) (fun _ _ _ h => h) (Or.inl ⟨by rfl, ?_⟩) (by assumption) ?_
    rotate_left 1
    · intro w hSw
      (try dsimp only at hSw)
      first | (go_simp; done) | (go_simp; with_reducible rfl)
    try simp only [Act.put, List.setIfInBounds_toArray, List.set_cons_zero, List.set_cons_succ]
    refine wpAnyH_ready (rs := [1, 11]) (by kernel_rfl) (by simp) ?_
    refine AllReadyH.cons (o := { dst := some 39, op := Op.call { callee := Callee.value (Operand.func 30), args := #[Operand.tmp 38], argTypes := #[51] }, type := 26, pos := "exact.go:3276", after := #[{ on := 0, ground := Ground.data }], guard := none }) rfl (fun K hK => ?_) (AllReadyH.cons (o := { dst := some 10, op := Op.alloc 30, type := 0, pos := "exact.go:3276", after := #[], guard := none }) rfl (fun K hK => ?_) AllReadyH.nil)
    · go_simp
      refine (toConfig_ _ m0 _ hs0 (dUnhide A0 _ (belowThen B hcur))).mono ?_
      rintro e wq0 ⟨o0, rfl, q0, b0⟩
      replace hcur := belowThen hcur b0
      (try replace zz := BxZ.below zz b0)
      have Q0 := dHide q0
      obtain ⟨o0a, o0c, rfl, o0l⟩ := formConfig q0.now.rd
      clear q0 b0
      (try go_wp2_with fail)
      refine hK.out _ _ (by first | exact dUnhide HC _ hcur | exact dUnhide HC _ hst | exact dUnhide HC _ hbr | fail) (fun hHeld => ?_)
      clear hK K
      try simp only [Act.put, List.setIfInBounds_toArray, List.set_cons_zero, List.set_cons_succ]
      refine wpAnyH_ready (rs := [3, 11]) (by kernel_rfl) (by simp) ?_
      refine AllReadyH.cons (o := { dst := some 41, op := Op.call { callee := Callee.value (Operand.func 31), args := #[Operand.tmp 40], argTypes := #[54] }, type := 30, pos := "exact.go:3276", after := #[{ on := 2, ground := Ground.data }, { on := 1, ground := Ground.chain }], guard := none }) rfl (fun K hK => ?_) (AllReadyH.cons (o := { dst := some 10, op := Op.alloc 30, type := 0, pos := "exact.go:3276", after := #[], guard := none }) rfl (fun K hK => ?_) AllReadyH.nil)
      · go_simp
        refine (toMend_ _ m1 _ hs1 (dUnhide A1 _ (belowThen B hcur))).mono ?_
        rintro e wq1 ⟨o1, rfl, q1, b1⟩
        replace hcur := belowThen hcur b1
        (try replace zz := BxZ.below zz b1)
        replace Q0 := dHide ((dUnhide Q0).below b1)
        have Q1 := dHide q1
        obtain ⟨o1sa, o1sc, o1ea, o1ec, o1wa, o1wc, rfl, o1l1, o1l2, o1l3⟩ := formMend q1.now.rd
        clear q1 b1
        (try go_wp2_with fail)
        refine hK.out _ _ (by first | exact dUnhide HC _ hcur | exact dUnhide HC _ hst | exact dUnhide HC _ hbr | fail) (fun hHeld => ?_)
        clear hK K
        try simp only [Act.put, List.setIfInBounds_toArray, List.set_cons_zero, List.set_cons_succ]
        refine wpAnyH_ready (rs := [6, 11]) (by kernel_rfl) (by simp) ?_
        refine AllReadyH.cons (o := { dst := some 44, op := Op.call { callee := Callee.value (Operand.func 32), args := #[Operand.tmp 43], argTypes := #[52] }, type := 27, pos := "exact.go:3276", after := #[{ on := 5, ground := Ground.data }, { on := 3, ground := Ground.chain }], guard := none }) rfl (fun K hK => ?_) (AllReadyH.cons (o := { dst := some 10, op := Op.alloc 30, type := 0, pos := "exact.go:3276", after := #[], guard := none }) rfl (fun K hK => ?_) AllReadyH.nil)
        · go_simp
          refine (toEntryS_ _ m3 _ hs3 (dUnhide A3 _ (belowThen B hcur))).mono ?_
          rintro e wq2 ⟨o2, rfl, q2, b2⟩
          replace hcur := belowThen hcur b2
          (try replace zz := BxZ.below zz b2)
          replace Q0 := dHide ((dUnhide Q0).below b2)
          replace Q1 := dHide ((dUnhide Q1).below b2)
          have Q2 := dHide q2
          obtain ⟨o2a, o2c, rfl, o2l⟩ := formEntryS q2.now.rd
          clear q2 b2
          (try go_wp2_with fail)
          refine hK.out _ _ (by first | exact dUnhide HC _ hcur | exact dUnhide HC _ hst | exact dUnhide HC _ hbr | fail) (fun hHeld => ?_)
          clear hK K
          try simp only [Act.put, List.setIfInBounds_toArray, List.set_cons_zero, List.set_cons_succ]
          refine wpAnyH_ready (rs := [7, 11]) (by kernel_rfl) (by simp) ?_
          refine AllReadyH.cons (o := { dst := some 45, op := Op.call { callee := Callee.value (Operand.func 11), args := #[Operand.tmp 39, Operand.tmp 41, Operand.tmp 42, Operand.tmp 44], argTypes := #[26, 30, 3, 27] }, type := 33, pos := "exact.go:3276", after := #[{ on := 1, ground := Ground.data }, { on := 3, ground := Ground.data }, { on := 4, ground := Ground.data }, { on := 6, ground := Ground.data }, { on := 6, ground := Ground.chain }], guard := none }) rfl (fun K hK => ?_) (AllReadyH.cons (o := { dst := some 10, op := Op.alloc 30, type := 0, pos := "exact.go:3276", after := #[], guard := none }) rfl (fun K hK => ?_) AllReadyH.nil)
          · go_simp
            (try have hlo := BxZ.lt zz)
            have hcz := hcur.size
            refine (dUnhide CP _ _ _ _ (dUnhide Q0).now.rd (dUnhide Q1).now.rd (dUnhide Q2).now.rd).mono ?_
            rintro e w5 ⟨u5, rfl, q5, b5⟩
            replace hcur := belowThen hcur b5
            (try replace zz := BxZ.below zz b5)
            have Q5 := dHide q5
            obtain ⟨o5sa, o5sc, o5ea, o5ec, o5wa, o5wc, rfl, o5l1, o5l2, o5l3⟩ := formMend q5.now.rd
            clear q5 b5 Q0 Q1 Q2
            (try go_wp2_with fail)
            refine hK.out _ _ (by first | exact dUnhide HC _ hcur | exact dUnhide HC _ hst | exact dUnhide HC _ hbr | fail) (fun hHeld => ?_)
            clear hK K
            try simp only [Act.put, List.setIfInBounds_toArray, List.set_cons_zero, List.set_cons_succ]
            refine wpAnyH_take (i := 8) (oi := { dst := some 37, op := Op.move (Operand.tmp 45), type := 33, pos := "exact.go:3276", after := #[{ on := 7, ground := Ground.data }], guard := none }) (v := ?_) rfl (by kernel_rfl) (by kernel_rfl) (by kernel_rfl) (fun _ _ _ h => h) (Or.inl ⟨by rfl, ?_⟩) (by assumption) ?_
            rotate_left 1
            · intro w hSw
              (try dsimp only at hSw)
              first | (go_simp; done) | (go_simp; with_reducible rfl)
            try simp only [Act.put, List.setIfInBounds_toArray, List.set_cons_zero, List.set_cons_succ]
            refine wpAnyH_take (i := 9) (oi := { dst := some 46, op := Op.extract (Operand.tmp 37) 0, type := 30, pos := "exact.go:3276", after := #[{ on := 8, ground := Ground.data }], guard := none }) (v := ?_) rfl (by kernel_rfl) (by kernel_rfl) (by kernel_rfl) (fun _ _ _ h => h) (Or.inl ⟨by rfl, ?_⟩) (by assumption) ?_
            rotate_left 1
            · intro w hSw
              (try dsimp only at hSw)
              first | (go_simp; done) | (go_simp; with_reducible rfl)
            try simp only [Act.put, List.setIfInBounds_toArray, List.set_cons_zero, List.set_cons_succ]
            refine wpAnyH_take (i := 10) (oi := { dst := some 47, op := Op.extract (Operand.tmp 37) 1, type := 4, pos := "exact.go:3276", after := #[{ on := 8, ground := Ground.data }, { on := 12, ground := Ground.gcOnly Departure.lateStores }], guard := none }) (v := ?_) rfl (by kernel_rfl) (by kernel_rfl) (by kernel_rfl) (fun _ _ _ h => h) (Or.inl ⟨by rfl, ?_⟩) (by assumption) ?_
            rotate_left 1
            · intro w hSw
              (try dsimp only at hSw)
              first | (go_simp; done) | (go_simp; with_reducible rfl)
            try simp only [Act.put, List.setIfInBounds_toArray, List.set_cons_zero, List.set_cons_succ]
            refine wpAnyH_ready (rs := [11]) (by kernel_rfl) (by simp) ?_
            refine AllReadyH.cons (o := { dst := some 10, op := Op.alloc 30, type := 0, pos := "exact.go:3276", after := #[], guard := none }) rfl (fun K hK => ?_) AllReadyH.nil
            go_simp
            have zz := BxZ.new (B := ws2.heap.size) _ [.int .i64 0, .int .i64 0, .slice none 0 0, .slice none 0 0, .bool false, .slice none 0 0] 30 hcur.size
            (try replace Q0 := dHide ((dUnhide Q0).below (ha _ (.cells #[.int .i64 0, .int .i64 0, .slice none 0 0, .slice none 0 0, .bool false, .slice none 0 0] 30))))
            (try replace Q1 := dHide ((dUnhide Q1).below (ha _ (.cells #[.int .i64 0, .int .i64 0, .slice none 0 0, .slice none 0 0, .bool false, .slice none 0 0] 30))))
            (try replace Q2 := dHide ((dUnhide Q2).below (ha _ (.cells #[.int .i64 0, .int .i64 0, .slice none 0 0, .slice none 0 0, .bool false, .slice none 0 0] 30))))
            (try replace Q5 := dHide ((dUnhide Q5).below (ha _ (.cells #[.int .i64 0, .int .i64 0, .slice none 0 0, .slice none 0 0, .bool false, .slice none 0 0] 30))))
            replace hcur := hcur.alloc hcur.size (.cells #[.int .i64 0, .int .i64 0, .slice none 0 0, .slice none 0 0, .bool false, .slice none 0 0] 30)
            first | generalize w5.alloc (.cells #[.int .i64 0, .int .i64 0, .slice none 0 0, .slice none 0 0, .bool false, .slice none 0 0] 30) = wa at * | generalize wq2.alloc (.cells #[.int .i64 0, .int .i64 0, .slice none 0 0, .slice none 0 0, .bool false, .slice none 0 0] 30) = wa at * | generalize wq1.alloc (.cells #[.int .i64 0, .int .i64 0, .slice none 0 0, .slice none 0 0, .bool false, .slice none 0 0] 30) = wa at * | generalize wq0.alloc (.cells #[.int .i64 0, .int .i64 0, .slice none 0 0, .slice none 0 0, .bool false, .slice none 0 0] 30) = wa at * | generalize wd.alloc (.cells #[.int .i64 0, .int .i64 0, .slice none 0 0, .slice none 0 0, .bool false, .slice none 0 0] 30) = wa at * | fail
            refine hK.out _ _ (by first | exact dUnhide HC _ hcur | exact dUnhide HC _ hst | exact dUnhide HC _ hbr | fail) (fun hHeld => ?_)
            clear hK K
            try simp only [Act.put, List.setIfInBounds_toArray, List.set_cons_zero, List.set_cons_succ]
            refine wpAnyH_ready (rs := [12]) (by kernel_rfl) (by simp) ?_
            refine AllReadyH.cons (o := { dst := none, op := Op.store 30 (Operand.tmp 10) (Operand.tmp 46), type := 0, pos := "exact.go:3276", after := #[{ on := 11, ground := Ground.data }, { on := 9, ground := Ground.data }, { on := 7, ground := Ground.chain }, { on := 0, ground := Ground.phase }, { on := 1, ground := Ground.phase }, { on := 2, ground := Ground.phase }, { on := 3, ground := Ground.phase }, { on := 4, ground := Ground.phase }, { on := 5, ground := Ground.phase }, { on := 6, ground := Ground.phase }, { on := 7, ground := Ground.phase }, { on := 8, ground := Ground.phase }, { on := 9, ground := Ground.phase }, { on := 10, ground := Ground.textOnly Departure.lateStores }, { on := 11, ground := Ground.phase }], guard := none }) rfl (fun K hK => ?_) AllReadyH.nil
            obtain ⟨z0, y0⟩ := zz.2 0 _ rfl
            obtain ⟨z1, y1⟩ := zz.2 1 _ rfl
            obtain ⟨z2, y2⟩ := zz.2 2 _ rfl
            obtain ⟨z3, y3⟩ := zz.2 3 _ rfl
            obtain ⟨z4, y4⟩ := zz.2 4 _ rfl
            obtain ⟨z5, y5⟩ := zz.2 5 _ rfl
            go_simp
            have hst := below_six hcur zz.1 (.int .i64 R.bye) (.int .i64 R.epoch) (.slice o5sa R.sealed.length o5sc) (.slice o5ea R.seen.length o5ec) (.bool R.planned) (.slice o5wa R.wrote.length o5wc)
            clear hcur z0 y0 z1 y1 z2 y2 z3 y3 z4 y4 z5 y5
            refine hK.out _ _ (by first | exact dUnhide HC _ hcur | exact dUnhide HC _ hst | exact dUnhide HC _ hbr | fail) (fun hHeld => ?_)
            clear hK K
            try simp only [Act.put, List.setIfInBounds_toArray, List.set_cons_zero, List.set_cons_succ]
            refine wpAnyH_take (i := 13) (oi := { dst := some 11, op := Op.assign (Operand.tmp 47), type := 4, pos := "exact.go:3276", after := #[{ on := 10, ground := Ground.data }, { on := 12, ground := Ground.chain }, { on := 0, ground := Ground.phase }, { on := 1, ground := Ground.phase }, { on := 2, ground := Ground.phase }, { on := 3, ground := Ground.phase }, { on := 4, ground := Ground.phase }, { on := 5, ground := Ground.phase }, { on := 6, ground := Ground.phase }, { on := 7, ground := Ground.phase }, { on := 8, ground := Ground.phase }, { on := 9, ground := Ground.phase }, { on := 10, ground := Ground.phase }, { on := 11, ground := Ground.phase }, { on := 12, ground := Ground.phase }], guard := none }) (v := ?_) rfl (by kernel_rfl) (by kernel_rfl) (by kernel_rfl) (fun _ _ _ h => h) (Or.inl ⟨by rfl, ?_⟩) (by assumption) ?_
            rotate_left 1
            · intro w hSw
              (try dsimp only at hSw)
              first | (go_simp; done) | (go_simp; with_reducible rfl)
            try simp only [Act.put, List.setIfInBounds_toArray, List.set_cons_zero, List.set_cons_succ]
            refine wpAnyH_done (by kernel_rfl) ?_ _
            refine NoPanic.normal ?_
            go_wp2_with fail
            go_meet
            case rel => first | exact ⟨_, _, _, _, _, _, _, _, _, rfl, rfl, ((((((zz.put 0 (.int .i64 R.bye)).put 1 (.int .i64 R.epoch)).put 2 (.slice o5sa R.sealed.length o5sc)).put 3 (.slice o5ea R.seen.length o5ec)).put 4 (.bool R.planned)).put 5 (.slice o5wa R.wrote.length o5wc)).bx.sits, ((((((dUnhide Q5).setFar (.inl hlo) (.int .i64 R.bye)).setFar (.inl hlo) (.int .i64 R.epoch)).setFar (.inl hlo) (.slice o5sa R.sealed.length o5sc)).setFar (.inl hlo) (.slice o5ea R.seen.length o5ec)).setFar (.inl hlo) (.bool R.planned)).setFar (.inl hlo) (.slice o5wa R.wrote.length o5wc), (.inl hlo), zz.1, hcz, hst⟩ | exact ⟨_, _, _, _, _, _, _, _, _, rfl, rfl, ((((((zz.put 0 (.int .i64 R.bye)).put 1 (.int .i64 R.epoch)).put 2 (.slice o5sa R.sealed.length o5sc)).put 3 (.slice o5ea R.seen.length o5ec)).put 4 (.bool R.planned)).put 5 (.slice o5wa R.wrote.length o5wc)).bx.sits, ((((((dUnhide Q5).setFar (.inr (Nat.le_refl _)) (.int .i64 R.bye)).setFar (.inr (Nat.le_refl _)) (.int .i64 R.epoch)).setFar (.inr (Nat.le_refl _)) (.slice o5sa R.sealed.length o5sc)).setFar (.inr (Nat.le_refl _)) (.slice o5ea R.seen.length o5ec)).setFar (.inr (Nat.le_refl _)) (.bool R.planned)).setFar (.inr (Nat.le_refl _)) (.slice o5wa R.wrote.length o5wc), (.inr (Nat.le_refl _)), zz.1, hcz, hst⟩
          · go_simp
            have zz := BxZ.new (B := ws2.heap.size) _ [.int .i64 0, .int .i64 0, .slice none 0 0, .slice none 0 0, .bool false, .slice none 0 0] 30 hcur.size
            (try replace Q0 := dHide ((dUnhide Q0).below (ha _ (.cells #[.int .i64 0, .int .i64 0, .slice none 0 0, .slice none 0 0, .bool false, .slice none 0 0] 30))))
            (try replace Q1 := dHide ((dUnhide Q1).below (ha _ (.cells #[.int .i64 0, .int .i64 0, .slice none 0 0, .slice none 0 0, .bool false, .slice none 0 0] 30))))
            (try replace Q2 := dHide ((dUnhide Q2).below (ha _ (.cells #[.int .i64 0, .int .i64 0, .slice none 0 0, .slice none 0 0, .bool false, .slice none 0 0] 30))))
            (try replace Q5 := dHide ((dUnhide Q5).below (ha _ (.cells #[.int .i64 0, .int .i64 0, .slice none 0 0, .slice none 0 0, .bool false, .slice none 0 0] 30))))
            replace hcur := hcur.alloc hcur.size (.cells #[.int .i64 0, .int .i64 0, .slice none 0 0, .slice none 0 0, .bool false, .slice none 0 0] 30)
            first | generalize w5.alloc (.cells #[.int .i64 0, .int .i64 0, .slice none 0 0, .slice none 0 0, .bool false, .slice none 0 0] 30) = wa at * | generalize wq2.alloc (.cells #[.int .i64 0, .int .i64 0, .slice none 0 0, .slice none 0 0, .bool false, .slice none 0 0] 30) = wa at * | generalize wq1.alloc (.cells #[.int .i64 0, .int .i64 0, .slice none 0 0, .slice none 0 0, .bool false, .slice none 0 0] 30) = wa at * | generalize wq0.alloc (.cells #[.int .i64 0, .int .i64 0, .slice none 0 0, .slice none 0 0, .bool false, .slice none 0 0] 30) = wa at * | generalize wd.alloc (.cells #[.int .i64 0, .int .i64 0, .slice none 0 0, .slice none 0 0, .bool false, .slice none 0 0] 30) = wa at * | fail
            refine hK.out _ _ (by first | exact dUnhide HC _ hcur | exact dUnhide HC _ hst | exact dUnhide HC _ hbr | fail) (fun hHeld => ?_)
            clear hK K
            try simp only [Act.put, List.setIfInBounds_toArray, List.set_cons_zero, List.set_cons_succ]
            refine wpAnyH_ready (rs := [7]) (by kernel_rfl) (by simp) ?_
            refine AllReadyH.cons (o := { dst := some 45, op := Op.call { callee := Callee.value (Operand.func 11), args := #[Operand.tmp 39, Operand.tmp 41, Operand.tmp 42, Operand.tmp 44], argTypes := #[26, 30, 3, 27] }, type := 33, pos := "exact.go:3276", after := #[{ on := 1, ground := Ground.data }, { on := 3, ground := Ground.data }, { on := 4, ground := Ground.data }, { on := 6, ground := Ground.data }, { on := 6, ground := Ground.chain }], guard := none }) rfl (fun K hK => ?_) AllReadyH.nil
            go_simp
            (try have hlo := BxZ.lt zz)
            have hcz := hcur.size
            refine (dUnhide CP _ _ _ _ (dUnhide Q0).now.rd (dUnhide Q1).now.rd (dUnhide Q2).now.rd).mono ?_
            rintro e w5 ⟨u5, rfl, q5, b5⟩
            replace hcur := belowThen hcur b5
            (try replace zz := BxZ.below zz b5)
            have Q5 := dHide q5
            obtain ⟨o5sa, o5sc, o5ea, o5ec, o5wa, o5wc, rfl, o5l1, o5l2, o5l3⟩ := formMend q5.now.rd
            clear q5 b5 Q0 Q1 Q2
            (try go_wp2_with fail)
            refine hK.out _ _ (by first | exact dUnhide HC _ hcur | exact dUnhide HC _ hst | exact dUnhide HC _ hbr | fail) (fun hHeld => ?_)
            clear hK K
            try simp only [Act.put, List.setIfInBounds_toArray, List.set_cons_zero, List.set_cons_succ]
            refine wpAnyH_take (i := 8) (oi := { dst := some 37, op := Op.move (Operand.tmp 45), type := 33, pos := "exact.go:3276", after := #[{ on := 7, ground := Ground.data }], guard := none }) (v := ?_) rfl (by kernel_rfl) (by kernel_rfl) (by kernel_rfl) (fun _ _ _ h => h) (Or.inl ⟨by rfl, ?_⟩) (by assumption) ?_
            rotate_left 1
            · intro w hSw
              (try dsimp only at hSw)
              first | (go_simp; done) | (go_simp; with_reducible rfl)
            try simp only [Act.put, List.setIfInBounds_toArray, List.set_cons_zero, List.set_cons_succ]
            refine wpAnyH_take (i := 9) (oi := { dst := some 46, op := Op.extract (Operand.tmp 37) 0, type := 30, pos := "exact.go:3276", after := #[{ on := 8, ground := Ground.data }], guard := none }) (v := ?_) rfl (by kernel_rfl) (by kernel_rfl) (by kernel_rfl) (fun _ _ _ h => h) (Or.inl ⟨by rfl, ?_⟩) (by assumption) ?_
            rotate_left 1
            · intro w hSw
              (try dsimp only at hSw)
              first | (go_simp; done) | (go_simp; with_reducible rfl)
            try simp only [Act.put, List.setIfInBounds_toArray, List.set_cons_zero, List.set_cons_succ]
            refine wpAnyH_take (i := 10) (oi := { dst := some 47, op := Op.extract (Operand.tmp 37) 1, type := 4, pos := "exact.go:3276", after := #[{ on := 8, ground := Ground.data }, { on := 12, ground := Ground.gcOnly Departure.lateStores }], guard := none }) (v := ?_) rfl (by kernel_rfl) (by kernel_rfl) (by kernel_rfl) (fun _ _ _ h => h) (Or.inl ⟨by rfl, ?_⟩) (by assumption) ?_
            rotate_left 1
            · intro w hSw
              (try dsimp only at hSw)
              first | (go_simp; done) | (go_simp; with_reducible rfl)
            try simp only [Act.put, List.setIfInBounds_toArray, List.set_cons_zero, List.set_cons_succ]
            refine wpAnyH_ready (rs := [12]) (by kernel_rfl) (by simp) ?_
            refine AllReadyH.cons (o := { dst := none, op := Op.store 30 (Operand.tmp 10) (Operand.tmp 46), type := 0, pos := "exact.go:3276", after := #[{ on := 11, ground := Ground.data }, { on := 9, ground := Ground.data }, { on := 7, ground := Ground.chain }, { on := 0, ground := Ground.phase }, { on := 1, ground := Ground.phase }, { on := 2, ground := Ground.phase }, { on := 3, ground := Ground.phase }, { on := 4, ground := Ground.phase }, { on := 5, ground := Ground.phase }, { on := 6, ground := Ground.phase }, { on := 7, ground := Ground.phase }, { on := 8, ground := Ground.phase }, { on := 9, ground := Ground.phase }, { on := 10, ground := Ground.textOnly Departure.lateStores }, { on := 11, ground := Ground.phase }], guard := none }) rfl (fun K hK => ?_) AllReadyH.nil
            obtain ⟨z0, y0⟩ := zz.2 0 _ rfl
            obtain ⟨z1, y1⟩ := zz.2 1 _ rfl
            obtain ⟨z2, y2⟩ := zz.2 2 _ rfl
            obtain ⟨z3, y3⟩ := zz.2 3 _ rfl
            obtain ⟨z4, y4⟩ := zz.2 4 _ rfl
            obtain ⟨z5, y5⟩ := zz.2 5 _ rfl
            go_simp
            have hst := below_six hcur zz.1 (.int .i64 R.bye) (.int .i64 R.epoch) (.slice o5sa R.sealed.length o5sc) (.slice o5ea R.seen.length o5ec) (.bool R.planned) (.slice o5wa R.wrote.length o5wc)
            clear hcur z0 y0 z1 y1 z2 y2 z3 y3 z4 y4 z5 y5
            refine hK.out _ _ (by first | exact dUnhide HC _ hcur | exact dUnhide HC _ hst | exact dUnhide HC _ hbr | fail) (fun hHeld => ?_)
            clear hK K
            try simp only [Act.put, List.setIfInBounds_toArray, List.set_cons_zero, List.set_cons_succ]
            refine wpAnyH_take (i := 13) (oi := { dst := some 11, op := Op.assign (Operand.tmp 47), type := 4, pos := "exact.go:3276", after := #[{ on := 10, ground := Ground.data }, { on := 12, ground := Ground.chain }, { on := 0, ground := Ground.phase }, { on := 1, ground := Ground.phase }, { on := 2, ground := Ground.phase }, { on := 3, ground := Ground.phase }, { on := 4, ground := Ground.phase }, { on := 5, ground := Ground.phase }, { on := 6, ground := Ground.phase }, { on := 7, ground := Ground.phase }, { on := 8, ground := Ground.phase }, { on := 9, ground := Ground.phase }, { on := 10, ground := Ground.phase }, { on := 11, ground := Ground.phase }, { on := 12, ground := Ground.phase }], guard := none }) (v := ?_) rfl (by kernel_rfl) (by kernel_rfl) (by kernel_rfl) (fun _ _ _ h => h) (Or.inl ⟨by rfl, ?_⟩) (by assumption) ?_
            rotate_left 1
            · intro w hSw
              (try dsimp only at hSw)
              first | (go_simp; done) | (go_simp; with_reducible rfl)
            try simp only [Act.put, List.setIfInBounds_toArray, List.set_cons_zero, List.set_cons_succ]
            refine wpAnyH_done (by kernel_rfl) ?_ _
            refine NoPanic.normal ?_
            go_wp2_with fail
            go_meet
            case rel => first | exact ⟨_, _, _, _, _, _, _, _, _, rfl, rfl, ((((((zz.put 0 (.int .i64 R.bye)).put 1 (.int .i64 R.epoch)).put 2 (.slice o5sa R.sealed.length o5sc)).put 3 (.slice o5ea R.seen.length o5ec)).put 4 (.bool R.planned)).put 5 (.slice o5wa R.wrote.length o5wc)).bx.sits, ((((((dUnhide Q5).setFar (.inl hlo) (.int .i64 R.bye)).setFar (.inl hlo) (.int .i64 R.epoch)).setFar (.inl hlo) (.slice o5sa R.sealed.length o5sc)).setFar (.inl hlo) (.slice o5ea R.seen.length o5ec)).setFar (.inl hlo) (.bool R.planned)).setFar (.inl hlo) (.slice o5wa R.wrote.length o5wc), (.inl hlo), zz.1, hcz, hst⟩ | exact ⟨_, _, _, _, _, _, _, _, _, rfl, rfl, ((((((zz.put 0 (.int .i64 R.bye)).put 1 (.int .i64 R.epoch)).put 2 (.slice o5sa R.sealed.length o5sc)).put 3 (.slice o5ea R.seen.length o5ec)).put 4 (.bool R.planned)).put 5 (.slice o5wa R.wrote.length o5wc)).bx.sits, ((((((dUnhide Q5).setFar (.inr (Nat.le_refl _)) (.int .i64 R.bye)).setFar (.inr (Nat.le_refl _)) (.int .i64 R.epoch)).setFar (.inr (Nat.le_refl _)) (.slice o5sa R.sealed.length o5sc)).setFar (.inr (Nat.le_refl _)) (.slice o5ea R.seen.length o5ec)).setFar (.inr (Nat.le_refl _)) (.bool R.planned)).setFar (.inr (Nat.le_refl _)) (.slice o5wa R.wrote.length o5wc), (.inr (Nat.le_refl _)), zz.1, hcz, hst⟩
        · go_simp
          have zz := BxZ.new (B := ws2.heap.size) _ [.int .i64 0, .int .i64 0, .slice none 0 0, .slice none 0 0, .bool false, .slice none 0 0] 30 hcur.size
          (try replace Q0 := dHide ((dUnhide Q0).below (ha _ (.cells #[.int .i64 0, .int .i64 0, .slice none 0 0, .slice none 0 0, .bool false, .slice none 0 0] 30))))
          (try replace Q1 := dHide ((dUnhide Q1).below (ha _ (.cells #[.int .i64 0, .int .i64 0, .slice none 0 0, .slice none 0 0, .bool false, .slice none 0 0] 30))))
          (try replace Q2 := dHide ((dUnhide Q2).below (ha _ (.cells #[.int .i64 0, .int .i64 0, .slice none 0 0, .slice none 0 0, .bool false, .slice none 0 0] 30))))
          (try replace Q5 := dHide ((dUnhide Q5).below (ha _ (.cells #[.int .i64 0, .int .i64 0, .slice none 0 0, .slice none 0 0, .bool false, .slice none 0 0] 30))))
          replace hcur := hcur.alloc hcur.size (.cells #[.int .i64 0, .int .i64 0, .slice none 0 0, .slice none 0 0, .bool false, .slice none 0 0] 30)
          first | generalize w5.alloc (.cells #[.int .i64 0, .int .i64 0, .slice none 0 0, .slice none 0 0, .bool false, .slice none 0 0] 30) = wa at * | generalize wq2.alloc (.cells #[.int .i64 0, .int .i64 0, .slice none 0 0, .slice none 0 0, .bool false, .slice none 0 0] 30) = wa at * | generalize wq1.alloc (.cells #[.int .i64 0, .int .i64 0, .slice none 0 0, .slice none 0 0, .bool false, .slice none 0 0] 30) = wa at * | generalize wq0.alloc (.cells #[.int .i64 0, .int .i64 0, .slice none 0 0, .slice none 0 0, .bool false, .slice none 0 0] 30) = wa at * | generalize wd.alloc (.cells #[.int .i64 0, .int .i64 0, .slice none 0 0, .slice none 0 0, .bool false, .slice none 0 0] 30) = wa at * | fail
          refine hK.out _ _ (by first | exact dUnhide HC _ hcur | exact dUnhide HC _ hst | exact dUnhide HC _ hbr | fail) (fun hHeld => ?_)
          clear hK K
          try simp only [Act.put, List.setIfInBounds_toArray, List.set_cons_zero, List.set_cons_succ]
          refine wpAnyH_ready (rs := [6]) (by kernel_rfl) (by simp) ?_
          refine AllReadyH.cons (o := { dst := some 44, op := Op.call { callee := Callee.value (Operand.func 32), args := #[Operand.tmp 43], argTypes := #[52] }, type := 27, pos := "exact.go:3276", after := #[{ on := 5, ground := Ground.data }, { on := 3, ground := Ground.chain }], guard := none }) rfl (fun K hK => ?_) AllReadyH.nil
          go_simp
          refine (toEntryS_ _ m3 _ hs3 (dUnhide A3 _ (belowThen B hcur))).mono ?_
          rintro e wq2 ⟨o2, rfl, q2, b2⟩
          replace hcur := belowThen hcur b2
          (try replace zz := BxZ.below zz b2)
          replace Q0 := dHide ((dUnhide Q0).below b2)
          replace Q1 := dHide ((dUnhide Q1).below b2)
          have Q2 := dHide q2
          obtain ⟨o2a, o2c, rfl, o2l⟩ := formEntryS q2.now.rd
          clear q2 b2
          (try go_wp2_with fail)
          refine hK.out _ _ (by first | exact dUnhide HC _ hcur | exact dUnhide HC _ hst | exact dUnhide HC _ hbr | fail) (fun hHeld => ?_)
          clear hK K
          try simp only [Act.put, List.setIfInBounds_toArray, List.set_cons_zero, List.set_cons_succ]
          refine wpAnyH_ready (rs := [7]) (by kernel_rfl) (by simp) ?_
          refine AllReadyH.cons (o := { dst := some 45, op := Op.call { callee := Callee.value (Operand.func 11), args := #[Operand.tmp 39, Operand.tmp 41, Operand.tmp 42, Operand.tmp 44], argTypes := #[26, 30, 3, 27] }, type := 33, pos := "exact.go:3276", after := #[{ on := 1, ground := Ground.data }, { on := 3, ground := Ground.data }, { on := 4, ground := Ground.data }, { on := 6, ground := Ground.data }, { on := 6, ground := Ground.chain }], guard := none }) rfl (fun K hK => ?_) AllReadyH.nil
          go_simp
          (try have hlo := BxZ.lt zz)
          have hcz := hcur.size
          refine (dUnhide CP _ _ _ _ (dUnhide Q0).now.rd (dUnhide Q1).now.rd (dUnhide Q2).now.rd).mono ?_
          rintro e w5 ⟨u5, rfl, q5, b5⟩
          replace hcur := belowThen hcur b5
          (try replace zz := BxZ.below zz b5)
          have Q5 := dHide q5
          obtain ⟨o5sa, o5sc, o5ea, o5ec, o5wa, o5wc, rfl, o5l1, o5l2, o5l3⟩ := formMend q5.now.rd
          clear q5 b5 Q0 Q1 Q2
          (try go_wp2_with fail)
          refine hK.out _ _ (by first | exact dUnhide HC _ hcur | exact dUnhide HC _ hst | exact dUnhide HC _ hbr | fail) (fun hHeld => ?_)
          clear hK K
          try simp only [Act.put, List.setIfInBounds_toArray, List.set_cons_zero, List.set_cons_succ]
          refine wpAnyH_take (i := 8) (oi := { dst := some 37, op := Op.move (Operand.tmp 45), type := 33, pos := "exact.go:3276", after := #[{ on := 7, ground := Ground.data }], guard := none }) (v := ?_) rfl (by kernel_rfl) (by kernel_rfl) (by kernel_rfl) (fun _ _ _ h => h) (Or.inl ⟨by rfl, ?_⟩) (by assumption) ?_
          rotate_left 1
          · intro w hSw
            (try dsimp only at hSw)
            first | (go_simp; done) | (go_simp; with_reducible rfl)
          try simp only [Act.put, List.setIfInBounds_toArray, List.set_cons_zero, List.set_cons_succ]
          refine wpAnyH_take (i := 9) (oi := { dst := some 46, op := Op.extract (Operand.tmp 37) 0, type := 30, pos := "exact.go:3276", after := #[{ on := 8, ground := Ground.data }], guard := none }) (v := ?_) rfl (by kernel_rfl) (by kernel_rfl) (by kernel_rfl) (fun _ _ _ h => h) (Or.inl ⟨by rfl, ?_⟩) (by assumption) ?_
          rotate_left 1
          · intro w hSw
            (try dsimp only at hSw)
            first | (go_simp; done) | (go_simp; with_reducible rfl)
          try simp only [Act.put, List.setIfInBounds_toArray, List.set_cons_zero, List.set_cons_succ]
          refine wpAnyH_take (i := 10) (oi := { dst := some 47, op := Op.extract (Operand.tmp 37) 1, type := 4, pos := "exact.go:3276", after := #[{ on := 8, ground := Ground.data }, { on := 12, ground := Ground.gcOnly Departure.lateStores }], guard := none }) (v := ?_) rfl (by kernel_rfl) (by kernel_rfl) (by kernel_rfl) (fun _ _ _ h => h) (Or.inl ⟨by rfl, ?_⟩) (by assumption) ?_
          rotate_left 1
          · intro w hSw
            (try dsimp only at hSw)
            first | (go_simp; done) | (go_simp; with_reducible rfl)
          try simp only [Act.put, List.setIfInBounds_toArray, List.set_cons_zero, List.set_cons_succ]
          refine wpAnyH_ready (rs := [12]) (by kernel_rfl) (by simp) ?_
          refine AllReadyH.cons (o := { dst := none, op := Op.store 30 (Operand.tmp 10) (Operand.tmp 46), type := 0, pos := "exact.go:3276", after := #[{ on := 11, ground := Ground.data }, { on := 9, ground := Ground.data }, { on := 7, ground := Ground.chain }, { on := 0, ground := Ground.phase }, { on := 1, ground := Ground.phase }, { on := 2, ground := Ground.phase }, { on := 3, ground := Ground.phase }, { on := 4, ground := Ground.phase }, { on := 5, ground := Ground.phase }, { on := 6, ground := Ground.phase }, { on := 7, ground := Ground.phase }, { on := 8, ground := Ground.phase }, { on := 9, ground := Ground.phase }, { on := 10, ground := Ground.textOnly Departure.lateStores }, { on := 11, ground := Ground.phase }], guard := none }) rfl (fun K hK => ?_) AllReadyH.nil
          obtain ⟨z0, y0⟩ := zz.2 0 _ rfl
          obtain ⟨z1, y1⟩ := zz.2 1 _ rfl
          obtain ⟨z2, y2⟩ := zz.2 2 _ rfl
          obtain ⟨z3, y3⟩ := zz.2 3 _ rfl
          obtain ⟨z4, y4⟩ := zz.2 4 _ rfl
          obtain ⟨z5, y5⟩ := zz.2 5 _ rfl
          go_simp
          have hst := below_six hcur zz.1 (.int .i64 R.bye) (.int .i64 R.epoch) (.slice o5sa R.sealed.length o5sc) (.slice o5ea R.seen.length o5ec) (.bool R.planned) (.slice o5wa R.wrote.length o5wc)
          clear hcur z0 y0 z1 y1 z2 y2 z3 y3 z4 y4 z5 y5
          refine hK.out _ _ (by first | exact dUnhide HC _ hcur | exact dUnhide HC _ hst | exact dUnhide HC _ hbr | fail) (fun hHeld => ?_)
          clear hK K
          try simp only [Act.put, List.setIfInBounds_toArray, List.set_cons_zero, List.set_cons_succ]
          refine wpAnyH_take (i := 13) (oi := { dst := some 11, op := Op.assign (Operand.tmp 47), type := 4, pos := "exact.go:3276", after := #[{ on := 10, ground := Ground.data }, { on := 12, ground := Ground.chain }, { on := 0, ground := Ground.phase }, { on := 1, ground := Ground.phase }, { on := 2, ground := Ground.phase }, { on := 3, ground := Ground.phase }, { on := 4, ground := Ground.phase }, { on := 5, ground := Ground.phase }, { on := 6, ground := Ground.phase }, { on := 7, ground := Ground.phase }, { on := 8, ground := Ground.phase }, { on := 9, ground := Ground.phase }, { on := 10, ground := Ground.phase }, { on := 11, ground := Ground.phase }, { on := 12, ground := Ground.phase }], guard := none }) (v := ?_) rfl (by kernel_rfl) (by kernel_rfl) (by kernel_rfl) (fun _ _ _ h => h) (Or.inl ⟨by rfl, ?_⟩) (by assumption) ?_
          rotate_left 1
          · intro w hSw
            (try dsimp only at hSw)
            first | (go_simp; done) | (go_simp; with_reducible rfl)
          try simp only [Act.put, List.setIfInBounds_toArray, List.set_cons_zero, List.set_cons_succ]
          refine wpAnyH_done (by kernel_rfl) ?_ _
          refine NoPanic.normal ?_
          go_wp2_with fail
          go_meet
          case rel => first | exact ⟨_, _, _, _, _, _, _, _, _, rfl, rfl, ((((((zz.put 0 (.int .i64 R.bye)).put 1 (.int .i64 R.epoch)).put 2 (.slice o5sa R.sealed.length o5sc)).put 3 (.slice o5ea R.seen.length o5ec)).put 4 (.bool R.planned)).put 5 (.slice o5wa R.wrote.length o5wc)).bx.sits, ((((((dUnhide Q5).setFar (.inl hlo) (.int .i64 R.bye)).setFar (.inl hlo) (.int .i64 R.epoch)).setFar (.inl hlo) (.slice o5sa R.sealed.length o5sc)).setFar (.inl hlo) (.slice o5ea R.seen.length o5ec)).setFar (.inl hlo) (.bool R.planned)).setFar (.inl hlo) (.slice o5wa R.wrote.length o5wc), (.inl hlo), zz.1, hcz, hst⟩ | exact ⟨_, _, _, _, _, _, _, _, _, rfl, rfl, ((((((zz.put 0 (.int .i64 R.bye)).put 1 (.int .i64 R.epoch)).put 2 (.slice o5sa R.sealed.length o5sc)).put 3 (.slice o5ea R.seen.length o5ec)).put 4 (.bool R.planned)).put 5 (.slice o5wa R.wrote.length o5wc)).bx.sits, ((((((dUnhide Q5).setFar (.inr (Nat.le_refl _)) (.int .i64 R.bye)).setFar (.inr (Nat.le_refl _)) (.int .i64 R.epoch)).setFar (.inr (Nat.le_refl _)) (.slice o5sa R.sealed.length o5sc)).setFar (.inr (Nat.le_refl _)) (.slice o5ea R.seen.length o5ec)).setFar (.inr (Nat.le_refl _)) (.bool R.planned)).setFar (.inr (Nat.le_refl _)) (.slice o5wa R.wrote.length o5wc), (.inr (Nat.le_refl _)), zz.1, hcz, hst⟩
      · go_simp
        have zz := BxZ.new (B := ws2.heap.size) _ [.int .i64 0, .int .i64 0, .slice none 0 0, .slice none 0 0, .bool false, .slice none 0 0] 30 hcur.size
        (try replace Q0 := dHide ((dUnhide Q0).below (ha _ (.cells #[.int .i64 0, .int .i64 0, .slice none 0 0, .slice none 0 0, .bool false, .slice none 0 0] 30))))
        (try replace Q1 := dHide ((dUnhide Q1).below (ha _ (.cells #[.int .i64 0, .int .i64 0, .slice none 0 0, .slice none 0 0, .bool false, .slice none 0 0] 30))))
        (try replace Q2 := dHide ((dUnhide Q2).below (ha _ (.cells #[.int .i64 0, .int .i64 0, .slice none 0 0, .slice none 0 0, .bool false, .slice none 0 0] 30))))
        (try replace Q5 := dHide ((dUnhide Q5).below (ha _ (.cells #[.int .i64 0, .int .i64 0, .slice none 0 0, .slice none 0 0, .bool false, .slice none 0 0] 30))))
        replace hcur := hcur.alloc hcur.size (.cells #[.int .i64 0, .int .i64 0, .slice none 0 0, .slice none 0 0, .bool false, .slice none 0 0] 30)
        first | generalize w5.alloc (.cells #[.int .i64 0, .int .i64 0, .slice none 0 0, .slice none 0 0, .bool false, .slice none 0 0] 30) = wa at * | generalize wq2.alloc (.cells #[.int .i64 0, .int .i64 0, .slice none 0 0, .slice none 0 0, .bool false, .slice none 0 0] 30) = wa at * | generalize wq1.alloc (.cells #[.int .i64 0, .int .i64 0, .slice none 0 0, .slice none 0 0, .bool false, .slice none 0 0] 30) = wa at * | generalize wq0.alloc (.cells #[.int .i64 0, .int .i64 0, .slice none 0 0, .slice none 0 0, .bool false, .slice none 0 0] 30) = wa at * | generalize wd.alloc (.cells #[.int .i64 0, .int .i64 0, .slice none 0 0, .slice none 0 0, .bool false, .slice none 0 0] 30) = wa at * | fail
        refine hK.out _ _ (by first | exact dUnhide HC _ hcur | exact dUnhide HC _ hst | exact dUnhide HC _ hbr | fail) (fun hHeld => ?_)
        clear hK K
        try simp only [Act.put, List.setIfInBounds_toArray, List.set_cons_zero, List.set_cons_succ]
        refine wpAnyH_ready (rs := [3]) (by kernel_rfl) (by simp) ?_
        refine AllReadyH.cons (o := { dst := some 41, op := Op.call { callee := Callee.value (Operand.func 31), args := #[Operand.tmp 40], argTypes := #[54] }, type := 30, pos := "exact.go:3276", after := #[{ on := 2, ground := Ground.data }, { on := 1, ground := Ground.chain }], guard := none }) rfl (fun K hK => ?_) AllReadyH.nil
        go_simp
        refine (toMend_ _ m1 _ hs1 (dUnhide A1 _ (belowThen B hcur))).mono ?_
        rintro e wq1 ⟨o1, rfl, q1, b1⟩
        replace hcur := belowThen hcur b1
        (try replace zz := BxZ.below zz b1)
        replace Q0 := dHide ((dUnhide Q0).below b1)
        have Q1 := dHide q1
        obtain ⟨o1sa, o1sc, o1ea, o1ec, o1wa, o1wc, rfl, o1l1, o1l2, o1l3⟩ := formMend q1.now.rd
        clear q1 b1
        (try go_wp2_with fail)
        refine hK.out _ _ (by first | exact dUnhide HC _ hcur | exact dUnhide HC _ hst | exact dUnhide HC _ hbr | fail) (fun hHeld => ?_)
        clear hK K
        try simp only [Act.put, List.setIfInBounds_toArray, List.set_cons_zero, List.set_cons_succ]
        refine wpAnyH_ready (rs := [6]) (by kernel_rfl) (by simp) ?_
        refine AllReadyH.cons (o := { dst := some 44, op := Op.call { callee := Callee.value (Operand.func 32), args := #[Operand.tmp 43], argTypes := #[52] }, type := 27, pos := "exact.go:3276", after := #[{ on := 5, ground := Ground.data }, { on := 3, ground := Ground.chain }], guard := none }) rfl (fun K hK => ?_) AllReadyH.nil
        go_simp
        refine (toEntryS_ _ m3 _ hs3 (dUnhide A3 _ (belowThen B hcur))).mono ?_
        rintro e wq2 ⟨o2, rfl, q2, b2⟩
        replace hcur := belowThen hcur b2
        (try replace zz := BxZ.below zz b2)
        replace Q0 := dHide ((dUnhide Q0).below b2)
        replace Q1 := dHide ((dUnhide Q1).below b2)
        have Q2 := dHide q2
        obtain ⟨o2a, o2c, rfl, o2l⟩ := formEntryS q2.now.rd
        clear q2 b2
        (try go_wp2_with fail)
        refine hK.out _ _ (by first | exact dUnhide HC _ hcur | exact dUnhide HC _ hst | exact dUnhide HC _ hbr | fail) (fun hHeld => ?_)
        clear hK K
        try simp only [Act.put, List.setIfInBounds_toArray, List.set_cons_zero, List.set_cons_succ]
        refine wpAnyH_ready (rs := [7]) (by kernel_rfl) (by simp) ?_
        refine AllReadyH.cons (o := { dst := some 45, op := Op.call { callee := Callee.value (Operand.func 11), args := #[Operand.tmp 39, Operand.tmp 41, Operand.tmp 42, Operand.tmp 44], argTypes := #[26, 30, 3, 27] }, type := 33, pos := "exact.go:3276", after := #[{ on := 1, ground := Ground.data }, { on := 3, ground := Ground.data }, { on := 4, ground := Ground.data }, { on := 6, ground := Ground.data }, { on := 6, ground := Ground.chain }], guard := none }) rfl (fun K hK => ?_) AllReadyH.nil
        go_simp
        (try have hlo := BxZ.lt zz)
        have hcz := hcur.size
        refine (dUnhide CP _ _ _ _ (dUnhide Q0).now.rd (dUnhide Q1).now.rd (dUnhide Q2).now.rd).mono ?_
        rintro e w5 ⟨u5, rfl, q5, b5⟩
        replace hcur := belowThen hcur b5
        (try replace zz := BxZ.below zz b5)
        have Q5 := dHide q5
        obtain ⟨o5sa, o5sc, o5ea, o5ec, o5wa, o5wc, rfl, o5l1, o5l2, o5l3⟩ := formMend q5.now.rd
        clear q5 b5 Q0 Q1 Q2
        (try go_wp2_with fail)
        refine hK.out _ _ (by first | exact dUnhide HC _ hcur | exact dUnhide HC _ hst | exact dUnhide HC _ hbr | fail) (fun hHeld => ?_)
        clear hK K
        try simp only [Act.put, List.setIfInBounds_toArray, List.set_cons_zero, List.set_cons_succ]
        refine wpAnyH_take (i := 8) (oi := { dst := some 37, op := Op.move (Operand.tmp 45), type := 33, pos := "exact.go:3276", after := #[{ on := 7, ground := Ground.data }], guard := none }) (v := ?_) rfl (by kernel_rfl) (by kernel_rfl) (by kernel_rfl) (fun _ _ _ h => h) (Or.inl ⟨by rfl, ?_⟩) (by assumption) ?_
        rotate_left 1
        · intro w hSw
          (try dsimp only at hSw)
          first | (go_simp; done) | (go_simp; with_reducible rfl)
        try simp only [Act.put, List.setIfInBounds_toArray, List.set_cons_zero, List.set_cons_succ]
        refine wpAnyH_take (i := 9) (oi := { dst := some 46, op := Op.extract (Operand.tmp 37) 0, type := 30, pos := "exact.go:3276", after := #[{ on := 8, ground := Ground.data }], guard := none }) (v := ?_) rfl (by kernel_rfl) (by kernel_rfl) (by kernel_rfl) (fun _ _ _ h => h) (Or.inl ⟨by rfl, ?_⟩) (by assumption) ?_
        rotate_left 1
        · intro w hSw
          (try dsimp only at hSw)
          first | (go_simp; done) | (go_simp; with_reducible rfl)
        try simp only [Act.put, List.setIfInBounds_toArray, List.set_cons_zero, List.set_cons_succ]
        refine wpAnyH_take (i := 10) (oi := { dst := some 47, op := Op.extract (Operand.tmp 37) 1, type := 4, pos := "exact.go:3276", after := #[{ on := 8, ground := Ground.data }, { on := 12, ground := Ground.gcOnly Departure.lateStores }], guard := none }) (v := ?_) rfl (by kernel_rfl) (by kernel_rfl) (by kernel_rfl) (fun _ _ _ h => h) (Or.inl ⟨by rfl, ?_⟩) (by assumption) ?_
        rotate_left 1
        · intro w hSw
          (try dsimp only at hSw)
          first | (go_simp; done) | (go_simp; with_reducible rfl)
        try simp only [Act.put, List.setIfInBounds_toArray, List.set_cons_zero, List.set_cons_succ]
        refine wpAnyH_ready (rs := [12]) (by kernel_rfl) (by simp) ?_
        refine AllReadyH.cons (o := { dst := none, op := Op.store 30 (Operand.tmp 10) (Operand.tmp 46), type := 0, pos := "exact.go:3276", after := #[{ on := 11, ground := Ground.data }, { on := 9, ground := Ground.data }, { on := 7, ground := Ground.chain }, { on := 0, ground := Ground.phase }, { on := 1, ground := Ground.phase }, { on := 2, ground := Ground.phase }, { on := 3, ground := Ground.phase }, { on := 4, ground := Ground.phase }, { on := 5, ground := Ground.phase }, { on := 6, ground := Ground.phase }, { on := 7, ground := Ground.phase }, { on := 8, ground := Ground.phase }, { on := 9, ground := Ground.phase }, { on := 10, ground := Ground.textOnly Departure.lateStores }, { on := 11, ground := Ground.phase }], guard := none }) rfl (fun K hK => ?_) AllReadyH.nil
        obtain ⟨z0, y0⟩ := zz.2 0 _ rfl
        obtain ⟨z1, y1⟩ := zz.2 1 _ rfl
        obtain ⟨z2, y2⟩ := zz.2 2 _ rfl
        obtain ⟨z3, y3⟩ := zz.2 3 _ rfl
        obtain ⟨z4, y4⟩ := zz.2 4 _ rfl
        obtain ⟨z5, y5⟩ := zz.2 5 _ rfl
        go_simp
        have hst := below_six hcur zz.1 (.int .i64 R.bye) (.int .i64 R.epoch) (.slice o5sa R.sealed.length o5sc) (.slice o5ea R.seen.length o5ec) (.bool R.planned) (.slice o5wa R.wrote.length o5wc)
        clear hcur z0 y0 z1 y1 z2 y2 z3 y3 z4 y4 z5 y5
        refine hK.out _ _ (by first | exact dUnhide HC _ hcur | exact dUnhide HC _ hst | exact dUnhide HC _ hbr | fail) (fun hHeld => ?_)
        clear hK K
        try simp only [Act.put, List.setIfInBounds_toArray, List.set_cons_zero, List.set_cons_succ]
        refine wpAnyH_take (i := 13) (oi := { dst := some 11, op := Op.assign (Operand.tmp 47), type := 4, pos := "exact.go:3276", after := #[{ on := 10, ground := Ground.data }, { on := 12, ground := Ground.chain }, { on := 0, ground := Ground.phase }, { on := 1, ground := Ground.phase }, { on := 2, ground := Ground.phase }, { on := 3, ground := Ground.phase }, { on := 4, ground := Ground.phase }, { on := 5, ground := Ground.phase }, { on := 6, ground := Ground.phase }, { on := 7, ground := Ground.phase }, { on := 8, ground := Ground.phase }, { on := 9, ground := Ground.phase }, { on := 10, ground := Ground.phase }, { on := 11, ground := Ground.phase }, { on := 12, ground := Ground.phase }], guard := none }) (v := ?_) rfl (by kernel_rfl) (by kernel_rfl) (by kernel_rfl) (fun _ _ _ h => h) (Or.inl ⟨by rfl, ?_⟩) (by assumption) ?_
        rotate_left 1
        · intro w hSw
          (try dsimp only at hSw)
          first | (go_simp; done) | (go_simp; with_reducible rfl)
        try simp only [Act.put, List.setIfInBounds_toArray, List.set_cons_zero, List.set_cons_succ]
        refine wpAnyH_done (by kernel_rfl) ?_ _
        refine NoPanic.normal ?_
        go_wp2_with fail
        go_meet
        case rel => first | exact ⟨_, _, _, _, _, _, _, _, _, rfl, rfl, ((((((zz.put 0 (.int .i64 R.bye)).put 1 (.int .i64 R.epoch)).put 2 (.slice o5sa R.sealed.length o5sc)).put 3 (.slice o5ea R.seen.length o5ec)).put 4 (.bool R.planned)).put 5 (.slice o5wa R.wrote.length o5wc)).bx.sits, ((((((dUnhide Q5).setFar (.inl hlo) (.int .i64 R.bye)).setFar (.inl hlo) (.int .i64 R.epoch)).setFar (.inl hlo) (.slice o5sa R.sealed.length o5sc)).setFar (.inl hlo) (.slice o5ea R.seen.length o5ec)).setFar (.inl hlo) (.bool R.planned)).setFar (.inl hlo) (.slice o5wa R.wrote.length o5wc), (.inl hlo), zz.1, hcz, hst⟩ | exact ⟨_, _, _, _, _, _, _, _, _, rfl, rfl, ((((((zz.put 0 (.int .i64 R.bye)).put 1 (.int .i64 R.epoch)).put 2 (.slice o5sa R.sealed.length o5sc)).put 3 (.slice o5ea R.seen.length o5ec)).put 4 (.bool R.planned)).put 5 (.slice o5wa R.wrote.length o5wc)).bx.sits, ((((((dUnhide Q5).setFar (.inr (Nat.le_refl _)) (.int .i64 R.bye)).setFar (.inr (Nat.le_refl _)) (.int .i64 R.epoch)).setFar (.inr (Nat.le_refl _)) (.slice o5sa R.sealed.length o5sc)).setFar (.inr (Nat.le_refl _)) (.slice o5ea R.seen.length o5ec)).setFar (.inr (Nat.le_refl _)) (.bool R.planned)).setFar (.inr (Nat.le_refl _)) (.slice o5wa R.wrote.length o5wc), (.inr (Nat.le_refl _)), zz.1, hcz, hst⟩
    · go_simp
      have zz := BxZ.new (B := ws2.heap.size) _ [.int .i64 0, .int .i64 0, .slice none 0 0, .slice none 0 0, .bool false, .slice none 0 0] 30 hcur.size
      (try replace Q0 := dHide ((dUnhide Q0).below (ha _ (.cells #[.int .i64 0, .int .i64 0, .slice none 0 0, .slice none 0 0, .bool false, .slice none 0 0] 30))))
      (try replace Q1 := dHide ((dUnhide Q1).below (ha _ (.cells #[.int .i64 0, .int .i64 0, .slice none 0 0, .slice none 0 0, .bool false, .slice none 0 0] 30))))
      (try replace Q2 := dHide ((dUnhide Q2).below (ha _ (.cells #[.int .i64 0, .int .i64 0, .slice none 0 0, .slice none 0 0, .bool false, .slice none 0 0] 30))))
      (try replace Q5 := dHide ((dUnhide Q5).below (ha _ (.cells #[.int .i64 0, .int .i64 0, .slice none 0 0, .slice none 0 0, .bool false, .slice none 0 0] 30))))
      replace hcur := hcur.alloc hcur.size (.cells #[.int .i64 0, .int .i64 0, .slice none 0 0, .slice none 0 0, .bool false, .slice none 0 0] 30)
      first | generalize w5.alloc (.cells #[.int .i64 0, .int .i64 0, .slice none 0 0, .slice none 0 0, .bool false, .slice none 0 0] 30) = wa at * | generalize wq2.alloc (.cells #[.int .i64 0, .int .i64 0, .slice none 0 0, .slice none 0 0, .bool false, .slice none 0 0] 30) = wa at * | generalize wq1.alloc (.cells #[.int .i64 0, .int .i64 0, .slice none 0 0, .slice none 0 0, .bool false, .slice none 0 0] 30) = wa at * | generalize wq0.alloc (.cells #[.int .i64 0, .int .i64 0, .slice none 0 0, .slice none 0 0, .bool false, .slice none 0 0] 30) = wa at * | generalize wd.alloc (.cells #[.int .i64 0, .int .i64 0, .slice none 0 0, .slice none 0 0, .bool false, .slice none 0 0] 30) = wa at * | fail
      refine hK.out _ _ (by first | exact dUnhide HC _ hcur | exact dUnhide HC _ hst | exact dUnhide HC _ hbr | fail) (fun hHeld => ?_)
      clear hK K
      try simp only [Act.put, List.setIfInBounds_toArray, List.set_cons_zero, List.set_cons_succ]
      refine wpAnyH_ready (rs := [1]) (by kernel_rfl) (by simp) ?_
      refine AllReadyH.cons (o := { dst := some 39, op := Op.call { callee := Callee.value (Operand.func 30), args := #[Operand.tmp 38], argTypes := #[51] }, type := 26, pos := "exact.go:3276", after := #[{ on := 0, ground := Ground.data }], guard := none }) rfl (fun K hK => ?_) AllReadyH.nil
      go_simp
      refine (toConfig_ _ m0 _ hs0 (dUnhide A0 _ (belowThen B hcur))).mono ?_
      rintro e wq0 ⟨o0, rfl, q0, b0⟩
      replace hcur := belowThen hcur b0
      (try replace zz := BxZ.below zz b0)
      have Q0 := dHide q0
      obtain ⟨o0a, o0c, rfl, o0l⟩ := formConfig q0.now.rd
      clear q0 b0
      (try go_wp2_with fail)
      refine hK.out _ _ (by first | exact dUnhide HC _ hcur | exact dUnhide HC _ hst | exact dUnhide HC _ hbr | fail) (fun hHeld => ?_)
      clear hK K
      try simp only [Act.put, List.setIfInBounds_toArray, List.set_cons_zero, List.set_cons_succ]
      refine wpAnyH_ready (rs := [3]) (by kernel_rfl) (by simp) ?_
      refine AllReadyH.cons (o := { dst := some 41, op := Op.call { callee := Callee.value (Operand.func 31), args := #[Operand.tmp 40], argTypes := #[54] }, type := 30, pos := "exact.go:3276", after := #[{ on := 2, ground := Ground.data }, { on := 1, ground := Ground.chain }], guard := none }) rfl (fun K hK => ?_) AllReadyH.nil
      go_simp
      refine (toMend_ _ m1 _ hs1 (dUnhide A1 _ (belowThen B hcur))).mono ?_
      rintro e wq1 ⟨o1, rfl, q1, b1⟩
      replace hcur := belowThen hcur b1
      (try replace zz := BxZ.below zz b1)
      replace Q0 := dHide ((dUnhide Q0).below b1)
      have Q1 := dHide q1
      obtain ⟨o1sa, o1sc, o1ea, o1ec, o1wa, o1wc, rfl, o1l1, o1l2, o1l3⟩ := formMend q1.now.rd
      clear q1 b1
      (try go_wp2_with fail)
      refine hK.out _ _ (by first | exact dUnhide HC _ hcur | exact dUnhide HC _ hst | exact dUnhide HC _ hbr | fail) (fun hHeld => ?_)
      clear hK K
      try simp only [Act.put, List.setIfInBounds_toArray, List.set_cons_zero, List.set_cons_succ]
      refine wpAnyH_ready (rs := [6]) (by kernel_rfl) (by simp) ?_
      refine AllReadyH.cons (o := { dst := some 44, op := Op.call { callee := Callee.value (Operand.func 32), args := #[Operand.tmp 43], argTypes := #[52] }, type := 27, pos := "exact.go:3276", after := #[{ on := 5, ground := Ground.data }, { on := 3, ground := Ground.chain }], guard := none }) rfl (fun K hK => ?_) AllReadyH.nil
      go_simp
      refine (toEntryS_ _ m3 _ hs3 (dUnhide A3 _ (belowThen B hcur))).mono ?_
      rintro e wq2 ⟨o2, rfl, q2, b2⟩
      replace hcur := belowThen hcur b2
      (try replace zz := BxZ.below zz b2)
      replace Q0 := dHide ((dUnhide Q0).below b2)
      replace Q1 := dHide ((dUnhide Q1).below b2)
      have Q2 := dHide q2
      obtain ⟨o2a, o2c, rfl, o2l⟩ := formEntryS q2.now.rd
      clear q2 b2
      (try go_wp2_with fail)
      refine hK.out _ _ (by first | exact dUnhide HC _ hcur | exact dUnhide HC _ hst | exact dUnhide HC _ hbr | fail) (fun hHeld => ?_)
      clear hK K
      try simp only [Act.put, List.setIfInBounds_toArray, List.set_cons_zero, List.set_cons_succ]
      refine wpAnyH_ready (rs := [7]) (by kernel_rfl) (by simp) ?_
      refine AllReadyH.cons (o := { dst := some 45, op := Op.call { callee := Callee.value (Operand.func 11), args := #[Operand.tmp 39, Operand.tmp 41, Operand.tmp 42, Operand.tmp 44], argTypes := #[26, 30, 3, 27] }, type := 33, pos := "exact.go:3276", after := #[{ on := 1, ground := Ground.data }, { on := 3, ground := Ground.data }, { on := 4, ground := Ground.data }, { on := 6, ground := Ground.data }, { on := 6, ground := Ground.chain }], guard := none }) rfl (fun K hK => ?_) AllReadyH.nil
      go_simp
      (try have hlo := BxZ.lt zz)
      have hcz := hcur.size
      refine (dUnhide CP _ _ _ _ (dUnhide Q0).now.rd (dUnhide Q1).now.rd (dUnhide Q2).now.rd).mono ?_
      rintro e w5 ⟨u5, rfl, q5, b5⟩
      replace hcur := belowThen hcur b5
      (try replace zz := BxZ.below zz b5)
      have Q5 := dHide q5
      obtain ⟨o5sa, o5sc, o5ea, o5ec, o5wa, o5wc, rfl, o5l1, o5l2, o5l3⟩ := formMend q5.now.rd
      clear q5 b5 Q0 Q1 Q2
      (try go_wp2_with fail)
      refine hK.out _ _ (by first | exact dUnhide HC _ hcur | exact dUnhide HC _ hst | exact dUnhide HC _ hbr | fail) (fun hHeld => ?_)
      clear hK K
      try simp only [Act.put, List.setIfInBounds_toArray, List.set_cons_zero, List.set_cons_succ]
      refine wpAnyH_take (i := 8) (oi := { dst := some 37, op := Op.move (Operand.tmp 45), type := 33, pos := "exact.go:3276", after := #[{ on := 7, ground := Ground.data }], guard := none }) (v := ?_) rfl (by kernel_rfl) (by kernel_rfl) (by kernel_rfl) (fun _ _ _ h => h) (Or.inl ⟨by rfl, ?_⟩) (by assumption) ?_
      rotate_left 1
      · intro w hSw
        (try dsimp only at hSw)
        first | (go_simp; done) | (go_simp; with_reducible rfl)
      try simp only [Act.put, List.setIfInBounds_toArray, List.set_cons_zero, List.set_cons_succ]
      refine wpAnyH_take (i := 9) (oi := { dst := some 46, op := Op.extract (Operand.tmp 37) 0, type := 30, pos := "exact.go:3276", after := #[{ on := 8, ground := Ground.data }], guard := none }) (v := ?_) rfl (by kernel_rfl) (by kernel_rfl) (by kernel_rfl) (fun _ _ _ h => h) (Or.inl ⟨by rfl, ?_⟩) (by assumption) ?_
      rotate_left 1
      · intro w hSw
        (try dsimp only at hSw)
        first | (go_simp; done) | (go_simp; with_reducible rfl)
      try simp only [Act.put, List.setIfInBounds_toArray, List.set_cons_zero, List.set_cons_succ]
      refine wpAnyH_take (i := 10) (oi := { dst := some 47, op := Op.extract (Operand.tmp 37) 1, type := 4, pos := "exact.go:3276", after := #[{ on := 8, ground := Ground.data }, { on := 12, ground := Ground.gcOnly Departure.lateStores }], guard := none }) (v := ?_) rfl (by kernel_rfl) (by kernel_rfl) (by kernel_rfl) (fun _ _ _ h => h) (Or.inl ⟨by rfl, ?_⟩) (by assumption) ?_
      rotate_left 1
      · intro w hSw
        (try dsimp only at hSw)
        first | (go_simp; done) | (go_simp; with_reducible rfl)
      try simp only [Act.put, List.setIfInBounds_toArray, List.set_cons_zero, List.set_cons_succ]
      refine wpAnyH_ready (rs := [12]) (by kernel_rfl) (by simp) ?_
      refine AllReadyH.cons (o := { dst := none, op := Op.store 30 (Operand.tmp 10) (Operand.tmp 46), type := 0, pos := "exact.go:3276", after := #[{ on := 11, ground := Ground.data }, { on := 9, ground := Ground.data }, { on := 7, ground := Ground.chain }, { on := 0, ground := Ground.phase }, { on := 1, ground := Ground.phase }, { on := 2, ground := Ground.phase }, { on := 3, ground := Ground.phase }, { on := 4, ground := Ground.phase }, { on := 5, ground := Ground.phase }, { on := 6, ground := Ground.phase }, { on := 7, ground := Ground.phase }, { on := 8, ground := Ground.phase }, { on := 9, ground := Ground.phase }, { on := 10, ground := Ground.textOnly Departure.lateStores }, { on := 11, ground := Ground.phase }], guard := none }) rfl (fun K hK => ?_) AllReadyH.nil
      obtain ⟨z0, y0⟩ := zz.2 0 _ rfl
      obtain ⟨z1, y1⟩ := zz.2 1 _ rfl
      obtain ⟨z2, y2⟩ := zz.2 2 _ rfl
      obtain ⟨z3, y3⟩ := zz.2 3 _ rfl
      obtain ⟨z4, y4⟩ := zz.2 4 _ rfl
      obtain ⟨z5, y5⟩ := zz.2 5 _ rfl
      go_simp
      have hst := below_six hcur zz.1 (.int .i64 R.bye) (.int .i64 R.epoch) (.slice o5sa R.sealed.length o5sc) (.slice o5ea R.seen.length o5ec) (.bool R.planned) (.slice o5wa R.wrote.length o5wc)
      clear hcur z0 y0 z1 y1 z2 y2 z3 y3 z4 y4 z5 y5
      refine hK.out _ _ (by first | exact dUnhide HC _ hcur | exact dUnhide HC _ hst | exact dUnhide HC _ hbr | fail) (fun hHeld => ?_)
      clear hK K
      try simp only [Act.put, List.setIfInBounds_toArray, List.set_cons_zero, List.set_cons_succ]
      refine wpAnyH_take (i := 13) (oi := { dst := some 11, op := Op.assign (Operand.tmp 47), type := 4, pos := "exact.go:3276", after := #[{ on := 10, ground := Ground.data }, { on := 12, ground := Ground.chain }, { on := 0, ground := Ground.phase }, { on := 1, ground := Ground.phase }, { on := 2, ground := Ground.phase }, { on := 3, ground := Ground.phase }, { on := 4, ground := Ground.phase }, { on := 5, ground := Ground.phase }, { on := 6, ground := Ground.phase }, { on := 7, ground := Ground.phase }, { on := 8, ground := Ground.phase }, { on := 9, ground := Ground.phase }, { on := 10, ground := Ground.phase }, { on := 11, ground := Ground.phase }, { on := 12, ground := Ground.phase }], guard := none }) (v := ?_) rfl (by kernel_rfl) (by kernel_rfl) (by kernel_rfl) (fun _ _ _ h => h) (Or.inl ⟨by rfl, ?_⟩) (by assumption) ?_
      rotate_left 1
      · intro w hSw
        (try dsimp only at hSw)
        first | (go_simp; done) | (go_simp; with_reducible rfl)
      try simp only [Act.put, List.setIfInBounds_toArray, List.set_cons_zero, List.set_cons_succ]
      refine wpAnyH_done (by kernel_rfl) ?_ _
      refine NoPanic.normal ?_
      go_wp2_with fail
      go_meet
      case rel => first | exact ⟨_, _, _, _, _, _, _, _, _, rfl, rfl, ((((((zz.put 0 (.int .i64 R.bye)).put 1 (.int .i64 R.epoch)).put 2 (.slice o5sa R.sealed.length o5sc)).put 3 (.slice o5ea R.seen.length o5ec)).put 4 (.bool R.planned)).put 5 (.slice o5wa R.wrote.length o5wc)).bx.sits, ((((((dUnhide Q5).setFar (.inl hlo) (.int .i64 R.bye)).setFar (.inl hlo) (.int .i64 R.epoch)).setFar (.inl hlo) (.slice o5sa R.sealed.length o5sc)).setFar (.inl hlo) (.slice o5ea R.seen.length o5ec)).setFar (.inl hlo) (.bool R.planned)).setFar (.inl hlo) (.slice o5wa R.wrote.length o5wc), (.inl hlo), zz.1, hcz, hst⟩ | exact ⟨_, _, _, _, _, _, _, _, _, rfl, rfl, ((((((zz.put 0 (.int .i64 R.bye)).put 1 (.int .i64 R.epoch)).put 2 (.slice o5sa R.sealed.length o5sc)).put 3 (.slice o5ea R.seen.length o5ec)).put 4 (.bool R.planned)).put 5 (.slice o5wa R.wrote.length o5wc)).bx.sits, ((((((dUnhide Q5).setFar (.inr (Nat.le_refl _)) (.int .i64 R.bye)).setFar (.inr (Nat.le_refl _)) (.int .i64 R.epoch)).setFar (.inr (Nat.le_refl _)) (.slice o5sa R.sealed.length o5sc)).setFar (.inr (Nat.le_refl _)) (.slice o5ea R.seen.length o5ec)).setFar (.inr (Nat.le_refl _)) (.bool R.planned)).setFar (.inr (Nat.le_refl _)) (.slice o5wa R.wrote.length o5wc), (.inr (Nat.le_refl _)), zz.1, hcz, hst⟩
  case rest =>
    obtain ⟨bX11, lod10, hid10, uwsa, uwsc, uwea, uwec, uwwa, uwwc, rfl, rfl, X11, OW, dd10, gd10, id10, bc⟩ := hcut
    clear kd100 kd101 kd102 kd103 kd104 kd105 kd106 kd107 HC hbr
    have sz12 := dHide bc.size
    replace X0 := dHide ((dUnhide X0).below bc)
    replace X1 := dHide ((dUnhide X1).below bc)
    replace B := belowThen B bc
    have sz13 := dHide dd10
    have sz14 := dHide gd10
    have sz15 := dHide id10
    have sz16 := dHide X11.fit
    have sz17 := dHide OW.fit
    replace X11 := dHide X11
    replace OW := dHide OW
    clear bc dd10 gd10 id10
    generalize wc = w3 at *
    clear CP
    have k18 := (dUnhide X0).now 0 _ rfl
    have k19 := (dUnhide X0).now 1 _ rfl
    go_wp2_with fail
    refine (toConfig_ _ m0 _ hs0 (dUnhide A0 _ B)).mono ?_
    rintro e w22 ⟨u21, rfl, T20, b23⟩
    clear k18 k19
    have sz24 := dHide b23.size
    replace X0 := dHide ((dUnhide X0).below b23)
    replace X1 := dHide ((dUnhide X1).below b23)
    replace X11 := dHide ((dUnhide X11).below b23)
    replace OW := dHide ((dUnhide OW).below b23)
    replace B := belowThen B b23
    replace T20 := dHide T20
    clear b23
    obtain ⟨u21a, u21c, rfl, u21l⟩ := formConfig (dUnhide T20).now.rd
    have X25 := Sits.box w22 #[.slice u21a m0.1.length u21c, .int .i64 m0.2] 26
    have ba := ha w22 (.cells #[.slice u21a m0.1.length u21c, .int .i64 m0.2] 26)
    have sz27 := dHide ba.size
    replace X0 := dHide ((dUnhide X0).below ba)
    replace X1 := dHide ((dUnhide X1).below ba)
    replace X11 := dHide ((dUnhide X11).below ba)
    replace OW := dHide ((dUnhide OW).below ba)
    replace T20 := dHide ((dUnhide T20).below ba)
    replace B := belowThen B ba
    have sz28 : Hid (w22.heap.size + 1 = (w22.alloc (.cells #[.slice u21a m0.1.length u21c, .int .i64 m0.2] 26)).heap.size) := by simp [Hid]
    replace X25 := dHide X25
    clear ba
    have k29 := (dUnhide X1).now 0 _ rfl
    have k30 := (dUnhide X1).now 1 _ rfl
    have k31 := (dUnhide X1).now 2 _ rfl
    have k32 := (dUnhide X1).now 3 _ rfl
    have k33 := (dUnhide X1).now 4 _ rfl
    have k34 := (dUnhide X1).now 5 _ rfl
    go_wp2_with fail
    generalize hbx26 : w22.heap.size = bx26 at *
    generalize w22.alloc (.cells #[.slice u21a m0.1.length u21c, .int .i64 m0.2] 26) = w35 at *
    have sz36 := dHide hbx26
    clear hbx26
    have k37 := (dUnhide X1).now 0 _ rfl
    have k38 := (dUnhide X1).now 1 _ rfl
    have k39 := (dUnhide X1).now 2 _ rfl
    have k40 := (dUnhide X1).now 3 _ rfl
    have k41 := (dUnhide X1).now 4 _ rfl
    have k42 := (dUnhide X1).now 5 _ rfl
    refine (toMend_ _ m1 _ hs1 (dUnhide A1 _ B)).mono ?_
    rintro e w45 ⟨u44, rfl, T43, b46⟩
    clear k37 k38 k39 k40 k41 k42
    clear k29 k30 k31 k32 k33 k34
    have sz47 := dHide b46.size
    replace X0 := dHide ((dUnhide X0).below b46)
    replace X1 := dHide ((dUnhide X1).below b46)
    replace X11 := dHide ((dUnhide X11).below b46)
    replace OW := dHide ((dUnhide OW).below b46)
    replace T20 := dHide ((dUnhide T20).below b46)
    replace X25 := dHide ((dUnhide X25).below b46)
    replace B := belowThen B b46
    replace T43 := dHide T43
    clear b46
    obtain ⟨u44sa, u44sc, u44ea, u44ec, u44wa, u44wc, rfl, u44l1, u44l2, u44l3⟩ := formMend (dUnhide T43).now.rd
    have X48 := Sits.box w45 #[.int .i64 m1.bye, .int .i64 m1.epoch, .slice u44sa m1.sealed.length u44sc, .slice u44ea m1.seen.length u44ec, .bool m1.planned, .slice u44wa m1.wrote.length u44wc] 30
    have ba := ha w45 (.cells #[.int .i64 m1.bye, .int .i64 m1.epoch, .slice u44sa m1.sealed.length u44sc, .slice u44ea m1.seen.length u44ec, .bool m1.planned, .slice u44wa m1.wrote.length u44wc] 30)
    have sz50 := dHide ba.size
    replace X0 := dHide ((dUnhide X0).below ba)
    replace X1 := dHide ((dUnhide X1).below ba)
    replace X11 := dHide ((dUnhide X11).below ba)
    replace OW := dHide ((dUnhide OW).below ba)
    replace T20 := dHide ((dUnhide T20).below ba)
    replace X25 := dHide ((dUnhide X25).below ba)
    replace T43 := dHide ((dUnhide T43).below ba)
    replace B := belowThen B ba
    have sz51 : Hid (w45.heap.size + 1 = (w45.alloc (.cells #[.int .i64 m1.bye, .int .i64 m1.epoch, .slice u44sa m1.sealed.length u44sc, .slice u44ea m1.seen.length u44ec, .bool m1.planned, .slice u44wa m1.wrote.length u44wc] 30)).heap.size) := by simp [Hid]
    replace X48 := dHide X48
    clear ba
    have k52 := (dUnhide X25).now 0 _ rfl
    have k53 := (dUnhide X25).now 1 _ rfl
    go_wp2_with fail
    generalize hbx49 : w45.heap.size = bx49 at *
    generalize w45.alloc (.cells #[.int .i64 m1.bye, .int .i64 m1.epoch, .slice u44sa m1.sealed.length u44sc, .slice u44ea m1.seen.length u44ec, .bool m1.planned, .slice u44wa m1.wrote.length u44wc] 30) = w54 at *
    have sz55 := dHide hbx49
    clear hbx49
    refine (toEntryS_ _ m3 _ hs3 (dUnhide A3 _ B)).mono ?_
    rintro e w58 ⟨u57, rfl, T56, b59⟩
    clear k52 k53
    have sz60 := dHide b59.size
    replace X0 := dHide ((dUnhide X0).below b59)
    replace X1 := dHide ((dUnhide X1).below b59)
    replace X11 := dHide ((dUnhide X11).below b59)
    replace OW := dHide ((dUnhide OW).below b59)
    replace T20 := dHide ((dUnhide T20).below b59)
    replace X25 := dHide ((dUnhide X25).below b59)
    replace T43 := dHide ((dUnhide T43).below b59)
    replace X48 := dHide ((dUnhide X48).below b59)
    replace B := belowThen B b59
    replace T56 := dHide T56
    clear b59
    obtain ⟨u57a, u57c, rfl, u57l⟩ := formEntryS (dUnhide T56).now.rd
    have k61 := (dUnhide X25).now 0 _ rfl
    have k62 := (dUnhide X25).now 1 _ rfl
    have k63 := (dUnhide X48).now 0 _ rfl
    have k64 := (dUnhide X48).now 1 _ rfl
    have k65 := (dUnhide X48).now 2 _ rfl
    have k66 := (dUnhide X48).now 3 _ rfl
    have k67 := (dUnhide X48).now 4 _ rfl
    have k68 := (dUnhide X48).now 5 _ rfl
    go_wp2_with fail
    refine (dUnhide CI _ _ _ _ (dUnhide T20).now.rd (dUnhide T43).now.rd (dUnhide T56).now.rd).mono ?_
    rintro e w69 ⟨ug, rfl, OG, b70⟩
    clear k61 k62 k63 k64 k65 k66 k67 k68
    have sz71 := dHide b70.size
    replace X0 := dHide ((dUnhide X0).below b70)
    replace X1 := dHide ((dUnhide X1).below b70)
    replace X11 := dHide ((dUnhide X11).below b70)
    replace OW := dHide ((dUnhide OW).below b70)
    replace T20 := dHide ((dUnhide T20).below b70)
    replace X25 := dHide ((dUnhide X25).below b70)
    replace T43 := dHide ((dUnhide T43).below b70)
    replace X48 := dHide ((dUnhide X48).below b70)
    replace T56 := dHide ((dUnhide T56).below b70)
    replace B := belowThen B b70
    replace OG := dHide OG
    clear b70
    obtain ⟨ugsa, ugsc, ugea, ugec, ugwa, ugwc, rfl, ugl1, ugl2, ugl3⟩ := formMend (dUnhide OG).now.rd
    have X72 := Sits.box w69 #[.int .i64 R.bye, .int .i64 R.epoch, .slice ugsa R.sealed.length ugsc, .slice ugea R.seen.length ugec, .bool R.planned, .slice ugwa R.wrote.length ugwc] 30
    have ba := ha w69 (.cells #[.int .i64 R.bye, .int .i64 R.epoch, .slice ugsa R.sealed.length ugsc, .slice ugea R.seen.length ugec, .bool R.planned, .slice ugwa R.wrote.length ugwc] 30)
    have sz74 := dHide ba.size
    replace X0 := dHide ((dUnhide X0).below ba)
    replace X1 := dHide ((dUnhide X1).below ba)
    replace X11 := dHide ((dUnhide X11).below ba)
    replace OW := dHide ((dUnhide OW).below ba)
    replace T20 := dHide ((dUnhide T20).below ba)
    replace X25 := dHide ((dUnhide X25).below ba)
    replace T43 := dHide ((dUnhide T43).below ba)
    replace X48 := dHide ((dUnhide X48).below ba)
    replace T56 := dHide ((dUnhide T56).below ba)
    replace OG := dHide ((dUnhide OG).below ba)
    replace B := belowThen B ba
    have sz75 : Hid (w69.heap.size + 1 = (w69.alloc (.cells #[.int .i64 R.bye, .int .i64 R.epoch, .slice ugsa R.sealed.length ugsc, .slice ugea R.seen.length ugec, .bool R.planned, .slice ugwa R.wrote.length ugwc] 30)).heap.size) := by simp [Hid]
    replace X72 := dHide X72
    clear ba
    have k76 := (dUnhide X72).now 0 _ rfl
    have k77 := (dUnhide X72).now 1 _ rfl
    have k78 := (dUnhide X72).now 2 _ rfl
    have k79 := (dUnhide X72).now 3 _ rfl
    have k80 := (dUnhide X72).now 4 _ rfl
    have k81 := (dUnhide X72).now 5 _ rfl
    have k82 := (dUnhide X11).now 0 _ rfl
    have k83 := (dUnhide X11).now 1 _ rfl
    have k84 := (dUnhide X11).now 2 _ rfl
    have k85 := (dUnhide X11).now 3 _ rfl
    have k86 := (dUnhide X11).now 4 _ rfl
    have k87 := (dUnhide X11).now 5 _ rfl
    go_wp2_with fail
    generalize hbx73 : w69.heap.size = bx73 at *
    generalize w69.alloc (.cells #[.int .i64 R.bye, .int .i64 R.epoch, .slice ugsa R.sealed.length ugsc, .slice ugea R.seen.length ugec, .bool R.planned, .slice ugwa R.wrote.length ugwc] 30) = w88 at *
    have sz89 := dHide hbx73
    clear hbx73
    refine (eqMend_ _ _ _ _ (dUnhide OG).now.rd (dUnhide OW).now.rd).mono ?_
    rintro e w90 ⟨rfl, b91⟩
    clear k76 k77 k78 k79 k80 k81 k82 k83 k84 k85 k86 k87
    have sz92 := dHide b91.size
    replace X0 := dHide ((dUnhide X0).below b91)
    replace X1 := dHide ((dUnhide X1).below b91)
    replace X11 := dHide ((dUnhide X11).below b91)
    replace OW := dHide ((dUnhide OW).below b91)
    replace T20 := dHide ((dUnhide T20).below b91)
    replace X25 := dHide ((dUnhide X25).below b91)
    replace T43 := dHide ((dUnhide T43).below b91)
    replace X48 := dHide ((dUnhide X48).below b91)
    replace T56 := dHide ((dUnhide T56).below b91)
    replace OG := dHide ((dUnhide OG).below b91)
    replace X72 := dHide ((dUnhide X72).below b91)
    replace B := belowThen B b91
    clear b91
    have k93 := (dUnhide X25).now 0 _ rfl
    have k94 := (dUnhide X25).now 1 _ rfl
    have k95 := (dUnhide X0).now 0 _ rfl
    have k96 := (dUnhide X0).now 1 _ rfl
    have hbr := Below.refl w90.heap.size w90
    go_wp2_with fail
    go_cut [75] (fun sv wx => sv = .bool false ∧ Below w90.heap.size w90 wx)
    case first =>
      go_region_held3 (fun W => W.cell? ⟨bx26, 0, none⟩ = some (.slice u21a m0.1.length u21c) ∧ W.cell? ⟨bx26, 1, none⟩ = some (.int .i64 m0.2) ∧ W.cell? ⟨w.heap.size, 0, none⟩ = some (.slice v0a m0.1.length v0c) ∧ W.cell? ⟨w.heap.size, 1, none⟩ = some (.int .i64 m0.2)) (go_keep)
        (first
          | (go_at_call 30; refine (toConfig_ _ m0 _ hs0 (dUnhide A0 _ (belowThen B hbr.drew))).mono ?_; rintro e w8 ⟨o8, rfl, q8, b8⟩; have hb8 := belowThen hbr.drew b8; have k97 := ((dUnhide X25).at hb8) 0 _ rfl; have k98 := ((dUnhide X25).at hb8) 1 _ rfl; have k99 := ((dUnhide X0).at hb8) 0 _ rfl; have k100 := ((dUnhide X0).at hb8) 1 _ rfl; have Q8 := dHide q8; obtain ⟨o8a, o8c, rfl, o8l⟩ := formConfig q8.now.rd; clear q8)
          | (go_at_call 34; refine (eqConfig_ _ _ _ _ ((dUnhide T20).at hb8).rd (dUnhide Q8).now.rd).mono ?_; rintro e w9 ⟨rfl, b9⟩; have hb9 := belowThen hb8 b9; have k101 := ((dUnhide X25).at hb9) 0 _ rfl; have k102 := ((dUnhide X25).at hb9) 1 _ rfl; have k103 := ((dUnhide X0).at hb9) 0 _ rfl; have k104 := ((dUnhide X0).at hb9) 1 _ rfl))
      all_goals
        go_wp2_with fail
        go_meet
        case rel => exact ⟨rfl, hb9⟩
    case rest =>
      obtain ⟨rfl, bc⟩ := hcut
      clear hbr
      clear k93 k94 k95 k96
      have sz105 := dHide bc.size
      replace X0 := dHide ((dUnhide X0).below bc)
      replace X1 := dHide ((dUnhide X1).below bc)
      replace X11 := dHide ((dUnhide X11).below bc)
      replace OW := dHide ((dUnhide OW).below bc)
      replace T20 := dHide ((dUnhide T20).below bc)
      replace X25 := dHide ((dUnhide X25).below bc)
      replace T43 := dHide ((dUnhide T43).below bc)
      replace X48 := dHide ((dUnhide X48).below bc)
      replace T56 := dHide ((dUnhide T56).below bc)
      replace OG := dHide ((dUnhide OG).below bc)
      replace X72 := dHide ((dUnhide X72).below bc)
      replace B := belowThen B bc
      generalize wc = w106 at *
      clear bc
      have k107 := (dUnhide X48).now 0 _ rfl
      have k108 := (dUnhide X48).now 1 _ rfl
      have k109 := (dUnhide X48).now 2 _ rfl
      have k110 := (dUnhide X48).now 3 _ rfl
      have k111 := (dUnhide X48).now 4 _ rfl
      have k112 := (dUnhide X48).now 5 _ rfl
      have k113 := (dUnhide X1).now 0 _ rfl
      have k114 := (dUnhide X1).now 1 _ rfl
      have k115 := (dUnhide X1).now 2 _ rfl
      have k116 := (dUnhide X1).now 3 _ rfl
      have k117 := (dUnhide X1).now 4 _ rfl
      have k118 := (dUnhide X1).now 5 _ rfl
      have hbr := Below.refl w106.heap.size w106
      go_wp2_with fail
      go_cut [80] (fun sv wx => sv = .bool false ∧ Below w106.heap.size w106 wx)
      case first =>
        go_region_held3 (fun W => W.cell? ⟨bx49, 0, none⟩ = some (.int .i64 m1.bye) ∧ W.cell? ⟨bx49, 1, none⟩ = some (.int .i64 m1.epoch) ∧ W.cell? ⟨bx49, 2, none⟩ = some (.slice u44sa m1.sealed.length u44sc) ∧ W.cell? ⟨bx49, 3, none⟩ = some (.slice u44ea m1.seen.length u44ec) ∧ W.cell? ⟨bx49, 4, none⟩ = some (.bool m1.planned) ∧ W.cell? ⟨bx49, 5, none⟩ = some (.slice u44wa m1.wrote.length u44wc) ∧ W.cell? ⟨w.heap.size + 1, 0, none⟩ = some (.int .i64 m1.bye) ∧ W.cell? ⟨w.heap.size + 1, 1, none⟩ = some (.int .i64 m1.epoch) ∧ W.cell? ⟨w.heap.size + 1, 2, none⟩ = some (.slice v1sa m1.sealed.length v1sc) ∧ W.cell? ⟨w.heap.size + 1, 3, none⟩ = some (.slice v1ea m1.seen.length v1ec) ∧ W.cell? ⟨w.heap.size + 1, 4, none⟩ = some (.bool m1.planned) ∧ W.cell? ⟨w.heap.size + 1, 5, none⟩ = some (.slice v1wa m1.wrote.length v1wc)) (go_keep)
          (first
            | (go_at_call 31; refine (toMend_ _ m1 _ hs1 (dUnhide A1 _ (belowThen B hbr.drew))).mono ?_; rintro e w8 ⟨o8, rfl, q8, b8⟩; have hb8 := belowThen hbr.drew b8; have k119 := ((dUnhide X48).at hb8) 0 _ rfl; have k120 := ((dUnhide X48).at hb8) 1 _ rfl; have k121 := ((dUnhide X48).at hb8) 2 _ rfl; have k122 := ((dUnhide X48).at hb8) 3 _ rfl; have k123 := ((dUnhide X48).at hb8) 4 _ rfl; have k124 := ((dUnhide X48).at hb8) 5 _ rfl; have k125 := ((dUnhide X1).at hb8) 0 _ rfl; have k126 := ((dUnhide X1).at hb8) 1 _ rfl; have k127 := ((dUnhide X1).at hb8) 2 _ rfl; have k128 := ((dUnhide X1).at hb8) 3 _ rfl; have k129 := ((dUnhide X1).at hb8) 4 _ rfl; have k130 := ((dUnhide X1).at hb8) 5 _ rfl; have Q8 := dHide q8; obtain ⟨o8sa, o8sc, o8ea, o8ec, o8wa, o8wc, rfl, o8l1, o8l2, o8l3⟩ := formMend q8.now.rd; clear q8)
            | (go_at_call 33; refine (eqMend_ _ _ _ _ ((dUnhide T43).at hb8).rd (dUnhide Q8).now.rd).mono ?_; rintro e w9 ⟨rfl, b9⟩; have hb9 := belowThen hb8 b9; have k131 := ((dUnhide X48).at hb9) 0 _ rfl; have k132 := ((dUnhide X48).at hb9) 1 _ rfl; have k133 := ((dUnhide X48).at hb9) 2 _ rfl; have k134 := ((dUnhide X48).at hb9) 3 _ rfl; have k135 := ((dUnhide X48).at hb9) 4 _ rfl; have k136 := ((dUnhide X48).at hb9) 5 _ rfl; have k137 := ((dUnhide X1).at hb9) 0 _ rfl; have k138 := ((dUnhide X1).at hb9) 1 _ rfl; have k139 := ((dUnhide X1).at hb9) 2 _ rfl; have k140 := ((dUnhide X1).at hb9) 3 _ rfl; have k141 := ((dUnhide X1).at hb9) 4 _ rfl; have k142 := ((dUnhide X1).at hb9) 5 _ rfl))
        all_goals
          go_wp2_with fail
          go_meet
          case rel => exact ⟨rfl, hb9⟩
      case rest =>
        obtain ⟨rfl, bc⟩ := hcut
        clear hbr
        clear k107 k108 k109 k110 k111 k112 k113 k114 k115 k116 k117 k118
        have sz143 := dHide bc.size
        replace X0 := dHide ((dUnhide X0).below bc)
        replace X1 := dHide ((dUnhide X1).below bc)
        replace X11 := dHide ((dUnhide X11).below bc)
        replace OW := dHide ((dUnhide OW).below bc)
        replace T20 := dHide ((dUnhide T20).below bc)
        replace X25 := dHide ((dUnhide X25).below bc)
        replace T43 := dHide ((dUnhide T43).below bc)
        replace X48 := dHide ((dUnhide X48).below bc)
        replace T56 := dHide ((dUnhide T56).below bc)
        replace OG := dHide ((dUnhide OG).below bc)
        replace X72 := dHide ((dUnhide X72).below bc)
        replace B := belowThen B bc
        generalize wc = w144 at *
        clear bc
        go_wp2_with fail
        refine (toEntryS_ _ m3 _ hs3 (dUnhide A3 _ B)).mono ?_
        rintro e w147 ⟨u146, rfl, T145, b148⟩
        have sz149 := dHide b148.size
        replace X0 := dHide ((dUnhide X0).below b148)
        replace X1 := dHide ((dUnhide X1).below b148)
        replace X11 := dHide ((dUnhide X11).below b148)
        replace OW := dHide ((dUnhide OW).below b148)
        replace T20 := dHide ((dUnhide T20).below b148)
        replace X25 := dHide ((dUnhide X25).below b148)
        replace T43 := dHide ((dUnhide T43).below b148)
        replace X48 := dHide ((dUnhide X48).below b148)
        replace T56 := dHide ((dUnhide T56).below b148)
        replace OG := dHide ((dUnhide OG).below b148)
        replace X72 := dHide ((dUnhide X72).below b148)
        replace B := belowThen B b148
        replace T145 := dHide T145
        clear b148
        obtain ⟨u146a, u146c, rfl, u146l⟩ := formEntryS (dUnhide T145).now.rd
        go_wp2_with fail
        refine (eqEntryS_ _ _ _ _ (dUnhide T56).now.rd (dUnhide T145).now.rd).mono ?_
        rintro e w150 ⟨rfl, b151⟩
        clear T145
        have sz152 := dHide b151.size
        replace X0 := dHide ((dUnhide X0).below b151)
        replace X1 := dHide ((dUnhide X1).below b151)
        replace X11 := dHide ((dUnhide X11).below b151)
        replace OW := dHide ((dUnhide OW).below b151)
        replace T20 := dHide ((dUnhide T20).below b151)
        replace X25 := dHide ((dUnhide X25).below b151)
        replace T43 := dHide ((dUnhide T43).below b151)
        replace X48 := dHide ((dUnhide X48).below b151)
        replace T56 := dHide ((dUnhide T56).below b151)
        replace OG := dHide ((dUnhide OG).below b151)
        replace X72 := dHide ((dUnhide X72).below b151)
        replace B := belowThen B b151
        clear b151
        have k153 := (dUnhide X25).now 0 _ rfl
        have k154 := (dUnhide X25).now 1 _ rfl
        go_wp2_with fail
        refine (markConfig_ _ _ _ _ 1 _ (by omega) (by omega) (dUnhide T20)).mono ?_
        rintro e w155 ⟨rfl, M157, b156⟩
        clear k153 k154
        replace X0 := dHide ((dUnhide X0).wr b156 (by have := dUnhide sz0; have := dUnhide sz1; have := dUnhide sz8; have := dUnhide sz9; have := dUnhide sz12; have := dUnhide sz13; have := dUnhide sz14; have := dUnhide sz15; have := dUnhide sz16; have := dUnhide sz17; have := dUnhide sz24; have := dUnhide sz27; have := dUnhide sz28; have := dUnhide sz36; have := dUnhide sz47; have := dUnhide sz50; have := dUnhide sz51; have := dUnhide sz55; have := dUnhide sz60; have := dUnhide sz71; have := dUnhide sz74; have := dUnhide sz75; have := dUnhide sz89; have := dUnhide sz92; have := dUnhide sz105; have := dUnhide sz143; have := dUnhide sz149; have := dUnhide sz152; omega))
        replace X1 := dHide ((dUnhide X1).wr b156 (by have := dUnhide sz0; have := dUnhide sz1; have := dUnhide sz8; have := dUnhide sz9; have := dUnhide sz12; have := dUnhide sz13; have := dUnhide sz14; have := dUnhide sz15; have := dUnhide sz16; have := dUnhide sz17; have := dUnhide sz24; have := dUnhide sz27; have := dUnhide sz28; have := dUnhide sz36; have := dUnhide sz47; have := dUnhide sz50; have := dUnhide sz51; have := dUnhide sz55; have := dUnhide sz60; have := dUnhide sz71; have := dUnhide sz74; have := dUnhide sz75; have := dUnhide sz89; have := dUnhide sz92; have := dUnhide sz105; have := dUnhide sz143; have := dUnhide sz149; have := dUnhide sz152; omega))
        replace X11 := dHide ((dUnhide X11).wr b156 (by have := dUnhide sz0; have := dUnhide sz1; have := dUnhide sz8; have := dUnhide sz9; have := dUnhide sz12; have := dUnhide sz13; have := dUnhide sz14; have := dUnhide sz15; have := dUnhide sz16; have := dUnhide sz17; have := dUnhide sz24; have := dUnhide sz27; have := dUnhide sz28; have := dUnhide sz36; have := dUnhide sz47; have := dUnhide sz50; have := dUnhide sz51; have := dUnhide sz55; have := dUnhide sz60; have := dUnhide sz71; have := dUnhide sz74; have := dUnhide sz75; have := dUnhide sz89; have := dUnhide sz92; have := dUnhide sz105; have := dUnhide sz143; have := dUnhide sz149; have := dUnhide sz152; omega))
        replace OW := dHide ((dUnhide OW).wr b156 (by have := dUnhide sz0; have := dUnhide sz1; have := dUnhide sz8; have := dUnhide sz9; have := dUnhide sz12; have := dUnhide sz13; have := dUnhide sz14; have := dUnhide sz15; have := dUnhide sz16; have := dUnhide sz17; have := dUnhide sz24; have := dUnhide sz27; have := dUnhide sz28; have := dUnhide sz36; have := dUnhide sz47; have := dUnhide sz50; have := dUnhide sz51; have := dUnhide sz55; have := dUnhide sz60; have := dUnhide sz71; have := dUnhide sz74; have := dUnhide sz75; have := dUnhide sz89; have := dUnhide sz92; have := dUnhide sz105; have := dUnhide sz143; have := dUnhide sz149; have := dUnhide sz152; omega))
        replace X25 := dHide ((dUnhide X25).wr b156 (by have := dUnhide sz0; have := dUnhide sz1; have := dUnhide sz8; have := dUnhide sz9; have := dUnhide sz12; have := dUnhide sz13; have := dUnhide sz14; have := dUnhide sz15; have := dUnhide sz16; have := dUnhide sz17; have := dUnhide sz24; have := dUnhide sz27; have := dUnhide sz28; have := dUnhide sz36; have := dUnhide sz47; have := dUnhide sz50; have := dUnhide sz51; have := dUnhide sz55; have := dUnhide sz60; have := dUnhide sz71; have := dUnhide sz74; have := dUnhide sz75; have := dUnhide sz89; have := dUnhide sz92; have := dUnhide sz105; have := dUnhide sz143; have := dUnhide sz149; have := dUnhide sz152; omega))
        replace T43 := dHide ((dUnhide T43).wr b156 (by have := dUnhide sz0; have := dUnhide sz1; have := dUnhide sz8; have := dUnhide sz9; have := dUnhide sz12; have := dUnhide sz13; have := dUnhide sz14; have := dUnhide sz15; have := dUnhide sz16; have := dUnhide sz17; have := dUnhide sz24; have := dUnhide sz27; have := dUnhide sz28; have := dUnhide sz36; have := dUnhide sz47; have := dUnhide sz50; have := dUnhide sz51; have := dUnhide sz55; have := dUnhide sz60; have := dUnhide sz71; have := dUnhide sz74; have := dUnhide sz75; have := dUnhide sz89; have := dUnhide sz92; have := dUnhide sz105; have := dUnhide sz143; have := dUnhide sz149; have := dUnhide sz152; omega))
        replace X48 := dHide ((dUnhide X48).wr b156 (by have := dUnhide sz0; have := dUnhide sz1; have := dUnhide sz8; have := dUnhide sz9; have := dUnhide sz12; have := dUnhide sz13; have := dUnhide sz14; have := dUnhide sz15; have := dUnhide sz16; have := dUnhide sz17; have := dUnhide sz24; have := dUnhide sz27; have := dUnhide sz28; have := dUnhide sz36; have := dUnhide sz47; have := dUnhide sz50; have := dUnhide sz51; have := dUnhide sz55; have := dUnhide sz60; have := dUnhide sz71; have := dUnhide sz74; have := dUnhide sz75; have := dUnhide sz89; have := dUnhide sz92; have := dUnhide sz105; have := dUnhide sz143; have := dUnhide sz149; have := dUnhide sz152; omega))
        replace T56 := dHide ((dUnhide T56).wr b156 (by have := dUnhide sz0; have := dUnhide sz1; have := dUnhide sz8; have := dUnhide sz9; have := dUnhide sz12; have := dUnhide sz13; have := dUnhide sz14; have := dUnhide sz15; have := dUnhide sz16; have := dUnhide sz17; have := dUnhide sz24; have := dUnhide sz27; have := dUnhide sz28; have := dUnhide sz36; have := dUnhide sz47; have := dUnhide sz50; have := dUnhide sz51; have := dUnhide sz55; have := dUnhide sz60; have := dUnhide sz71; have := dUnhide sz74; have := dUnhide sz75; have := dUnhide sz89; have := dUnhide sz92; have := dUnhide sz105; have := dUnhide sz143; have := dUnhide sz149; have := dUnhide sz152; omega))
        replace OG := dHide ((dUnhide OG).wr b156 (by have := dUnhide sz0; have := dUnhide sz1; have := dUnhide sz8; have := dUnhide sz9; have := dUnhide sz12; have := dUnhide sz13; have := dUnhide sz14; have := dUnhide sz15; have := dUnhide sz16; have := dUnhide sz17; have := dUnhide sz24; have := dUnhide sz27; have := dUnhide sz28; have := dUnhide sz36; have := dUnhide sz47; have := dUnhide sz50; have := dUnhide sz51; have := dUnhide sz55; have := dUnhide sz60; have := dUnhide sz71; have := dUnhide sz74; have := dUnhide sz75; have := dUnhide sz89; have := dUnhide sz92; have := dUnhide sz105; have := dUnhide sz143; have := dUnhide sz149; have := dUnhide sz152; omega))
        replace X72 := dHide ((dUnhide X72).wr b156 (by have := dUnhide sz0; have := dUnhide sz1; have := dUnhide sz8; have := dUnhide sz9; have := dUnhide sz12; have := dUnhide sz13; have := dUnhide sz14; have := dUnhide sz15; have := dUnhide sz16; have := dUnhide sz17; have := dUnhide sz24; have := dUnhide sz27; have := dUnhide sz28; have := dUnhide sz36; have := dUnhide sz47; have := dUnhide sz50; have := dUnhide sz51; have := dUnhide sz55; have := dUnhide sz60; have := dUnhide sz71; have := dUnhide sz74; have := dUnhide sz75; have := dUnhide sz89; have := dUnhide sz92; have := dUnhide sz105; have := dUnhide sz143; have := dUnhide sz149; have := dUnhide sz152; omega))
        replace B := b156.below B B.size (by have := dUnhide sz0; have := dUnhide sz1; have := dUnhide sz8; have := dUnhide sz9; have := dUnhide sz12; have := dUnhide sz13; have := dUnhide sz14; have := dUnhide sz15; have := dUnhide sz16; have := dUnhide sz17; have := dUnhide sz24; have := dUnhide sz27; have := dUnhide sz28; have := dUnhide sz36; have := dUnhide sz47; have := dUnhide sz50; have := dUnhide sz51; have := dUnhide sz55; have := dUnhide sz60; have := dUnhide sz71; have := dUnhide sz74; have := dUnhide sz75; have := dUnhide sz89; have := dUnhide sz92; have := dUnhide sz105; have := dUnhide sz143; have := dUnhide sz149; have := dUnhide sz152; omega)
        have sz158 := dHide b156.size
        replace M157 := dHide M157
        clear b156 T20
        have k159 := (dUnhide X48).now 0 _ rfl
        have k160 := (dUnhide X48).now 1 _ rfl
        have k161 := (dUnhide X48).now 2 _ rfl
        have k162 := (dUnhide X48).now 3 _ rfl
        have k163 := (dUnhide X48).now 4 _ rfl
        have k164 := (dUnhide X48).now 5 _ rfl
        go_wp2_with fail
        refine (markMend_ _ _ _ _ (1 + cntConfig m0) _ (by omega) (by omega) (dUnhide T43)).mono ?_
        rintro e w165 ⟨rfl, M167, b166⟩
        clear k159 k160 k161 k162 k163 k164
        replace X0 := dHide ((dUnhide X0).wr b166 (by have := dUnhide sz0; have := dUnhide sz1; have := dUnhide sz8; have := dUnhide sz9; have := dUnhide sz12; have := dUnhide sz13; have := dUnhide sz14; have := dUnhide sz15; have := dUnhide sz16; have := dUnhide sz17; have := dUnhide sz24; have := dUnhide sz27; have := dUnhide sz28; have := dUnhide sz36; have := dUnhide sz47; have := dUnhide sz50; have := dUnhide sz51; have := dUnhide sz55; have := dUnhide sz60; have := dUnhide sz71; have := dUnhide sz74; have := dUnhide sz75; have := dUnhide sz89; have := dUnhide sz92; have := dUnhide sz105; have := dUnhide sz143; have := dUnhide sz149; have := dUnhide sz152; have := dUnhide sz158; omega))
        replace X1 := dHide ((dUnhide X1).wr b166 (by have := dUnhide sz0; have := dUnhide sz1; have := dUnhide sz8; have := dUnhide sz9; have := dUnhide sz12; have := dUnhide sz13; have := dUnhide sz14; have := dUnhide sz15; have := dUnhide sz16; have := dUnhide sz17; have := dUnhide sz24; have := dUnhide sz27; have := dUnhide sz28; have := dUnhide sz36; have := dUnhide sz47; have := dUnhide sz50; have := dUnhide sz51; have := dUnhide sz55; have := dUnhide sz60; have := dUnhide sz71; have := dUnhide sz74; have := dUnhide sz75; have := dUnhide sz89; have := dUnhide sz92; have := dUnhide sz105; have := dUnhide sz143; have := dUnhide sz149; have := dUnhide sz152; have := dUnhide sz158; omega))
        replace X11 := dHide ((dUnhide X11).wr b166 (by have := dUnhide sz0; have := dUnhide sz1; have := dUnhide sz8; have := dUnhide sz9; have := dUnhide sz12; have := dUnhide sz13; have := dUnhide sz14; have := dUnhide sz15; have := dUnhide sz16; have := dUnhide sz17; have := dUnhide sz24; have := dUnhide sz27; have := dUnhide sz28; have := dUnhide sz36; have := dUnhide sz47; have := dUnhide sz50; have := dUnhide sz51; have := dUnhide sz55; have := dUnhide sz60; have := dUnhide sz71; have := dUnhide sz74; have := dUnhide sz75; have := dUnhide sz89; have := dUnhide sz92; have := dUnhide sz105; have := dUnhide sz143; have := dUnhide sz149; have := dUnhide sz152; have := dUnhide sz158; omega))
        replace OW := dHide ((dUnhide OW).wr b166 (by have := dUnhide sz0; have := dUnhide sz1; have := dUnhide sz8; have := dUnhide sz9; have := dUnhide sz12; have := dUnhide sz13; have := dUnhide sz14; have := dUnhide sz15; have := dUnhide sz16; have := dUnhide sz17; have := dUnhide sz24; have := dUnhide sz27; have := dUnhide sz28; have := dUnhide sz36; have := dUnhide sz47; have := dUnhide sz50; have := dUnhide sz51; have := dUnhide sz55; have := dUnhide sz60; have := dUnhide sz71; have := dUnhide sz74; have := dUnhide sz75; have := dUnhide sz89; have := dUnhide sz92; have := dUnhide sz105; have := dUnhide sz143; have := dUnhide sz149; have := dUnhide sz152; have := dUnhide sz158; omega))
        replace X25 := dHide ((dUnhide X25).wr b166 (by have := dUnhide sz0; have := dUnhide sz1; have := dUnhide sz8; have := dUnhide sz9; have := dUnhide sz12; have := dUnhide sz13; have := dUnhide sz14; have := dUnhide sz15; have := dUnhide sz16; have := dUnhide sz17; have := dUnhide sz24; have := dUnhide sz27; have := dUnhide sz28; have := dUnhide sz36; have := dUnhide sz47; have := dUnhide sz50; have := dUnhide sz51; have := dUnhide sz55; have := dUnhide sz60; have := dUnhide sz71; have := dUnhide sz74; have := dUnhide sz75; have := dUnhide sz89; have := dUnhide sz92; have := dUnhide sz105; have := dUnhide sz143; have := dUnhide sz149; have := dUnhide sz152; have := dUnhide sz158; omega))
        replace X48 := dHide ((dUnhide X48).wr b166 (by have := dUnhide sz0; have := dUnhide sz1; have := dUnhide sz8; have := dUnhide sz9; have := dUnhide sz12; have := dUnhide sz13; have := dUnhide sz14; have := dUnhide sz15; have := dUnhide sz16; have := dUnhide sz17; have := dUnhide sz24; have := dUnhide sz27; have := dUnhide sz28; have := dUnhide sz36; have := dUnhide sz47; have := dUnhide sz50; have := dUnhide sz51; have := dUnhide sz55; have := dUnhide sz60; have := dUnhide sz71; have := dUnhide sz74; have := dUnhide sz75; have := dUnhide sz89; have := dUnhide sz92; have := dUnhide sz105; have := dUnhide sz143; have := dUnhide sz149; have := dUnhide sz152; have := dUnhide sz158; omega))
        replace T56 := dHide ((dUnhide T56).wr b166 (by have := dUnhide sz0; have := dUnhide sz1; have := dUnhide sz8; have := dUnhide sz9; have := dUnhide sz12; have := dUnhide sz13; have := dUnhide sz14; have := dUnhide sz15; have := dUnhide sz16; have := dUnhide sz17; have := dUnhide sz24; have := dUnhide sz27; have := dUnhide sz28; have := dUnhide sz36; have := dUnhide sz47; have := dUnhide sz50; have := dUnhide sz51; have := dUnhide sz55; have := dUnhide sz60; have := dUnhide sz71; have := dUnhide sz74; have := dUnhide sz75; have := dUnhide sz89; have := dUnhide sz92; have := dUnhide sz105; have := dUnhide sz143; have := dUnhide sz149; have := dUnhide sz152; have := dUnhide sz158; omega))
        replace OG := dHide ((dUnhide OG).wr b166 (by have := dUnhide sz0; have := dUnhide sz1; have := dUnhide sz8; have := dUnhide sz9; have := dUnhide sz12; have := dUnhide sz13; have := dUnhide sz14; have := dUnhide sz15; have := dUnhide sz16; have := dUnhide sz17; have := dUnhide sz24; have := dUnhide sz27; have := dUnhide sz28; have := dUnhide sz36; have := dUnhide sz47; have := dUnhide sz50; have := dUnhide sz51; have := dUnhide sz55; have := dUnhide sz60; have := dUnhide sz71; have := dUnhide sz74; have := dUnhide sz75; have := dUnhide sz89; have := dUnhide sz92; have := dUnhide sz105; have := dUnhide sz143; have := dUnhide sz149; have := dUnhide sz152; have := dUnhide sz158; omega))
        replace X72 := dHide ((dUnhide X72).wr b166 (by have := dUnhide sz0; have := dUnhide sz1; have := dUnhide sz8; have := dUnhide sz9; have := dUnhide sz12; have := dUnhide sz13; have := dUnhide sz14; have := dUnhide sz15; have := dUnhide sz16; have := dUnhide sz17; have := dUnhide sz24; have := dUnhide sz27; have := dUnhide sz28; have := dUnhide sz36; have := dUnhide sz47; have := dUnhide sz50; have := dUnhide sz51; have := dUnhide sz55; have := dUnhide sz60; have := dUnhide sz71; have := dUnhide sz74; have := dUnhide sz75; have := dUnhide sz89; have := dUnhide sz92; have := dUnhide sz105; have := dUnhide sz143; have := dUnhide sz149; have := dUnhide sz152; have := dUnhide sz158; omega))
        replace M157 := dHide ((dUnhide M157).wr b166 (by have := dUnhide sz0; have := dUnhide sz1; have := dUnhide sz8; have := dUnhide sz9; have := dUnhide sz12; have := dUnhide sz13; have := dUnhide sz14; have := dUnhide sz15; have := dUnhide sz16; have := dUnhide sz17; have := dUnhide sz24; have := dUnhide sz27; have := dUnhide sz28; have := dUnhide sz36; have := dUnhide sz47; have := dUnhide sz50; have := dUnhide sz51; have := dUnhide sz55; have := dUnhide sz60; have := dUnhide sz71; have := dUnhide sz74; have := dUnhide sz75; have := dUnhide sz89; have := dUnhide sz92; have := dUnhide sz105; have := dUnhide sz143; have := dUnhide sz149; have := dUnhide sz152; have := dUnhide sz158; omega))
        replace B := b166.below B B.size (by have := dUnhide sz0; have := dUnhide sz1; have := dUnhide sz8; have := dUnhide sz9; have := dUnhide sz12; have := dUnhide sz13; have := dUnhide sz14; have := dUnhide sz15; have := dUnhide sz16; have := dUnhide sz17; have := dUnhide sz24; have := dUnhide sz27; have := dUnhide sz28; have := dUnhide sz36; have := dUnhide sz47; have := dUnhide sz50; have := dUnhide sz51; have := dUnhide sz55; have := dUnhide sz60; have := dUnhide sz71; have := dUnhide sz74; have := dUnhide sz75; have := dUnhide sz89; have := dUnhide sz92; have := dUnhide sz105; have := dUnhide sz143; have := dUnhide sz149; have := dUnhide sz152; have := dUnhide sz158; omega)
        have sz168 := dHide b166.size
        replace M167 := dHide M167
        clear b166 T43
        go_wp2_with fail
        refine (markEntryS_ _ _ _ _ (1 + cntConfig m0 + cntMend m1) _ (by omega) (by omega) (dUnhide T56)).mono ?_
        rintro e w169 ⟨rfl, M171, b170⟩
        replace X0 := dHide ((dUnhide X0).wr b170 (by have := dUnhide sz0; have := dUnhide sz1; have := dUnhide sz8; have := dUnhide sz9; have := dUnhide sz12; have := dUnhide sz13; have := dUnhide sz14; have := dUnhide sz15; have := dUnhide sz16; have := dUnhide sz17; have := dUnhide sz24; have := dUnhide sz27; have := dUnhide sz28; have := dUnhide sz36; have := dUnhide sz47; have := dUnhide sz50; have := dUnhide sz51; have := dUnhide sz55; have := dUnhide sz60; have := dUnhide sz71; have := dUnhide sz74; have := dUnhide sz75; have := dUnhide sz89; have := dUnhide sz92; have := dUnhide sz105; have := dUnhide sz143; have := dUnhide sz149; have := dUnhide sz152; have := dUnhide sz158; have := dUnhide sz168; omega))
        replace X1 := dHide ((dUnhide X1).wr b170 (by have := dUnhide sz0; have := dUnhide sz1; have := dUnhide sz8; have := dUnhide sz9; have := dUnhide sz12; have := dUnhide sz13; have := dUnhide sz14; have := dUnhide sz15; have := dUnhide sz16; have := dUnhide sz17; have := dUnhide sz24; have := dUnhide sz27; have := dUnhide sz28; have := dUnhide sz36; have := dUnhide sz47; have := dUnhide sz50; have := dUnhide sz51; have := dUnhide sz55; have := dUnhide sz60; have := dUnhide sz71; have := dUnhide sz74; have := dUnhide sz75; have := dUnhide sz89; have := dUnhide sz92; have := dUnhide sz105; have := dUnhide sz143; have := dUnhide sz149; have := dUnhide sz152; have := dUnhide sz158; have := dUnhide sz168; omega))
        replace X11 := dHide ((dUnhide X11).wr b170 (by have := dUnhide sz0; have := dUnhide sz1; have := dUnhide sz8; have := dUnhide sz9; have := dUnhide sz12; have := dUnhide sz13; have := dUnhide sz14; have := dUnhide sz15; have := dUnhide sz16; have := dUnhide sz17; have := dUnhide sz24; have := dUnhide sz27; have := dUnhide sz28; have := dUnhide sz36; have := dUnhide sz47; have := dUnhide sz50; have := dUnhide sz51; have := dUnhide sz55; have := dUnhide sz60; have := dUnhide sz71; have := dUnhide sz74; have := dUnhide sz75; have := dUnhide sz89; have := dUnhide sz92; have := dUnhide sz105; have := dUnhide sz143; have := dUnhide sz149; have := dUnhide sz152; have := dUnhide sz158; have := dUnhide sz168; omega))
        replace OW := dHide ((dUnhide OW).wr b170 (by have := dUnhide sz0; have := dUnhide sz1; have := dUnhide sz8; have := dUnhide sz9; have := dUnhide sz12; have := dUnhide sz13; have := dUnhide sz14; have := dUnhide sz15; have := dUnhide sz16; have := dUnhide sz17; have := dUnhide sz24; have := dUnhide sz27; have := dUnhide sz28; have := dUnhide sz36; have := dUnhide sz47; have := dUnhide sz50; have := dUnhide sz51; have := dUnhide sz55; have := dUnhide sz60; have := dUnhide sz71; have := dUnhide sz74; have := dUnhide sz75; have := dUnhide sz89; have := dUnhide sz92; have := dUnhide sz105; have := dUnhide sz143; have := dUnhide sz149; have := dUnhide sz152; have := dUnhide sz158; have := dUnhide sz168; omega))
        replace X25 := dHide ((dUnhide X25).wr b170 (by have := dUnhide sz0; have := dUnhide sz1; have := dUnhide sz8; have := dUnhide sz9; have := dUnhide sz12; have := dUnhide sz13; have := dUnhide sz14; have := dUnhide sz15; have := dUnhide sz16; have := dUnhide sz17; have := dUnhide sz24; have := dUnhide sz27; have := dUnhide sz28; have := dUnhide sz36; have := dUnhide sz47; have := dUnhide sz50; have := dUnhide sz51; have := dUnhide sz55; have := dUnhide sz60; have := dUnhide sz71; have := dUnhide sz74; have := dUnhide sz75; have := dUnhide sz89; have := dUnhide sz92; have := dUnhide sz105; have := dUnhide sz143; have := dUnhide sz149; have := dUnhide sz152; have := dUnhide sz158; have := dUnhide sz168; omega))
        replace X48 := dHide ((dUnhide X48).wr b170 (by have := dUnhide sz0; have := dUnhide sz1; have := dUnhide sz8; have := dUnhide sz9; have := dUnhide sz12; have := dUnhide sz13; have := dUnhide sz14; have := dUnhide sz15; have := dUnhide sz16; have := dUnhide sz17; have := dUnhide sz24; have := dUnhide sz27; have := dUnhide sz28; have := dUnhide sz36; have := dUnhide sz47; have := dUnhide sz50; have := dUnhide sz51; have := dUnhide sz55; have := dUnhide sz60; have := dUnhide sz71; have := dUnhide sz74; have := dUnhide sz75; have := dUnhide sz89; have := dUnhide sz92; have := dUnhide sz105; have := dUnhide sz143; have := dUnhide sz149; have := dUnhide sz152; have := dUnhide sz158; have := dUnhide sz168; omega))
        replace OG := dHide ((dUnhide OG).wr b170 (by have := dUnhide sz0; have := dUnhide sz1; have := dUnhide sz8; have := dUnhide sz9; have := dUnhide sz12; have := dUnhide sz13; have := dUnhide sz14; have := dUnhide sz15; have := dUnhide sz16; have := dUnhide sz17; have := dUnhide sz24; have := dUnhide sz27; have := dUnhide sz28; have := dUnhide sz36; have := dUnhide sz47; have := dUnhide sz50; have := dUnhide sz51; have := dUnhide sz55; have := dUnhide sz60; have := dUnhide sz71; have := dUnhide sz74; have := dUnhide sz75; have := dUnhide sz89; have := dUnhide sz92; have := dUnhide sz105; have := dUnhide sz143; have := dUnhide sz149; have := dUnhide sz152; have := dUnhide sz158; have := dUnhide sz168; omega))
        replace X72 := dHide ((dUnhide X72).wr b170 (by have := dUnhide sz0; have := dUnhide sz1; have := dUnhide sz8; have := dUnhide sz9; have := dUnhide sz12; have := dUnhide sz13; have := dUnhide sz14; have := dUnhide sz15; have := dUnhide sz16; have := dUnhide sz17; have := dUnhide sz24; have := dUnhide sz27; have := dUnhide sz28; have := dUnhide sz36; have := dUnhide sz47; have := dUnhide sz50; have := dUnhide sz51; have := dUnhide sz55; have := dUnhide sz60; have := dUnhide sz71; have := dUnhide sz74; have := dUnhide sz75; have := dUnhide sz89; have := dUnhide sz92; have := dUnhide sz105; have := dUnhide sz143; have := dUnhide sz149; have := dUnhide sz152; have := dUnhide sz158; have := dUnhide sz168; omega))
        replace M157 := dHide ((dUnhide M157).wr b170 (by have := dUnhide sz0; have := dUnhide sz1; have := dUnhide sz8; have := dUnhide sz9; have := dUnhide sz12; have := dUnhide sz13; have := dUnhide sz14; have := dUnhide sz15; have := dUnhide sz16; have := dUnhide sz17; have := dUnhide sz24; have := dUnhide sz27; have := dUnhide sz28; have := dUnhide sz36; have := dUnhide sz47; have := dUnhide sz50; have := dUnhide sz51; have := dUnhide sz55; have := dUnhide sz60; have := dUnhide sz71; have := dUnhide sz74; have := dUnhide sz75; have := dUnhide sz89; have := dUnhide sz92; have := dUnhide sz105; have := dUnhide sz143; have := dUnhide sz149; have := dUnhide sz152; have := dUnhide sz158; have := dUnhide sz168; omega))
        replace M167 := dHide ((dUnhide M167).wr b170 (by have := dUnhide sz0; have := dUnhide sz1; have := dUnhide sz8; have := dUnhide sz9; have := dUnhide sz12; have := dUnhide sz13; have := dUnhide sz14; have := dUnhide sz15; have := dUnhide sz16; have := dUnhide sz17; have := dUnhide sz24; have := dUnhide sz27; have := dUnhide sz28; have := dUnhide sz36; have := dUnhide sz47; have := dUnhide sz50; have := dUnhide sz51; have := dUnhide sz55; have := dUnhide sz60; have := dUnhide sz71; have := dUnhide sz74; have := dUnhide sz75; have := dUnhide sz89; have := dUnhide sz92; have := dUnhide sz105; have := dUnhide sz143; have := dUnhide sz149; have := dUnhide sz152; have := dUnhide sz158; have := dUnhide sz168; omega))
        replace B := b170.below B B.size (by have := dUnhide sz0; have := dUnhide sz1; have := dUnhide sz8; have := dUnhide sz9; have := dUnhide sz12; have := dUnhide sz13; have := dUnhide sz14; have := dUnhide sz15; have := dUnhide sz16; have := dUnhide sz17; have := dUnhide sz24; have := dUnhide sz27; have := dUnhide sz28; have := dUnhide sz36; have := dUnhide sz47; have := dUnhide sz50; have := dUnhide sz51; have := dUnhide sz55; have := dUnhide sz60; have := dUnhide sz71; have := dUnhide sz74; have := dUnhide sz75; have := dUnhide sz89; have := dUnhide sz92; have := dUnhide sz105; have := dUnhide sz143; have := dUnhide sz149; have := dUnhide sz152; have := dUnhide sz158; have := dUnhide sz168; omega)
        have sz172 := dHide b170.size
        replace M171 := dHide M171
        clear b170 T56
        clear M157 M167 M171 X25 X48
        have hk : ¬ (((1 + cntConfig m0 + cntMend m1 + cntEntryS m3 : Nat) : Int) < 0) := by omega
        have k173 := (dUnhide X72).now 0 _ rfl
        have k174 := (dUnhide X72).now 1 _ rfl
        have k175 := (dUnhide X72).now 2 _ rfl
        have k176 := (dUnhide X72).now 3 _ rfl
        have k177 := (dUnhide X72).now 4 _ rfl
        have k178 := (dUnhide X72).now 5 _ rfl
        have k179 := (dUnhide X11).now 0 _ rfl
        have k180 := (dUnhide X11).now 1 _ rfl
        have k181 := (dUnhide X11).now 2 _ rfl
        have k182 := (dUnhide X11).now 3 _ rfl
        have k183 := (dUnhide X11).now 4 _ rfl
        have k184 := (dUnhide X11).now 5 _ rfl
        go_wp2_with fail
        refine (eqMend_ _ _ _ _ (dUnhide OG).now.rd (dUnhide OW).now.rd).mono ?_
        rintro e w185 ⟨rfl, b186⟩
        clear k173 k174 k175 k176 k177 k178 k179 k180 k181 k182 k183 k184
        have sz187 := dHide b186.size
        replace X0 := dHide ((dUnhide X0).below b186)
        replace X1 := dHide ((dUnhide X1).below b186)
        replace X11 := dHide ((dUnhide X11).below b186)
        replace OW := dHide ((dUnhide OW).below b186)
        replace OG := dHide ((dUnhide OG).below b186)
        replace X72 := dHide ((dUnhide X72).below b186)
        replace B := belowThen B b186
        clear b186
        have k188 := (dUnhide X72).now 0 _ rfl
        have k189 := (dUnhide X72).now 1 _ rfl
        have k190 := (dUnhide X72).now 2 _ rfl
        have k191 := (dUnhide X72).now 3 _ rfl
        have k192 := (dUnhide X72).now 4 _ rfl
        have k193 := (dUnhide X72).now 5 _ rfl
        go_wp2_with fail
        refine (markMend_ _ _ _ _ 1 _ (by omega) (by omega) (dUnhide OG)).mono ?_
        rintro e w194 ⟨rfl, M196, b195⟩
        clear k188 k189 k190 k191 k192 k193
        replace X0 := dHide ((dUnhide X0).wr b195 (by have := dUnhide sz0; have := dUnhide sz1; have := dUnhide sz8; have := dUnhide sz9; have := dUnhide sz12; have := dUnhide sz13; have := dUnhide sz14; have := dUnhide sz15; have := dUnhide sz16; have := dUnhide sz17; have := dUnhide sz24; have := dUnhide sz27; have := dUnhide sz28; have := dUnhide sz36; have := dUnhide sz47; have := dUnhide sz50; have := dUnhide sz51; have := dUnhide sz55; have := dUnhide sz60; have := dUnhide sz71; have := dUnhide sz74; have := dUnhide sz75; have := dUnhide sz89; have := dUnhide sz92; have := dUnhide sz105; have := dUnhide sz143; have := dUnhide sz149; have := dUnhide sz152; have := dUnhide sz158; have := dUnhide sz168; have := dUnhide sz172; have := dUnhide sz187; omega))
        replace X1 := dHide ((dUnhide X1).wr b195 (by have := dUnhide sz0; have := dUnhide sz1; have := dUnhide sz8; have := dUnhide sz9; have := dUnhide sz12; have := dUnhide sz13; have := dUnhide sz14; have := dUnhide sz15; have := dUnhide sz16; have := dUnhide sz17; have := dUnhide sz24; have := dUnhide sz27; have := dUnhide sz28; have := dUnhide sz36; have := dUnhide sz47; have := dUnhide sz50; have := dUnhide sz51; have := dUnhide sz55; have := dUnhide sz60; have := dUnhide sz71; have := dUnhide sz74; have := dUnhide sz75; have := dUnhide sz89; have := dUnhide sz92; have := dUnhide sz105; have := dUnhide sz143; have := dUnhide sz149; have := dUnhide sz152; have := dUnhide sz158; have := dUnhide sz168; have := dUnhide sz172; have := dUnhide sz187; omega))
        replace X11 := dHide ((dUnhide X11).wr b195 (by have := dUnhide sz0; have := dUnhide sz1; have := dUnhide sz8; have := dUnhide sz9; have := dUnhide sz12; have := dUnhide sz13; have := dUnhide sz14; have := dUnhide sz15; have := dUnhide sz16; have := dUnhide sz17; have := dUnhide sz24; have := dUnhide sz27; have := dUnhide sz28; have := dUnhide sz36; have := dUnhide sz47; have := dUnhide sz50; have := dUnhide sz51; have := dUnhide sz55; have := dUnhide sz60; have := dUnhide sz71; have := dUnhide sz74; have := dUnhide sz75; have := dUnhide sz89; have := dUnhide sz92; have := dUnhide sz105; have := dUnhide sz143; have := dUnhide sz149; have := dUnhide sz152; have := dUnhide sz158; have := dUnhide sz168; have := dUnhide sz172; have := dUnhide sz187; omega))
        replace OW := dHide ((dUnhide OW).wr b195 (by have := dUnhide sz0; have := dUnhide sz1; have := dUnhide sz8; have := dUnhide sz9; have := dUnhide sz12; have := dUnhide sz13; have := dUnhide sz14; have := dUnhide sz15; have := dUnhide sz16; have := dUnhide sz17; have := dUnhide sz24; have := dUnhide sz27; have := dUnhide sz28; have := dUnhide sz36; have := dUnhide sz47; have := dUnhide sz50; have := dUnhide sz51; have := dUnhide sz55; have := dUnhide sz60; have := dUnhide sz71; have := dUnhide sz74; have := dUnhide sz75; have := dUnhide sz89; have := dUnhide sz92; have := dUnhide sz105; have := dUnhide sz143; have := dUnhide sz149; have := dUnhide sz152; have := dUnhide sz158; have := dUnhide sz168; have := dUnhide sz172; have := dUnhide sz187; omega))
        replace X72 := dHide ((dUnhide X72).wr b195 (by have := dUnhide sz0; have := dUnhide sz1; have := dUnhide sz8; have := dUnhide sz9; have := dUnhide sz12; have := dUnhide sz13; have := dUnhide sz14; have := dUnhide sz15; have := dUnhide sz16; have := dUnhide sz17; have := dUnhide sz24; have := dUnhide sz27; have := dUnhide sz28; have := dUnhide sz36; have := dUnhide sz47; have := dUnhide sz50; have := dUnhide sz51; have := dUnhide sz55; have := dUnhide sz60; have := dUnhide sz71; have := dUnhide sz74; have := dUnhide sz75; have := dUnhide sz89; have := dUnhide sz92; have := dUnhide sz105; have := dUnhide sz143; have := dUnhide sz149; have := dUnhide sz152; have := dUnhide sz158; have := dUnhide sz168; have := dUnhide sz172; have := dUnhide sz187; omega))
        replace B := b195.below B B.size (by have := dUnhide sz0; have := dUnhide sz1; have := dUnhide sz8; have := dUnhide sz9; have := dUnhide sz12; have := dUnhide sz13; have := dUnhide sz14; have := dUnhide sz15; have := dUnhide sz16; have := dUnhide sz17; have := dUnhide sz24; have := dUnhide sz27; have := dUnhide sz28; have := dUnhide sz36; have := dUnhide sz47; have := dUnhide sz50; have := dUnhide sz51; have := dUnhide sz55; have := dUnhide sz60; have := dUnhide sz71; have := dUnhide sz74; have := dUnhide sz75; have := dUnhide sz89; have := dUnhide sz92; have := dUnhide sz105; have := dUnhide sz143; have := dUnhide sz149; have := dUnhide sz152; have := dUnhide sz158; have := dUnhide sz168; have := dUnhide sz172; have := dUnhide sz187; omega)
        have sz197 := dHide b195.size
        replace M196 := dHide M196
        clear b195 OG
        have k198 := (dUnhide X72).now 0 _ rfl
        have k199 := (dUnhide X72).now 1 _ rfl
        have k200 := (dUnhide X72).now 2 _ rfl
        have k201 := (dUnhide X72).now 3 _ rfl
        have k202 := (dUnhide X72).now 4 _ rfl
        have k203 := (dUnhide X72).now 5 _ rfl
        go_wp2_with fail
        refine (heldMend_ _ R 1 _ (by omega) (by omega) (dUnhide M196).now.rd).mono ?_
        rintro e w204 ⟨rfl, b205⟩
        clear k198 k199 k200 k201 k202 k203
        have sz206 := dHide b205.size
        replace X0 := dHide ((dUnhide X0).below b205)
        replace X1 := dHide ((dUnhide X1).below b205)
        replace X11 := dHide ((dUnhide X11).below b205)
        replace OW := dHide ((dUnhide OW).below b205)
        replace X72 := dHide ((dUnhide X72).below b205)
        replace M196 := dHide ((dUnhide M196).below b205)
        replace B := belowThen B b205
        clear b205
        have hq : ¬ (((1 + cntMend R : Nat) : Int) < 0) := by omega
        go_wp2_with fail
        have hC : ∀ W, Below w204.heap.size w204 W → W.cell? ⟨w.heap.size, 0, none⟩ = some (.slice v0a m0.1.length v0c) ∧ W.cell? ⟨w.heap.size, 1, none⟩ = some (.int .i64 m0.2) ∧ W.cell? ⟨w.heap.size + 1, 0, none⟩ = some (.int .i64 m1.bye) ∧ W.cell? ⟨w.heap.size + 1, 1, none⟩ = some (.int .i64 m1.epoch) ∧ W.cell? ⟨w.heap.size + 1, 2, none⟩ = some (.slice v1sa m1.sealed.length v1sc) ∧ W.cell? ⟨w.heap.size + 1, 3, none⟩ = some (.slice v1ea m1.seen.length v1ec) ∧ W.cell? ⟨w.heap.size + 1, 4, none⟩ = some (.bool m1.planned) ∧ W.cell? ⟨w.heap.size + 1, 5, none⟩ = some (.slice v1wa m1.wrote.length v1wc) := fun W hb =>
          ⟨(dUnhide X0).at hb 0 _ rfl, (dUnhide X0).at hb 1 _ rfl, (dUnhide X1).at hb 0 _ rfl, (dUnhide X1).at hb 1 _ rfl, (dUnhide X1).at hb 2 _ rfl, (dUnhide X1).at hb 3 _ rfl, (dUnhide X1).at hb 4 _ rfl, (dUnhide X1).at hb 5 _ rfl⟩
        have HC := dHide hC
        have hbr := Below.refl w204.heap.size w204
        obtain ⟨kd2080, kd2081, kd2082, kd2083, kd2084, kd2085, kd2086, kd2087⟩ := hC w204 hbr
        clear hC
        go_cut [20, 21] (fun sv t1 wx => ∃ (bv lo hi : Nat) (sa : Option Addr) (sc : Nat) (ea : Option Addr) (ec : Nat) (wa : Option Addr) (wc : Nat), sv = .pointer (some ⟨bv, 0, none⟩) ∧ t1 = .bool s1 ∧ Sits (Box bv #[.int .i64 R.bye, .int .i64 R.epoch, .slice sa R.sealed.length sc, .slice ea R.seen.length ec, .bool R.planned, .slice wa R.wrote.length wc]) bv (bv + 1) wx ∧ Sits (OwMend lo hi (.agg #[.int .i64 R.bye, .int .i64 R.epoch, .slice sa R.sealed.length sc, .slice ea R.seen.length ec, .bool R.planned, .slice wa R.wrote.length wc]) R) lo hi wx ∧ (bv < lo ∨ hi ≤ bv) ∧ w204.heap.size ≤ bv ∧ w204.heap.size ≤ lo ∧ Below w204.heap.size w204 wx)
        case first =>
          clear kd2080 kd2081 kd2082 kd2083 kd2084 kd2085 kd2086 kd2087
          have hcur := hbr.drew
          refine wp_region_noPanic ?_
          refine wp_region_held_drew (S := fun W => W.cell? ⟨w.heap.size, 0, none⟩ = some (.slice v0a m0.1.length v0c) ∧ W.cell? ⟨w.heap.size, 1, none⟩ = some (.int .i64 m0.2) ∧ W.cell? ⟨w.heap.size + 1, 0, none⟩ = some (.int .i64 m1.bye) ∧ W.cell? ⟨w.heap.size + 1, 1, none⟩ = some (.int .i64 m1.epoch) ∧ W.cell? ⟨w.heap.size + 1, 2, none⟩ = some (.slice v1sa m1.sealed.length v1sc) ∧ W.cell? ⟨w.heap.size + 1, 3, none⟩ = some (.slice v1ea m1.seen.length v1ec) ∧ W.cell? ⟨w.heap.size + 1, 4, none⟩ = some (.bool m1.planned) ∧ W.cell? ⟨w.heap.size + 1, 5, none⟩ = some (.slice v1wa m1.wrote.length v1wc)) (by kernel_rfl) (by first | exact dUnhide HC _ hcur | exact dUnhide HC _ hst | exact dUnhide HC _ hbr | fail) (fun hHeld => ?_)
          clear hbr
          generalize w204.drew = wd at *
          refine wpAnyH_take (i := 0) (oi := { dst := some 120, op := Op.load 51 (Operand.tmp 4), type := 51, pos := "exact.go:3310", after := #[], guard := none }) (v := ?_) rfl (by kernel_rfl) (by kernel_rfl) (by kernel_rfl) (fun _ _ _ h => h) (Or.inl ⟨by rfl, ?_⟩) (by assumption) ?_
          rotate_left 1
          · intro w hSw
            (try dsimp only at hSw)
            first | (go_simp; done) | (go_simp; with_reducible rfl)
          try simp only [Act.put, List.setIfInBounds_toArray, List.set_cons_zero, List.set_cons_succ]
          refine wpAnyH_take (i := 2) (oi := { dst := some 122, op := Op.load 54 (Operand.tmp 5), type := 54, pos := "exact.go:3310", after := #[], guard := none }) (v := ?_) rfl (by kernel_rfl) (by kernel_rfl) (by kernel_rfl) (fun _ _ _ h => h) (Or.inl ⟨by rfl, ?_⟩) (by assumption) ?_
          rotate_left 1
          · intro w hSw
            (try dsimp only at hSw)
            first | (go_simp; done) | (go_simp; with_reducible rfl)
          try simp only [Act.put, List.setIfInBounds_toArray, List.set_cons_zero, List.set_cons_succ]
          refine wpAnyH_take (i := 4) (oi := { dst := some 124, op := Op.move (Operand.tmp 2), type := 3, pos := "exact.go:3310", after := #[], guard := none }) (v := ?_) rfl (by kernel_rfl) (by kernel_rfl) (by kernel_rfl) (fun _ _ _ h => h) (Or.inl ⟨by rfl, ?_⟩) (by assumption) ?_
          rotate_left 1
          · intro w hSw
            (try dsimp only at hSw)
            first | (go_simp; done) | (go_simp; with_reducible rfl)
          try simp only [Act.put, List.setIfInBounds_toArray, List.set_cons_zero, List.set_cons_succ]
          refine wpAnyH_take (i := 5) (oi := { dst := some 125, op := Op.move (Operand.tmp 3), type := 52, pos := "exact.go:3310", after := #[], guard := none }) (v := ?_) rfl (by kernel_rfl) (by kernel_rfl) (by kernel_rfl) (fun _ _ _ h => h) (Or.inl ⟨by rfl, ?_⟩) (by assumption) ?_
          rotate_left 1
          · intro w hSw
            (try dsimp only at hSw)
            first | (go_simp; done) | (go_simp; with_reducible rfl)
          try simp only [Act.put, List.setIfInBounds_toArray, List.set_cons_zero, List.set_cons_succ]
          refine wpAnyH_ready (rs := [1, 11]) (by kernel_rfl) (by simp) ?_
          refine AllReadyH.cons (o := { dst := some 121, op := Op.call { callee := Callee.value (Operand.func 30), args := #[Operand.tmp 120], argTypes := #[51] }, type := 26, pos := "exact.go:3310", after := #[{ on := 0, ground := Ground.data }], guard := none }) rfl (fun K hK => ?_) (AllReadyH.cons (o := { dst := some 20, op := Op.alloc 30, type := 0, pos := "exact.go:3310", after := #[], guard := none }) rfl (fun K hK => ?_) AllReadyH.nil)
          · go_simp
            refine (toConfig_ _ m0 _ hs0 (dUnhide A0 _ (belowThen B hcur))).mono ?_
            rintro e wq0 ⟨o0, rfl, q0, b0⟩
            replace hcur := belowThen hcur b0
            (try replace zz := BxZ.below zz b0)
            have Q0 := dHide q0
            obtain ⟨o0a, o0c, rfl, o0l⟩ := formConfig q0.now.rd
            clear q0 b0
            (try go_wp2_with fail)
            refine hK.out _ _ (by first | exact dUnhide HC _ hcur | exact dUnhide HC _ hst | exact dUnhide HC _ hbr | fail) (fun hHeld => ?_)
            clear hK K
            try simp only [Act.put, List.setIfInBounds_toArray, List.set_cons_zero, List.set_cons_succ]
            refine wpAnyH_ready (rs := [3, 11]) (by kernel_rfl) (by simp) ?_
            refine AllReadyH.cons (o := { dst := some 123, op := Op.call { callee := Callee.value (Operand.func 31), args := #[Operand.tmp 122], argTypes := #[54] }, type := 30, pos := "exact.go:3310", after := #[{ on := 2, ground := Ground.data }, { on := 1, ground := Ground.chain }], guard := none }) rfl (fun K hK => ?_) (AllReadyH.cons (o := { dst := some 20, op := Op.alloc 30, type := 0, pos := "exact.go:3310", after := #[], guard := none }) rfl (fun K hK => ?_) AllReadyH.nil)
            · go_simp
              refine (toMend_ _ m1 _ hs1 (dUnhide A1 _ (belowThen B hcur))).mono ?_
              rintro e wq1 ⟨o1, rfl, q1, b1⟩
              replace hcur := belowThen hcur b1
              (try replace zz := BxZ.below zz b1)
              replace Q0 := dHide ((dUnhide Q0).below b1)
              have Q1 := dHide q1
              obtain ⟨o1sa, o1sc, o1ea, o1ec, o1wa, o1wc, rfl, o1l1, o1l2, o1l3⟩ := formMend q1.now.rd
              clear q1 b1
              (try go_wp2_with fail)
              refine hK.out _ _ (by first | exact dUnhide HC _ hcur | exact dUnhide HC _ hst | exact dUnhide HC _ hbr | fail) (fun hHeld => ?_)
              clear hK K
              try simp only [Act.put, List.setIfInBounds_toArray, List.set_cons_zero, List.set_cons_succ]
              refine wpAnyH_ready (rs := [6, 11]) (by kernel_rfl) (by simp) ?_
              refine AllReadyH.cons (o := { dst := some 126, op := Op.call { callee := Callee.value (Operand.func 32), args := #[Operand.tmp 125], argTypes := #[52] }, type := 27, pos := "exact.go:3310", after := #[{ on := 5, ground := Ground.data }, { on := 3, ground := Ground.chain }], guard := none }) rfl (fun K hK => ?_) (AllReadyH.cons (o := { dst := some 20, op := Op.alloc 30, type := 0, pos := "exact.go:3310", after := #[], guard := none }) rfl (fun K hK => ?_) AllReadyH.nil)
              · go_simp
                refine (toEntryS_ _ m3 _ hs3 (dUnhide A3 _ (belowThen B hcur))).mono ?_
                rintro e wq2 ⟨o2, rfl, q2, b2⟩
                replace hcur := belowThen hcur b2
                (try replace zz := BxZ.below zz b2)
                replace Q0 := dHide ((dUnhide Q0).below b2)
                replace Q1 := dHide ((dUnhide Q1).below b2)
                have Q2 := dHide q2
                obtain ⟨o2a, o2c, rfl, o2l⟩ := formEntryS q2.now.rd
                clear q2 b2
                (try go_wp2_with fail)
                refine hK.out _ _ (by first | exact dUnhide HC _ hcur | exact dUnhide HC _ hst | exact dUnhide HC _ hbr | fail) (fun hHeld => ?_)
                clear hK K
                try simp only [Act.put, List.setIfInBounds_toArray, List.set_cons_zero, List.set_cons_succ]
                refine wpAnyH_ready (rs := [7, 11]) (by kernel_rfl) (by simp) ?_
                refine AllReadyH.cons (o := { dst := some 127, op := Op.call { callee := Callee.value (Operand.func 10), args := #[Operand.tmp 121, Operand.tmp 123, Operand.tmp 124, Operand.tmp 126], argTypes := #[26, 30, 3, 27] }, type := 33, pos := "exact.go:3310", after := #[{ on := 1, ground := Ground.data }, { on := 3, ground := Ground.data }, { on := 4, ground := Ground.data }, { on := 6, ground := Ground.data }, { on := 6, ground := Ground.chain }], guard := none }) rfl (fun K hK => ?_) (AllReadyH.cons (o := { dst := some 20, op := Op.alloc 30, type := 0, pos := "exact.go:3310", after := #[], guard := none }) rfl (fun K hK => ?_) AllReadyH.nil)
                · go_simp
                  (try have hlo := BxZ.lt zz)
                  have hcz := hcur.size
                  refine (dUnhide CI _ _ _ _ (dUnhide Q0).now.rd (dUnhide Q1).now.rd (dUnhide Q2).now.rd).mono ?_
                  rintro e w5 ⟨u5, rfl, q5, b5⟩
                  replace hcur := belowThen hcur b5
                  (try replace zz := BxZ.below zz b5)
                  have Q5 := dHide q5
                  obtain ⟨o5sa, o5sc, o5ea, o5ec, o5wa, o5wc, rfl, o5l1, o5l2, o5l3⟩ := formMend q5.now.rd
                  clear q5 b5 Q0 Q1 Q2
                  (try go_wp2_with fail)
                  refine hK.out _ _ (by first | exact dUnhide HC _ hcur | exact dUnhide HC _ hst | exact dUnhide HC _ hbr | fail) (fun hHeld => ?_)
                  clear hK K
                  try simp only [Act.put, List.setIfInBounds_toArray, List.set_cons_zero, List.set_cons_succ]
                  refine wpAnyH_take (i := 8) (oi := { dst := some 119, op := Op.move (Operand.tmp 127), type := 33, pos := "exact.go:3310", after := #[{ on := 7, ground := Ground.data }], guard := none }) (v := ?_) rfl (by kernel_rfl) (by kernel_rfl) (by kernel_rfl) (fun _ _ _ h => h) (Or.inl ⟨by rfl, ?_⟩) (by assumption) ?_
                  rotate_left 1
                  · intro w hSw
                    (try dsimp only at hSw)
                    first | (go_simp; done) | (go_simp; with_reducible rfl)
                  try simp only [Act.put, List.setIfInBounds_toArray, List.set_cons_zero, List.set_cons_succ]
                  refine wpAnyH_take (i := 9) (oi := { dst := some 128, op := Op.extract (Operand.tmp 119) 0, type := 30, pos := "exact.go:3310", after := #[{ on := 8, ground := Ground.data }], guard := none }) (v := ?_) rfl (by kernel_rfl) (by kernel_rfl) (by kernel_rfl) (fun _ _ _ h => h) (Or.inl ⟨by rfl, ?_⟩) (by assumption) ?_
                  rotate_left 1
                  · intro w hSw
                    (try dsimp only at hSw)
                    first | (go_simp; done) | (go_simp; with_reducible rfl)
                  try simp only [Act.put, List.setIfInBounds_toArray, List.set_cons_zero, List.set_cons_succ]
                  refine wpAnyH_take (i := 10) (oi := { dst := some 129, op := Op.extract (Operand.tmp 119) 1, type := 4, pos := "exact.go:3310", after := #[{ on := 8, ground := Ground.data }, { on := 12, ground := Ground.gcOnly Departure.lateStores }], guard := none }) (v := ?_) rfl (by kernel_rfl) (by kernel_rfl) (by kernel_rfl) (fun _ _ _ h => h) (Or.inl ⟨by rfl, ?_⟩) (by assumption) ?_
                  rotate_left 1
                  · intro w hSw
                    (try dsimp only at hSw)
                    first | (go_simp; done) | (go_simp; with_reducible rfl)
                  try simp only [Act.put, List.setIfInBounds_toArray, List.set_cons_zero, List.set_cons_succ]
                  refine wpAnyH_ready (rs := [11]) (by kernel_rfl) (by simp) ?_
                  refine AllReadyH.cons (o := { dst := some 20, op := Op.alloc 30, type := 0, pos := "exact.go:3310", after := #[], guard := none }) rfl (fun K hK => ?_) AllReadyH.nil
                  go_simp
                  have zz := BxZ.new (B := w204.heap.size) _ [.int .i64 0, .int .i64 0, .slice none 0 0, .slice none 0 0, .bool false, .slice none 0 0] 30 hcur.size
                  (try replace Q0 := dHide ((dUnhide Q0).below (ha _ (.cells #[.int .i64 0, .int .i64 0, .slice none 0 0, .slice none 0 0, .bool false, .slice none 0 0] 30))))
                  (try replace Q1 := dHide ((dUnhide Q1).below (ha _ (.cells #[.int .i64 0, .int .i64 0, .slice none 0 0, .slice none 0 0, .bool false, .slice none 0 0] 30))))
                  (try replace Q2 := dHide ((dUnhide Q2).below (ha _ (.cells #[.int .i64 0, .int .i64 0, .slice none 0 0, .slice none 0 0, .bool false, .slice none 0 0] 30))))
                  (try replace Q5 := dHide ((dUnhide Q5).below (ha _ (.cells #[.int .i64 0, .int .i64 0, .slice none 0 0, .slice none 0 0, .bool false, .slice none 0 0] 30))))
                  replace hcur := hcur.alloc hcur.size (.cells #[.int .i64 0, .int .i64 0, .slice none 0 0, .slice none 0 0, .bool false, .slice none 0 0] 30)
                  first | generalize w5.alloc (.cells #[.int .i64 0, .int .i64 0, .slice none 0 0, .slice none 0 0, .bool false, .slice none 0 0] 30) = wa at * | generalize wq2.alloc (.cells #[.int .i64 0, .int .i64 0, .slice none 0 0, .slice none 0 0, .bool false, .slice none 0 0] 30) = wa at * | generalize wq1.alloc (.cells #[.int .i64 0, .int .i64 0, .slice none 0 0, .slice none 0 0, .bool false, .slice none 0 0] 30) = wa at * | generalize wq0.alloc (.cells #[.int .i64 0, .int .i64 0, .slice none 0 0, .slice none 0 0, .bool false, .slice none 0 0] 30) = wa at * | generalize wd.alloc (.cells #[.int .i64 0, .int .i64 0, .slice none 0 0, .slice none 0 0, .bool false, .slice none 0 0] 30) = wa at * | fail
                  refine hK.out _ _ (by first | exact dUnhide HC _ hcur | exact dUnhide HC _ hst | exact dUnhide HC _ hbr | fail) (fun hHeld => ?_)
                  clear hK K
                  try simp only [Act.put, List.setIfInBounds_toArray, List.set_cons_zero, List.set_cons_succ]
                  refine wpAnyH_ready (rs := [12]) (by kernel_rfl) (by simp) ?_
                  refine AllReadyH.cons (o := { dst := none, op := Op.store 30 (Operand.tmp 20) (Operand.tmp 128), type := 0, pos := "exact.go:3310", after := #[{ on := 11, ground := Ground.data }, { on := 9, ground := Ground.data }, { on := 7, ground := Ground.chain }, { on := 0, ground := Ground.phase }, { on := 1, ground := Ground.phase }, { on := 2, ground := Ground.phase }, { on := 3, ground := Ground.phase }, { on := 4, ground := Ground.phase }, { on := 5, ground := Ground.phase }, { on := 6, ground := Ground.phase }, { on := 7, ground := Ground.phase }, { on := 8, ground := Ground.phase }, { on := 9, ground := Ground.phase }, { on := 10, ground := Ground.textOnly Departure.lateStores }, { on := 11, ground := Ground.phase }], guard := none }) rfl (fun K hK => ?_) AllReadyH.nil
                  obtain ⟨z0, y0⟩ := zz.2 0 _ rfl
                  obtain ⟨z1, y1⟩ := zz.2 1 _ rfl
                  obtain ⟨z2, y2⟩ := zz.2 2 _ rfl
                  obtain ⟨z3, y3⟩ := zz.2 3 _ rfl
                  obtain ⟨z4, y4⟩ := zz.2 4 _ rfl
                  obtain ⟨z5, y5⟩ := zz.2 5 _ rfl
                  go_simp
                  have hst := below_six hcur zz.1 (.int .i64 R.bye) (.int .i64 R.epoch) (.slice o5sa R.sealed.length o5sc) (.slice o5ea R.seen.length o5ec) (.bool R.planned) (.slice o5wa R.wrote.length o5wc)
                  clear hcur z0 y0 z1 y1 z2 y2 z3 y3 z4 y4 z5 y5
                  refine hK.out _ _ (by first | exact dUnhide HC _ hcur | exact dUnhide HC _ hst | exact dUnhide HC _ hbr | fail) (fun hHeld => ?_)
                  clear hK K
                  try simp only [Act.put, List.setIfInBounds_toArray, List.set_cons_zero, List.set_cons_succ]
                  refine wpAnyH_take (i := 13) (oi := { dst := some 21, op := Op.assign (Operand.tmp 129), type := 4, pos := "exact.go:3310", after := #[{ on := 10, ground := Ground.data }, { on := 12, ground := Ground.chain }, { on := 0, ground := Ground.phase }, { on := 1, ground := Ground.phase }, { on := 2, ground := Ground.phase }, { on := 3, ground := Ground.phase }, { on := 4, ground := Ground.phase }, { on := 5, ground := Ground.phase }, { on := 6, ground := Ground.phase }, { on := 7, ground := Ground.phase }, { on := 8, ground := Ground.phase }, { on := 9, ground := Ground.phase }, { on := 10, ground := Ground.phase }, { on := 11, ground := Ground.phase }, { on := 12, ground := Ground.phase }], guard := none }) (v := ?_) rfl (by kernel_rfl) (by kernel_rfl) (by kernel_rfl) (fun _ _ _ h => h) (Or.inl ⟨by rfl, ?_⟩) (by assumption) ?_
                  rotate_left 1
                  · intro w hSw
                    (try dsimp only at hSw)
                    first | (go_simp; done) | (go_simp; with_reducible rfl)
                  try simp only [Act.put, List.setIfInBounds_toArray, List.set_cons_zero, List.set_cons_succ]
                  refine wpAnyH_done (by kernel_rfl) ?_ _
                  refine NoPanic.normal ?_
                  go_wp2_with fail
                  go_meet
                  case rel => first | exact ⟨_, _, _, _, _, _, _, _, _, rfl, rfl, ((((((zz.put 0 (.int .i64 R.bye)).put 1 (.int .i64 R.epoch)).put 2 (.slice o5sa R.sealed.length o5sc)).put 3 (.slice o5ea R.seen.length o5ec)).put 4 (.bool R.planned)).put 5 (.slice o5wa R.wrote.length o5wc)).bx.sits, ((((((dUnhide Q5).setFar (.inl hlo) (.int .i64 R.bye)).setFar (.inl hlo) (.int .i64 R.epoch)).setFar (.inl hlo) (.slice o5sa R.sealed.length o5sc)).setFar (.inl hlo) (.slice o5ea R.seen.length o5ec)).setFar (.inl hlo) (.bool R.planned)).setFar (.inl hlo) (.slice o5wa R.wrote.length o5wc), (.inl hlo), zz.1, hcz, hst⟩ | exact ⟨_, _, _, _, _, _, _, _, _, rfl, rfl, ((((((zz.put 0 (.int .i64 R.bye)).put 1 (.int .i64 R.epoch)).put 2 (.slice o5sa R.sealed.length o5sc)).put 3 (.slice o5ea R.seen.length o5ec)).put 4 (.bool R.planned)).put 5 (.slice o5wa R.wrote.length o5wc)).bx.sits, ((((((dUnhide Q5).setFar (.inr (Nat.le_refl _)) (.int .i64 R.bye)).setFar (.inr (Nat.le_refl _)) (.int .i64 R.epoch)).setFar (.inr (Nat.le_refl _)) (.slice o5sa R.sealed.length o5sc)).setFar (.inr (Nat.le_refl _)) (.slice o5ea R.seen.length o5ec)).setFar (.inr (Nat.le_refl _)) (.bool R.planned)).setFar (.inr (Nat.le_refl _)) (.slice o5wa R.wrote.length o5wc), (.inr (Nat.le_refl _)), zz.1, hcz, hst⟩
                · go_simp
                  have zz := BxZ.new (B := w204.heap.size) _ [.int .i64 0, .int .i64 0, .slice none 0 0, .slice none 0 0, .bool false, .slice none 0 0] 30 hcur.size
                  (try replace Q0 := dHide ((dUnhide Q0).below (ha _ (.cells #[.int .i64 0, .int .i64 0, .slice none 0 0, .slice none 0 0, .bool false, .slice none 0 0] 30))))
                  (try replace Q1 := dHide ((dUnhide Q1).below (ha _ (.cells #[.int .i64 0, .int .i64 0, .slice none 0 0, .slice none 0 0, .bool false, .slice none 0 0] 30))))
                  (try replace Q2 := dHide ((dUnhide Q2).below (ha _ (.cells #[.int .i64 0, .int .i64 0, .slice none 0 0, .slice none 0 0, .bool false, .slice none 0 0] 30))))
                  (try replace Q5 := dHide ((dUnhide Q5).below (ha _ (.cells #[.int .i64 0, .int .i64 0, .slice none 0 0, .slice none 0 0, .bool false, .slice none 0 0] 30))))
                  replace hcur := hcur.alloc hcur.size (.cells #[.int .i64 0, .int .i64 0, .slice none 0 0, .slice none 0 0, .bool false, .slice none 0 0] 30)
                  first | generalize w5.alloc (.cells #[.int .i64 0, .int .i64 0, .slice none 0 0, .slice none 0 0, .bool false, .slice none 0 0] 30) = wa at * | generalize wq2.alloc (.cells #[.int .i64 0, .int .i64 0, .slice none 0 0, .slice none 0 0, .bool false, .slice none 0 0] 30) = wa at * | generalize wq1.alloc (.cells #[.int .i64 0, .int .i64 0, .slice none 0 0, .slice none 0 0, .bool false, .slice none 0 0] 30) = wa at * | generalize wq0.alloc (.cells #[.int .i64 0, .int .i64 0, .slice none 0 0, .slice none 0 0, .bool false, .slice none 0 0] 30) = wa at * | generalize wd.alloc (.cells #[.int .i64 0, .int .i64 0, .slice none 0 0, .slice none 0 0, .bool false, .slice none 0 0] 30) = wa at * | fail
                  refine hK.out _ _ (by first | exact dUnhide HC _ hcur | exact dUnhide HC _ hst | exact dUnhide HC _ hbr | fail) (fun hHeld => ?_)
                  clear hK K
                  try simp only [Act.put, List.setIfInBounds_toArray, List.set_cons_zero, List.set_cons_succ]
                  refine wpAnyH_ready (rs := [7]) (by kernel_rfl) (by simp) ?_
                  refine AllReadyH.cons (o := { dst := some 127, op := Op.call { callee := Callee.value (Operand.func 10), args := #[Operand.tmp 121, Operand.tmp 123, Operand.tmp 124, Operand.tmp 126], argTypes := #[26, 30, 3, 27] }, type := 33, pos := "exact.go:3310", after := #[{ on := 1, ground := Ground.data }, { on := 3, ground := Ground.data }, { on := 4, ground := Ground.data }, { on := 6, ground := Ground.data }, { on := 6, ground := Ground.chain }], guard := none }) rfl (fun K hK => ?_) AllReadyH.nil
                  go_simp
                  (try have hlo := BxZ.lt zz)
                  have hcz := hcur.size
                  refine (dUnhide CI _ _ _ _ (dUnhide Q0).now.rd (dUnhide Q1).now.rd (dUnhide Q2).now.rd).mono ?_
                  rintro e w5 ⟨u5, rfl, q5, b5⟩
                  replace hcur := belowThen hcur b5
                  (try replace zz := BxZ.below zz b5)
                  have Q5 := dHide q5
                  obtain ⟨o5sa, o5sc, o5ea, o5ec, o5wa, o5wc, rfl, o5l1, o5l2, o5l3⟩ := formMend q5.now.rd
                  clear q5 b5 Q0 Q1 Q2
                  (try go_wp2_with fail)
                  refine hK.out _ _ (by first | exact dUnhide HC _ hcur | exact dUnhide HC _ hst | exact dUnhide HC _ hbr | fail) (fun hHeld => ?_)
                  clear hK K
                  try simp only [Act.put, List.setIfInBounds_toArray, List.set_cons_zero, List.set_cons_succ]
                  refine wpAnyH_take (i := 8) (oi := { dst := some 119, op := Op.move (Operand.tmp 127), type := 33, pos := "exact.go:3310", after := #[{ on := 7, ground := Ground.data }], guard := none }) (v := ?_) rfl (by kernel_rfl) (by kernel_rfl) (by kernel_rfl) (fun _ _ _ h => h) (Or.inl ⟨by rfl, ?_⟩) (by assumption) ?_
                  rotate_left 1
                  · intro w hSw
                    (try dsimp only at hSw)
                    first | (go_simp; done) | (go_simp; with_reducible rfl)
                  try simp only [Act.put, List.setIfInBounds_toArray, List.set_cons_zero, List.set_cons_succ]
                  refine wpAnyH_take (i := 9) (oi := { dst := some 128, op := Op.extract (Operand.tmp 119) 0, type := 30, pos := "exact.go:3310", after := #[{ on := 8, ground := Ground.data }], guard := none }) (v := ?_) rfl (by kernel_rfl) (by kernel_rfl) (by kernel_rfl) (fun _ _ _ h => h) (Or.inl ⟨by rfl, ?_⟩) (by assumption) ?_
                  rotate_left 1
                  · intro w hSw
                    (try dsimp only at hSw)
                    first | (go_simp; done) | (go_simp; with_reducible rfl)
                  try simp only [Act.put, List.setIfInBounds_toArray, List.set_cons_zero, List.set_cons_succ]
                  refine wpAnyH_take (i := 10) (oi := { dst := some 129, op := Op.extract (Operand.tmp 119) 1, type := 4, pos := "exact.go:3310", after := #[{ on := 8, ground := Ground.data }, { on := 12, ground := Ground.gcOnly Departure.lateStores }], guard := none }) (v := ?_) rfl (by kernel_rfl) (by kernel_rfl) (by kernel_rfl) (fun _ _ _ h => h) (Or.inl ⟨by rfl, ?_⟩) (by assumption) ?_
                  rotate_left 1
                  · intro w hSw
                    (try dsimp only at hSw)
                    first | (go_simp; done) | (go_simp; with_reducible rfl)
                  try simp only [Act.put, List.setIfInBounds_toArray, List.set_cons_zero, List.set_cons_succ]
                  refine wpAnyH_ready (rs := [12]) (by kernel_rfl) (by simp) ?_
                  refine AllReadyH.cons (o := { dst := none, op := Op.store 30 (Operand.tmp 20) (Operand.tmp 128), type := 0, pos := "exact.go:3310", after := #[{ on := 11, ground := Ground.data }, { on := 9, ground := Ground.data }, { on := 7, ground := Ground.chain }, { on := 0, ground := Ground.phase }, { on := 1, ground := Ground.phase }, { on := 2, ground := Ground.phase }, { on := 3, ground := Ground.phase }, { on := 4, ground := Ground.phase }, { on := 5, ground := Ground.phase }, { on := 6, ground := Ground.phase }, { on := 7, ground := Ground.phase }, { on := 8, ground := Ground.phase }, { on := 9, ground := Ground.phase }, { on := 10, ground := Ground.textOnly Departure.lateStores }, { on := 11, ground := Ground.phase }], guard := none }) rfl (fun K hK => ?_) AllReadyH.nil
                  obtain ⟨z0, y0⟩ := zz.2 0 _ rfl
                  obtain ⟨z1, y1⟩ := zz.2 1 _ rfl
                  obtain ⟨z2, y2⟩ := zz.2 2 _ rfl
                  obtain ⟨z3, y3⟩ := zz.2 3 _ rfl
                  obtain ⟨z4, y4⟩ := zz.2 4 _ rfl
                  obtain ⟨z5, y5⟩ := zz.2 5 _ rfl
                  go_simp
                  have hst := below_six hcur zz.1 (.int .i64 R.bye) (.int .i64 R.epoch) (.slice o5sa R.sealed.length o5sc) (.slice o5ea R.seen.length o5ec) (.bool R.planned) (.slice o5wa R.wrote.length o5wc)
                  clear hcur z0 y0 z1 y1 z2 y2 z3 y3 z4 y4 z5 y5
                  refine hK.out _ _ (by first | exact dUnhide HC _ hcur | exact dUnhide HC _ hst | exact dUnhide HC _ hbr | fail) (fun hHeld => ?_)
                  clear hK K
                  try simp only [Act.put, List.setIfInBounds_toArray, List.set_cons_zero, List.set_cons_succ]
                  refine wpAnyH_take (i := 13) (oi := { dst := some 21, op := Op.assign (Operand.tmp 129), type := 4, pos := "exact.go:3310", after := #[{ on := 10, ground := Ground.data }, { on := 12, ground := Ground.chain }, { on := 0, ground := Ground.phase }, { on := 1, ground := Ground.phase }, { on := 2, ground := Ground.phase }, { on := 3, ground := Ground.phase }, { on := 4, ground := Ground.phase }, { on := 5, ground := Ground.phase }, { on := 6, ground := Ground.phase }, { on := 7, ground := Ground.phase }, { on := 8, ground := Ground.phase }, { on := 9, ground := Ground.phase }, { on := 10, ground := Ground.phase }, { on := 11, ground := Ground.phase }, { on := 12, ground := Ground.phase }], guard := none }) (v := ?_) rfl (by kernel_rfl) (by kernel_rfl) (by kernel_rfl) (fun _ _ _ h => h) (Or.inl ⟨by rfl, ?_⟩) (by assumption) ?_
                  rotate_left 1
                  · intro w hSw
                    (try dsimp only at hSw)
                    first | (go_simp; done) | (go_simp; with_reducible rfl)
                  try simp only [Act.put, List.setIfInBounds_toArray, List.set_cons_zero, List.set_cons_succ]
                  refine wpAnyH_done (by kernel_rfl) ?_ _
                  refine NoPanic.normal ?_
                  go_wp2_with fail
                  go_meet
                  case rel => first | exact ⟨_, _, _, _, _, _, _, _, _, rfl, rfl, ((((((zz.put 0 (.int .i64 R.bye)).put 1 (.int .i64 R.epoch)).put 2 (.slice o5sa R.sealed.length o5sc)).put 3 (.slice o5ea R.seen.length o5ec)).put 4 (.bool R.planned)).put 5 (.slice o5wa R.wrote.length o5wc)).bx.sits, ((((((dUnhide Q5).setFar (.inl hlo) (.int .i64 R.bye)).setFar (.inl hlo) (.int .i64 R.epoch)).setFar (.inl hlo) (.slice o5sa R.sealed.length o5sc)).setFar (.inl hlo) (.slice o5ea R.seen.length o5ec)).setFar (.inl hlo) (.bool R.planned)).setFar (.inl hlo) (.slice o5wa R.wrote.length o5wc), (.inl hlo), zz.1, hcz, hst⟩ | exact ⟨_, _, _, _, _, _, _, _, _, rfl, rfl, ((((((zz.put 0 (.int .i64 R.bye)).put 1 (.int .i64 R.epoch)).put 2 (.slice o5sa R.sealed.length o5sc)).put 3 (.slice o5ea R.seen.length o5ec)).put 4 (.bool R.planned)).put 5 (.slice o5wa R.wrote.length o5wc)).bx.sits, ((((((dUnhide Q5).setFar (.inr (Nat.le_refl _)) (.int .i64 R.bye)).setFar (.inr (Nat.le_refl _)) (.int .i64 R.epoch)).setFar (.inr (Nat.le_refl _)) (.slice o5sa R.sealed.length o5sc)).setFar (.inr (Nat.le_refl _)) (.slice o5ea R.seen.length o5ec)).setFar (.inr (Nat.le_refl _)) (.bool R.planned)).setFar (.inr (Nat.le_refl _)) (.slice o5wa R.wrote.length o5wc), (.inr (Nat.le_refl _)), zz.1, hcz, hst⟩
              · go_simp
                have zz := BxZ.new (B := w204.heap.size) _ [.int .i64 0, .int .i64 0, .slice none 0 0, .slice none 0 0, .bool false, .slice none 0 0] 30 hcur.size
                (try replace Q0 := dHide ((dUnhide Q0).below (ha _ (.cells #[.int .i64 0, .int .i64 0, .slice none 0 0, .slice none 0 0, .bool false, .slice none 0 0] 30))))
                (try replace Q1 := dHide ((dUnhide Q1).below (ha _ (.cells #[.int .i64 0, .int .i64 0, .slice none 0 0, .slice none 0 0, .bool false, .slice none 0 0] 30))))
                (try replace Q2 := dHide ((dUnhide Q2).below (ha _ (.cells #[.int .i64 0, .int .i64 0, .slice none 0 0, .slice none 0 0, .bool false, .slice none 0 0] 30))))
                (try replace Q5 := dHide ((dUnhide Q5).below (ha _ (.cells #[.int .i64 0, .int .i64 0, .slice none 0 0, .slice none 0 0, .bool false, .slice none 0 0] 30))))
                replace hcur := hcur.alloc hcur.size (.cells #[.int .i64 0, .int .i64 0, .slice none 0 0, .slice none 0 0, .bool false, .slice none 0 0] 30)
                first | generalize w5.alloc (.cells #[.int .i64 0, .int .i64 0, .slice none 0 0, .slice none 0 0, .bool false, .slice none 0 0] 30) = wa at * | generalize wq2.alloc (.cells #[.int .i64 0, .int .i64 0, .slice none 0 0, .slice none 0 0, .bool false, .slice none 0 0] 30) = wa at * | generalize wq1.alloc (.cells #[.int .i64 0, .int .i64 0, .slice none 0 0, .slice none 0 0, .bool false, .slice none 0 0] 30) = wa at * | generalize wq0.alloc (.cells #[.int .i64 0, .int .i64 0, .slice none 0 0, .slice none 0 0, .bool false, .slice none 0 0] 30) = wa at * | generalize wd.alloc (.cells #[.int .i64 0, .int .i64 0, .slice none 0 0, .slice none 0 0, .bool false, .slice none 0 0] 30) = wa at * | fail
                refine hK.out _ _ (by first | exact dUnhide HC _ hcur | exact dUnhide HC _ hst | exact dUnhide HC _ hbr | fail) (fun hHeld => ?_)
                clear hK K
                try simp only [Act.put, List.setIfInBounds_toArray, List.set_cons_zero, List.set_cons_succ]
                refine wpAnyH_ready (rs := [6]) (by kernel_rfl) (by simp) ?_
                refine AllReadyH.cons (o := { dst := some 126, op := Op.call { callee := Callee.value (Operand.func 32), args := #[Operand.tmp 125], argTypes := #[52] }, type := 27, pos := "exact.go:3310", after := #[{ on := 5, ground := Ground.data }, { on := 3, ground := Ground.chain }], guard := none }) rfl (fun K hK => ?_) AllReadyH.nil
                go_simp
                refine (toEntryS_ _ m3 _ hs3 (dUnhide A3 _ (belowThen B hcur))).mono ?_
                rintro e wq2 ⟨o2, rfl, q2, b2⟩
                replace hcur := belowThen hcur b2
                (try replace zz := BxZ.below zz b2)
                replace Q0 := dHide ((dUnhide Q0).below b2)
                replace Q1 := dHide ((dUnhide Q1).below b2)
                have Q2 := dHide q2
                obtain ⟨o2a, o2c, rfl, o2l⟩ := formEntryS q2.now.rd
                clear q2 b2
                (try go_wp2_with fail)
                refine hK.out _ _ (by first | exact dUnhide HC _ hcur | exact dUnhide HC _ hst | exact dUnhide HC _ hbr | fail) (fun hHeld => ?_)
                clear hK K
                try simp only [Act.put, List.setIfInBounds_toArray, List.set_cons_zero, List.set_cons_succ]
                refine wpAnyH_ready (rs := [7]) (by kernel_rfl) (by simp) ?_
                refine AllReadyH.cons (o := { dst := some 127, op := Op.call { callee := Callee.value (Operand.func 10), args := #[Operand.tmp 121, Operand.tmp 123, Operand.tmp 124, Operand.tmp 126], argTypes := #[26, 30, 3, 27] }, type := 33, pos := "exact.go:3310", after := #[{ on := 1, ground := Ground.data }, { on := 3, ground := Ground.data }, { on := 4, ground := Ground.data }, { on := 6, ground := Ground.data }, { on := 6, ground := Ground.chain }], guard := none }) rfl (fun K hK => ?_) AllReadyH.nil
                go_simp
                (try have hlo := BxZ.lt zz)
                have hcz := hcur.size
                refine (dUnhide CI _ _ _ _ (dUnhide Q0).now.rd (dUnhide Q1).now.rd (dUnhide Q2).now.rd).mono ?_
                rintro e w5 ⟨u5, rfl, q5, b5⟩
                replace hcur := belowThen hcur b5
                (try replace zz := BxZ.below zz b5)
                have Q5 := dHide q5
                obtain ⟨o5sa, o5sc, o5ea, o5ec, o5wa, o5wc, rfl, o5l1, o5l2, o5l3⟩ := formMend q5.now.rd
                clear q5 b5 Q0 Q1 Q2
                (try go_wp2_with fail)
                refine hK.out _ _ (by first | exact dUnhide HC _ hcur | exact dUnhide HC _ hst | exact dUnhide HC _ hbr | fail) (fun hHeld => ?_)
                clear hK K
                try simp only [Act.put, List.setIfInBounds_toArray, List.set_cons_zero, List.set_cons_succ]
                refine wpAnyH_take (i := 8) (oi := { dst := some 119, op := Op.move (Operand.tmp 127), type := 33, pos := "exact.go:3310", after := #[{ on := 7, ground := Ground.data }], guard := none }) (v := ?_) rfl (by kernel_rfl) (by kernel_rfl) (by kernel_rfl) (fun _ _ _ h => h) (Or.inl ⟨by rfl, ?_⟩) (by assumption) ?_
                rotate_left 1
                · intro w hSw
                  (try dsimp only at hSw)
                  first | (go_simp; done) | (go_simp; with_reducible rfl)
                try simp only [Act.put, List.setIfInBounds_toArray, List.set_cons_zero, List.set_cons_succ]
                refine wpAnyH_take (i := 9) (oi := { dst := some 128, op := Op.extract (Operand.tmp 119) 0, type := 30, pos := "exact.go:3310", after := #[{ on := 8, ground := Ground.data }], guard := none }) (v := ?_) rfl (by kernel_rfl) (by kernel_rfl) (by kernel_rfl) (fun _ _ _ h => h) (Or.inl ⟨by rfl, ?_⟩) (by assumption) ?_
                rotate_left 1
                · intro w hSw
                  (try dsimp only at hSw)
                  first | (go_simp; done) | (go_simp; with_reducible rfl)
                try simp only [Act.put, List.setIfInBounds_toArray, List.set_cons_zero, List.set_cons_succ]
                refine wpAnyH_take (i := 10) (oi := { dst := some 129, op := Op.extract (Operand.tmp 119) 1, type := 4, pos := "exact.go:3310", after := #[{ on := 8, ground := Ground.data }, { on := 12, ground := Ground.gcOnly Departure.lateStores }], guard := none }) (v := ?_) rfl (by kernel_rfl) (by kernel_rfl) (by kernel_rfl) (fun _ _ _ h => h) (Or.inl ⟨by rfl, ?_⟩) (by assumption) ?_
                rotate_left 1
                · intro w hSw
                  (try dsimp only at hSw)
                  first | (go_simp; done) | (go_simp; with_reducible rfl)
                try simp only [Act.put, List.setIfInBounds_toArray, List.set_cons_zero, List.set_cons_succ]
                refine wpAnyH_ready (rs := [12]) (by kernel_rfl) (by simp) ?_
                refine AllReadyH.cons (o := { dst := none, op := Op.store 30 (Operand.tmp 20) (Operand.tmp 128), type := 0, pos := "exact.go:3310", after := #[{ on := 11, ground := Ground.data }, { on := 9, ground := Ground.data }, { on := 7, ground := Ground.chain }, { on := 0, ground := Ground.phase }, { on := 1, ground := Ground.phase }, { on := 2, ground := Ground.phase }, { on := 3, ground := Ground.phase }, { on := 4, ground := Ground.phase }, { on := 5, ground := Ground.phase }, { on := 6, ground := Ground.phase }, { on := 7, ground := Ground.phase }, { on := 8, ground := Ground.phase }, { on := 9, ground := Ground.phase }, { on := 10, ground := Ground.textOnly Departure.lateStores }, { on := 11, ground := Ground.phase }], guard := none }) rfl (fun K hK => ?_) AllReadyH.nil
                obtain ⟨z0, y0⟩ := zz.2 0 _ rfl
                obtain ⟨z1, y1⟩ := zz.2 1 _ rfl
                obtain ⟨z2, y2⟩ := zz.2 2 _ rfl
                obtain ⟨z3, y3⟩ := zz.2 3 _ rfl
                obtain ⟨z4, y4⟩ := zz.2 4 _ rfl
                obtain ⟨z5, y5⟩ := zz.2 5 _ rfl
                go_simp
                have hst := below_six hcur zz.1 (.int .i64 R.bye) (.int .i64 R.epoch) (.slice o5sa R.sealed.length o5sc) (.slice o5ea R.seen.length o5ec) (.bool R.planned) (.slice o5wa R.wrote.length o5wc)
                clear hcur z0 y0 z1 y1 z2 y2 z3 y3 z4 y4 z5 y5
                refine hK.out _ _ (by first | exact dUnhide HC _ hcur | exact dUnhide HC _ hst | exact dUnhide HC _ hbr | fail) (fun hHeld => ?_)
                clear hK K
                try simp only [Act.put, List.setIfInBounds_toArray, List.set_cons_zero, List.set_cons_succ]
                refine wpAnyH_take (i := 13) (oi := { dst := some 21, op := Op.assign (Operand.tmp 129), type := 4, pos := "exact.go:3310", after := #[{ on := 10, ground := Ground.data }, { on := 12, ground := Ground.chain }, { on := 0, ground := Ground.phase }, { on := 1, ground := Ground.phase }, { on := 2, ground := Ground.phase }, { on := 3, ground := Ground.phase }, { on := 4, ground := Ground.phase }, { on := 5, ground := Ground.phase }, { on := 6, ground := Ground.phase }, { on := 7, ground := Ground.phase }, { on := 8, ground := Ground.phase }, { on := 9, ground := Ground.phase }, { on := 10, ground := Ground.phase }, { on := 11, ground := Ground.phase }, { on := 12, ground := Ground.phase }], guard := none }) (v := ?_) rfl (by kernel_rfl) (by kernel_rfl) (by kernel_rfl) (fun _ _ _ h => h) (Or.inl ⟨by rfl, ?_⟩) (by assumption) ?_
                rotate_left 1
                · intro w hSw
                  (try dsimp only at hSw)
                  first | (go_simp; done) | (go_simp; with_reducible rfl)
                try simp only [Act.put, List.setIfInBounds_toArray, List.set_cons_zero, List.set_cons_succ]
                refine wpAnyH_done (by kernel_rfl) ?_ _
                refine NoPanic.normal ?_
                go_wp2_with fail
                go_meet
                case rel => first | exact ⟨_, _, _, _, _, _, _, _, _, rfl, rfl, ((((((zz.put 0 (.int .i64 R.bye)).put 1 (.int .i64 R.epoch)).put 2 (.slice o5sa R.sealed.length o5sc)).put 3 (.slice o5ea R.seen.length o5ec)).put 4 (.bool R.planned)).put 5 (.slice o5wa R.wrote.length o5wc)).bx.sits, ((((((dUnhide Q5).setFar (.inl hlo) (.int .i64 R.bye)).setFar (.inl hlo) (.int .i64 R.epoch)).setFar (.inl hlo) (.slice o5sa R.sealed.length o5sc)).setFar (.inl hlo) (.slice o5ea R.seen.length o5ec)).setFar (.inl hlo) (.bool R.planned)).setFar (.inl hlo) (.slice o5wa R.wrote.length o5wc), (.inl hlo), zz.1, hcz, hst⟩ | exact ⟨_, _, _, _, _, _, _, _, _, rfl, rfl, ((((((zz.put 0 (.int .i64 R.bye)).put 1 (.int .i64 R.epoch)).put 2 (.slice o5sa R.sealed.length o5sc)).put 3 (.slice o5ea R.seen.length o5ec)).put 4 (.bool R.planned)).put 5 (.slice o5wa R.wrote.length o5wc)).bx.sits, ((((((dUnhide Q5).setFar (.inr (Nat.le_refl _)) (.int .i64 R.bye)).setFar (.inr (Nat.le_refl _)) (.int .i64 R.epoch)).setFar (.inr (Nat.le_refl _)) (.slice o5sa R.sealed.length o5sc)).setFar (.inr (Nat.le_refl _)) (.slice o5ea R.seen.length o5ec)).setFar (.inr (Nat.le_refl _)) (.bool R.planned)).setFar (.inr (Nat.le_refl _)) (.slice o5wa R.wrote.length o5wc), (.inr (Nat.le_refl _)), zz.1, hcz, hst⟩
            · go_simp
              have zz := BxZ.new (B := w204.heap.size) _ [.int .i64 0, .int .i64 0, .slice none 0 0, .slice none 0 0, .bool false, .slice none 0 0] 30 hcur.size
              (try replace Q0 := dHide ((dUnhide Q0).below (ha _ (.cells #[.int .i64 0, .int .i64 0, .slice none 0 0, .slice none 0 0, .bool false, .slice none 0 0] 30))))
              (try replace Q1 := dHide ((dUnhide Q1).below (ha _ (.cells #[.int .i64 0, .int .i64 0, .slice none 0 0, .slice none 0 0, .bool false, .slice none 0 0] 30))))
              (try replace Q2 := dHide ((dUnhide Q2).below (ha _ (.cells #[.int .i64 0, .int .i64 0, .slice none 0 0, .slice none 0 0, .bool false, .slice none 0 0] 30))))
              (try replace Q5 := dHide ((dUnhide Q5).below (ha _ (.cells #[.int .i64 0, .int .i64 0, .slice none 0 0, .slice none 0 0, .bool false, .slice none 0 0] 30))))
              replace hcur := hcur.alloc hcur.size (.cells #[.int .i64 0, .int .i64 0, .slice none 0 0, .slice none 0 0, .bool false, .slice none 0 0] 30)
              first | generalize w5.alloc (.cells #[.int .i64 0, .int .i64 0, .slice none 0 0, .slice none 0 0, .bool false, .slice none 0 0] 30) = wa at * | generalize wq2.alloc (.cells #[.int .i64 0, .int .i64 0, .slice none 0 0, .slice none 0 0, .bool false, .slice none 0 0] 30) = wa at * | generalize wq1.alloc (.cells #[.int .i64 0, .int .i64 0, .slice none 0 0, .slice none 0 0, .bool false, .slice none 0 0] 30) = wa at * | generalize wq0.alloc (.cells #[.int .i64 0, .int .i64 0, .slice none 0 0, .slice none 0 0, .bool false, .slice none 0 0] 30) = wa at * | generalize wd.alloc (.cells #[.int .i64 0, .int .i64 0, .slice none 0 0, .slice none 0 0, .bool false, .slice none 0 0] 30) = wa at * | fail
              refine hK.out _ _ (by first | exact dUnhide HC _ hcur | exact dUnhide HC _ hst | exact dUnhide HC _ hbr | fail) (fun hHeld => ?_)
              clear hK K
              try simp only [Act.put, List.setIfInBounds_toArray, List.set_cons_zero, List.set_cons_succ]
              refine wpAnyH_ready (rs := [3]) (by kernel_rfl) (by simp) ?_
              refine AllReadyH.cons (o := { dst := some 123, op := Op.call { callee := Callee.value (Operand.func 31), args := #[Operand.tmp 122], argTypes := #[54] }, type := 30, pos := "exact.go:3310", after := #[{ on := 2, ground := Ground.data }, { on := 1, ground := Ground.chain }], guard := none }) rfl (fun K hK => ?_) AllReadyH.nil
              go_simp
              refine (toMend_ _ m1 _ hs1 (dUnhide A1 _ (belowThen B hcur))).mono ?_
              rintro e wq1 ⟨o1, rfl, q1, b1⟩
              replace hcur := belowThen hcur b1
              (try replace zz := BxZ.below zz b1)
              replace Q0 := dHide ((dUnhide Q0).below b1)
              have Q1 := dHide q1
              obtain ⟨o1sa, o1sc, o1ea, o1ec, o1wa, o1wc, rfl, o1l1, o1l2, o1l3⟩ := formMend q1.now.rd
              clear q1 b1
              (try go_wp2_with fail)
              refine hK.out _ _ (by first | exact dUnhide HC _ hcur | exact dUnhide HC _ hst | exact dUnhide HC _ hbr | fail) (fun hHeld => ?_)
              clear hK K
              try simp only [Act.put, List.setIfInBounds_toArray, List.set_cons_zero, List.set_cons_succ]
              refine wpAnyH_ready (rs := [6]) (by kernel_rfl) (by simp) ?_
              refine AllReadyH.cons (o := { dst := some 126, op := Op.call { callee := Callee.value (Operand.func 32), args := #[Operand.tmp 125], argTypes := #[52] }, type := 27, pos := "exact.go:3310", after := #[{ on := 5, ground := Ground.data }, { on := 3, ground := Ground.chain }], guard := none }) rfl (fun K hK => ?_) AllReadyH.nil
              go_simp
              refine (toEntryS_ _ m3 _ hs3 (dUnhide A3 _ (belowThen B hcur))).mono ?_
              rintro e wq2 ⟨o2, rfl, q2, b2⟩
              replace hcur := belowThen hcur b2
              (try replace zz := BxZ.below zz b2)
              replace Q0 := dHide ((dUnhide Q0).below b2)
              replace Q1 := dHide ((dUnhide Q1).below b2)
              have Q2 := dHide q2
              obtain ⟨o2a, o2c, rfl, o2l⟩ := formEntryS q2.now.rd
              clear q2 b2
              (try go_wp2_with fail)
              refine hK.out _ _ (by first | exact dUnhide HC _ hcur | exact dUnhide HC _ hst | exact dUnhide HC _ hbr | fail) (fun hHeld => ?_)
              clear hK K
              try simp only [Act.put, List.setIfInBounds_toArray, List.set_cons_zero, List.set_cons_succ]
              refine wpAnyH_ready (rs := [7]) (by kernel_rfl) (by simp) ?_
              refine AllReadyH.cons (o := { dst := some 127, op := Op.call { callee := Callee.value (Operand.func 10), args := #[Operand.tmp 121, Operand.tmp 123, Operand.tmp 124, Operand.tmp 126], argTypes := #[26, 30, 3, 27] }, type := 33, pos := "exact.go:3310", after := #[{ on := 1, ground := Ground.data }, { on := 3, ground := Ground.data }, { on := 4, ground := Ground.data }, { on := 6, ground := Ground.data }, { on := 6, ground := Ground.chain }], guard := none }) rfl (fun K hK => ?_) AllReadyH.nil
              go_simp
              (try have hlo := BxZ.lt zz)
              have hcz := hcur.size
              refine (dUnhide CI _ _ _ _ (dUnhide Q0).now.rd (dUnhide Q1).now.rd (dUnhide Q2).now.rd).mono ?_
              rintro e w5 ⟨u5, rfl, q5, b5⟩
              replace hcur := belowThen hcur b5
              (try replace zz := BxZ.below zz b5)
              have Q5 := dHide q5
              obtain ⟨o5sa, o5sc, o5ea, o5ec, o5wa, o5wc, rfl, o5l1, o5l2, o5l3⟩ := formMend q5.now.rd
              clear q5 b5 Q0 Q1 Q2
              (try go_wp2_with fail)
              refine hK.out _ _ (by first | exact dUnhide HC _ hcur | exact dUnhide HC _ hst | exact dUnhide HC _ hbr | fail) (fun hHeld => ?_)
              clear hK K
              try simp only [Act.put, List.setIfInBounds_toArray, List.set_cons_zero, List.set_cons_succ]
              refine wpAnyH_take (i := 8) (oi := { dst := some 119, op := Op.move (Operand.tmp 127), type := 33, pos := "exact.go:3310", after := #[{ on := 7, ground := Ground.data }], guard := none }) (v := ?_) rfl (by kernel_rfl) (by kernel_rfl) (by kernel_rfl) (fun _ _ _ h => h) (Or.inl ⟨by rfl, ?_⟩) (by assumption) ?_
              rotate_left 1
              · intro w hSw
                (try dsimp only at hSw)
                first | (go_simp; done) | (go_simp; with_reducible rfl)
              try simp only [Act.put, List.setIfInBounds_toArray, List.set_cons_zero, List.set_cons_succ]
              refine wpAnyH_take (i := 9) (oi := { dst := some 128, op := Op.extract (Operand.tmp 119) 0, type := 30, pos := "exact.go:3310", after := #[{ on := 8, ground := Ground.data }], guard := none }) (v := ?_) rfl (by kernel_rfl) (by kernel_rfl) (by kernel_rfl) (fun _ _ _ h => h) (Or.inl ⟨by rfl, ?_⟩) (by assumption) ?_
              rotate_left 1
              · intro w hSw
                (try dsimp only at hSw)
                first | (go_simp; done) | (go_simp; with_reducible rfl)
              try simp only [Act.put, List.setIfInBounds_toArray, List.set_cons_zero, List.set_cons_succ]
              refine wpAnyH_take (i := 10) (oi := { dst := some 129, op := Op.extract (Operand.tmp 119) 1, type := 4, pos := "exact.go:3310", after := #[{ on := 8, ground := Ground.data }, { on := 12, ground := Ground.gcOnly Departure.lateStores }], guard := none }) (v := ?_) rfl (by kernel_rfl) (by kernel_rfl) (by kernel_rfl) (fun _ _ _ h => h) (Or.inl ⟨by rfl, ?_⟩) (by assumption) ?_
              rotate_left 1
              · intro w hSw
                (try dsimp only at hSw)
                first | (go_simp; done) | (go_simp; with_reducible rfl)
              try simp only [Act.put, List.setIfInBounds_toArray, List.set_cons_zero, List.set_cons_succ]
              refine wpAnyH_ready (rs := [12]) (by kernel_rfl) (by simp) ?_
              refine AllReadyH.cons (o := { dst := none, op := Op.store 30 (Operand.tmp 20) (Operand.tmp 128), type := 0, pos := "exact.go:3310", after := #[{ on := 11, ground := Ground.data }, { on := 9, ground := Ground.data }, { on := 7, ground := Ground.chain }, { on := 0, ground := Ground.phase }, { on := 1, ground := Ground.phase }, { on := 2, ground := Ground.phase }, { on := 3, ground := Ground.phase }, { on := 4, ground := Ground.phase }, { on := 5, ground := Ground.phase }, { on := 6, ground := Ground.phase }, { on := 7, ground := Ground.phase }, { on := 8, ground := Ground.phase }, { on := 9, ground := Ground.phase }, { on := 10, ground := Ground.textOnly Departure.lateStores }, { on := 11, ground := Ground.phase }], guard := none }) rfl (fun K hK => ?_) AllReadyH.nil
              obtain ⟨z0, y0⟩ := zz.2 0 _ rfl
              obtain ⟨z1, y1⟩ := zz.2 1 _ rfl
              obtain ⟨z2, y2⟩ := zz.2 2 _ rfl
              obtain ⟨z3, y3⟩ := zz.2 3 _ rfl
              obtain ⟨z4, y4⟩ := zz.2 4 _ rfl
              obtain ⟨z5, y5⟩ := zz.2 5 _ rfl
              go_simp
              have hst := below_six hcur zz.1 (.int .i64 R.bye) (.int .i64 R.epoch) (.slice o5sa R.sealed.length o5sc) (.slice o5ea R.seen.length o5ec) (.bool R.planned) (.slice o5wa R.wrote.length o5wc)
              clear hcur z0 y0 z1 y1 z2 y2 z3 y3 z4 y4 z5 y5
              refine hK.out _ _ (by first | exact dUnhide HC _ hcur | exact dUnhide HC _ hst | exact dUnhide HC _ hbr | fail) (fun hHeld => ?_)
              clear hK K
              try simp only [Act.put, List.setIfInBounds_toArray, List.set_cons_zero, List.set_cons_succ]
              refine wpAnyH_take (i := 13) (oi := { dst := some 21, op := Op.assign (Operand.tmp 129), type := 4, pos := "exact.go:3310", after := #[{ on := 10, ground := Ground.data }, { on := 12, ground := Ground.chain }, { on := 0, ground := Ground.phase }, { on := 1, ground := Ground.phase }, { on := 2, ground := Ground.phase }, { on := 3, ground := Ground.phase }, { on := 4, ground := Ground.phase }, { on := 5, ground := Ground.phase }, { on := 6, ground := Ground.phase }, { on := 7, ground := Ground.phase }, { on := 8, ground := Ground.phase }, { on := 9, ground := Ground.phase }, { on := 10, ground := Ground.phase }, { on := 11, ground := Ground.phase }, { on := 12, ground := Ground.phase }], guard := none }) (v := ?_) rfl (by kernel_rfl) (by kernel_rfl) (by kernel_rfl) (fun _ _ _ h => h) (Or.inl ⟨by rfl, ?_⟩) (by assumption) ?_
              rotate_left 1
              · intro w hSw
                (try dsimp only at hSw)
                first | (go_simp; done) | (go_simp; with_reducible rfl)
              try simp only [Act.put, List.setIfInBounds_toArray, List.set_cons_zero, List.set_cons_succ]
              refine wpAnyH_done (by kernel_rfl) ?_ _
              refine NoPanic.normal ?_
              go_wp2_with fail
              go_meet
              case rel => first | exact ⟨_, _, _, _, _, _, _, _, _, rfl, rfl, ((((((zz.put 0 (.int .i64 R.bye)).put 1 (.int .i64 R.epoch)).put 2 (.slice o5sa R.sealed.length o5sc)).put 3 (.slice o5ea R.seen.length o5ec)).put 4 (.bool R.planned)).put 5 (.slice o5wa R.wrote.length o5wc)).bx.sits, ((((((dUnhide Q5).setFar (.inl hlo) (.int .i64 R.bye)).setFar (.inl hlo) (.int .i64 R.epoch)).setFar (.inl hlo) (.slice o5sa R.sealed.length o5sc)).setFar (.inl hlo) (.slice o5ea R.seen.length o5ec)).setFar (.inl hlo) (.bool R.planned)).setFar (.inl hlo) (.slice o5wa R.wrote.length o5wc), (.inl hlo), zz.1, hcz, hst⟩ | exact ⟨_, _, _, _, _, _, _, _, _, rfl, rfl, ((((((zz.put 0 (.int .i64 R.bye)).put 1 (.int .i64 R.epoch)).put 2 (.slice o5sa R.sealed.length o5sc)).put 3 (.slice o5ea R.seen.length o5ec)).put 4 (.bool R.planned)).put 5 (.slice o5wa R.wrote.length o5wc)).bx.sits, ((((((dUnhide Q5).setFar (.inr (Nat.le_refl _)) (.int .i64 R.bye)).setFar (.inr (Nat.le_refl _)) (.int .i64 R.epoch)).setFar (.inr (Nat.le_refl _)) (.slice o5sa R.sealed.length o5sc)).setFar (.inr (Nat.le_refl _)) (.slice o5ea R.seen.length o5ec)).setFar (.inr (Nat.le_refl _)) (.bool R.planned)).setFar (.inr (Nat.le_refl _)) (.slice o5wa R.wrote.length o5wc), (.inr (Nat.le_refl _)), zz.1, hcz, hst⟩
          · go_simp
            have zz := BxZ.new (B := w204.heap.size) _ [.int .i64 0, .int .i64 0, .slice none 0 0, .slice none 0 0, .bool false, .slice none 0 0] 30 hcur.size
            (try replace Q0 := dHide ((dUnhide Q0).below (ha _ (.cells #[.int .i64 0, .int .i64 0, .slice none 0 0, .slice none 0 0, .bool false, .slice none 0 0] 30))))
            (try replace Q1 := dHide ((dUnhide Q1).below (ha _ (.cells #[.int .i64 0, .int .i64 0, .slice none 0 0, .slice none 0 0, .bool false, .slice none 0 0] 30))))
            (try replace Q2 := dHide ((dUnhide Q2).below (ha _ (.cells #[.int .i64 0, .int .i64 0, .slice none 0 0, .slice none 0 0, .bool false, .slice none 0 0] 30))))
            (try replace Q5 := dHide ((dUnhide Q5).below (ha _ (.cells #[.int .i64 0, .int .i64 0, .slice none 0 0, .slice none 0 0, .bool false, .slice none 0 0] 30))))
            replace hcur := hcur.alloc hcur.size (.cells #[.int .i64 0, .int .i64 0, .slice none 0 0, .slice none 0 0, .bool false, .slice none 0 0] 30)
            first | generalize w5.alloc (.cells #[.int .i64 0, .int .i64 0, .slice none 0 0, .slice none 0 0, .bool false, .slice none 0 0] 30) = wa at * | generalize wq2.alloc (.cells #[.int .i64 0, .int .i64 0, .slice none 0 0, .slice none 0 0, .bool false, .slice none 0 0] 30) = wa at * | generalize wq1.alloc (.cells #[.int .i64 0, .int .i64 0, .slice none 0 0, .slice none 0 0, .bool false, .slice none 0 0] 30) = wa at * | generalize wq0.alloc (.cells #[.int .i64 0, .int .i64 0, .slice none 0 0, .slice none 0 0, .bool false, .slice none 0 0] 30) = wa at * | generalize wd.alloc (.cells #[.int .i64 0, .int .i64 0, .slice none 0 0, .slice none 0 0, .bool false, .slice none 0 0] 30) = wa at * | fail
            refine hK.out _ _ (by first | exact dUnhide HC _ hcur | exact dUnhide HC _ hst | exact dUnhide HC _ hbr | fail) (fun hHeld => ?_)
            clear hK K
            try simp only [Act.put, List.setIfInBounds_toArray, List.set_cons_zero, List.set_cons_succ]
            refine wpAnyH_ready (rs := [1]) (by kernel_rfl) (by simp) ?_
            refine AllReadyH.cons (o := { dst := some 121, op := Op.call { callee := Callee.value (Operand.func 30), args := #[Operand.tmp 120], argTypes := #[51] }, type := 26, pos := "exact.go:3310", after := #[{ on := 0, ground := Ground.data }], guard := none }) rfl (fun K hK => ?_) AllReadyH.nil
            go_simp
            refine (toConfig_ _ m0 _ hs0 (dUnhide A0 _ (belowThen B hcur))).mono ?_
            rintro e wq0 ⟨o0, rfl, q0, b0⟩
            replace hcur := belowThen hcur b0
            (try replace zz := BxZ.below zz b0)
            have Q0 := dHide q0
            obtain ⟨o0a, o0c, rfl, o0l⟩ := formConfig q0.now.rd
            clear q0 b0
            (try go_wp2_with fail)
            refine hK.out _ _ (by first | exact dUnhide HC _ hcur | exact dUnhide HC _ hst | exact dUnhide HC _ hbr | fail) (fun hHeld => ?_)
            clear hK K
            try simp only [Act.put, List.setIfInBounds_toArray, List.set_cons_zero, List.set_cons_succ]
            refine wpAnyH_ready (rs := [3]) (by kernel_rfl) (by simp) ?_
            refine AllReadyH.cons (o := { dst := some 123, op := Op.call { callee := Callee.value (Operand.func 31), args := #[Operand.tmp 122], argTypes := #[54] }, type := 30, pos := "exact.go:3310", after := #[{ on := 2, ground := Ground.data }, { on := 1, ground := Ground.chain }], guard := none }) rfl (fun K hK => ?_) AllReadyH.nil
            go_simp
            refine (toMend_ _ m1 _ hs1 (dUnhide A1 _ (belowThen B hcur))).mono ?_
            rintro e wq1 ⟨o1, rfl, q1, b1⟩
            replace hcur := belowThen hcur b1
            (try replace zz := BxZ.below zz b1)
            replace Q0 := dHide ((dUnhide Q0).below b1)
            have Q1 := dHide q1
            obtain ⟨o1sa, o1sc, o1ea, o1ec, o1wa, o1wc, rfl, o1l1, o1l2, o1l3⟩ := formMend q1.now.rd
            clear q1 b1
            (try go_wp2_with fail)
            refine hK.out _ _ (by first | exact dUnhide HC _ hcur | exact dUnhide HC _ hst | exact dUnhide HC _ hbr | fail) (fun hHeld => ?_)
            clear hK K
            try simp only [Act.put, List.setIfInBounds_toArray, List.set_cons_zero, List.set_cons_succ]
            refine wpAnyH_ready (rs := [6]) (by kernel_rfl) (by simp) ?_
            refine AllReadyH.cons (o := { dst := some 126, op := Op.call { callee := Callee.value (Operand.func 32), args := #[Operand.tmp 125], argTypes := #[52] }, type := 27, pos := "exact.go:3310", after := #[{ on := 5, ground := Ground.data }, { on := 3, ground := Ground.chain }], guard := none }) rfl (fun K hK => ?_) AllReadyH.nil
            go_simp
            refine (toEntryS_ _ m3 _ hs3 (dUnhide A3 _ (belowThen B hcur))).mono ?_
            rintro e wq2 ⟨o2, rfl, q2, b2⟩
            replace hcur := belowThen hcur b2
            (try replace zz := BxZ.below zz b2)
            replace Q0 := dHide ((dUnhide Q0).below b2)
            replace Q1 := dHide ((dUnhide Q1).below b2)
            have Q2 := dHide q2
            obtain ⟨o2a, o2c, rfl, o2l⟩ := formEntryS q2.now.rd
            clear q2 b2
            (try go_wp2_with fail)
            refine hK.out _ _ (by first | exact dUnhide HC _ hcur | exact dUnhide HC _ hst | exact dUnhide HC _ hbr | fail) (fun hHeld => ?_)
            clear hK K
            try simp only [Act.put, List.setIfInBounds_toArray, List.set_cons_zero, List.set_cons_succ]
            refine wpAnyH_ready (rs := [7]) (by kernel_rfl) (by simp) ?_
            refine AllReadyH.cons (o := { dst := some 127, op := Op.call { callee := Callee.value (Operand.func 10), args := #[Operand.tmp 121, Operand.tmp 123, Operand.tmp 124, Operand.tmp 126], argTypes := #[26, 30, 3, 27] }, type := 33, pos := "exact.go:3310", after := #[{ on := 1, ground := Ground.data }, { on := 3, ground := Ground.data }, { on := 4, ground := Ground.data }, { on := 6, ground := Ground.data }, { on := 6, ground := Ground.chain }], guard := none }) rfl (fun K hK => ?_) AllReadyH.nil
            go_simp
            (try have hlo := BxZ.lt zz)
            have hcz := hcur.size
            refine (dUnhide CI _ _ _ _ (dUnhide Q0).now.rd (dUnhide Q1).now.rd (dUnhide Q2).now.rd).mono ?_
            rintro e w5 ⟨u5, rfl, q5, b5⟩
            replace hcur := belowThen hcur b5
            (try replace zz := BxZ.below zz b5)
            have Q5 := dHide q5
            obtain ⟨o5sa, o5sc, o5ea, o5ec, o5wa, o5wc, rfl, o5l1, o5l2, o5l3⟩ := formMend q5.now.rd
            clear q5 b5 Q0 Q1 Q2
            (try go_wp2_with fail)
            refine hK.out _ _ (by first | exact dUnhide HC _ hcur | exact dUnhide HC _ hst | exact dUnhide HC _ hbr | fail) (fun hHeld => ?_)
            clear hK K
            try simp only [Act.put, List.setIfInBounds_toArray, List.set_cons_zero, List.set_cons_succ]
            refine wpAnyH_take (i := 8) (oi := { dst := some 119, op := Op.move (Operand.tmp 127), type := 33, pos := "exact.go:3310", after := #[{ on := 7, ground := Ground.data }], guard := none }) (v := ?_) rfl (by kernel_rfl) (by kernel_rfl) (by kernel_rfl) (fun _ _ _ h => h) (Or.inl ⟨by rfl, ?_⟩) (by assumption) ?_
            rotate_left 1
            · intro w hSw
              (try dsimp only at hSw)
              first | (go_simp; done) | (go_simp; with_reducible rfl)
            try simp only [Act.put, List.setIfInBounds_toArray, List.set_cons_zero, List.set_cons_succ]
            refine wpAnyH_take (i := 9) (oi := { dst := some 128, op := Op.extract (Operand.tmp 119) 0, type := 30, pos := "exact.go:3310", after := #[{ on := 8, ground := Ground.data }], guard := none }) (v := ?_) rfl (by kernel_rfl) (by kernel_rfl) (by kernel_rfl) (fun _ _ _ h => h) (Or.inl ⟨by rfl, ?_⟩) (by assumption) ?_
            rotate_left 1
            · intro w hSw
              (try dsimp only at hSw)
              first | (go_simp; done) | (go_simp; with_reducible rfl)
            try simp only [Act.put, List.setIfInBounds_toArray, List.set_cons_zero, List.set_cons_succ]
            refine wpAnyH_take (i := 10) (oi := { dst := some 129, op := Op.extract (Operand.tmp 119) 1, type := 4, pos := "exact.go:3310", after := #[{ on := 8, ground := Ground.data }, { on := 12, ground := Ground.gcOnly Departure.lateStores }], guard := none }) (v := ?_) rfl (by kernel_rfl) (by kernel_rfl) (by kernel_rfl) (fun _ _ _ h => h) (Or.inl ⟨by rfl, ?_⟩) (by assumption) ?_
            rotate_left 1
            · intro w hSw
              (try dsimp only at hSw)
              first | (go_simp; done) | (go_simp; with_reducible rfl)
            try simp only [Act.put, List.setIfInBounds_toArray, List.set_cons_zero, List.set_cons_succ]
            refine wpAnyH_ready (rs := [12]) (by kernel_rfl) (by simp) ?_
            refine AllReadyH.cons (o := { dst := none, op := Op.store 30 (Operand.tmp 20) (Operand.tmp 128), type := 0, pos := "exact.go:3310", after := #[{ on := 11, ground := Ground.data }, { on := 9, ground := Ground.data }, { on := 7, ground := Ground.chain }, { on := 0, ground := Ground.phase }, { on := 1, ground := Ground.phase }, { on := 2, ground := Ground.phase }, { on := 3, ground := Ground.phase }, { on := 4, ground := Ground.phase }, { on := 5, ground := Ground.phase }, { on := 6, ground := Ground.phase }, { on := 7, ground := Ground.phase }, { on := 8, ground := Ground.phase }, { on := 9, ground := Ground.phase }, { on := 10, ground := Ground.textOnly Departure.lateStores }, { on := 11, ground := Ground.phase }], guard := none }) rfl (fun K hK => ?_) AllReadyH.nil
            obtain ⟨z0, y0⟩ := zz.2 0 _ rfl
            obtain ⟨z1, y1⟩ := zz.2 1 _ rfl
            obtain ⟨z2, y2⟩ := zz.2 2 _ rfl
            obtain ⟨z3, y3⟩ := zz.2 3 _ rfl
            obtain ⟨z4, y4⟩ := zz.2 4 _ rfl
            obtain ⟨z5, y5⟩ := zz.2 5 _ rfl
            go_simp
            have hst := below_six hcur zz.1 (.int .i64 R.bye) (.int .i64 R.epoch) (.slice o5sa R.sealed.length o5sc) (.slice o5ea R.seen.length o5ec) (.bool R.planned) (.slice o5wa R.wrote.length o5wc)
            clear hcur z0 y0 z1 y1 z2 y2 z3 y3 z4 y4 z5 y5
            refine hK.out _ _ (by first | exact dUnhide HC _ hcur | exact dUnhide HC _ hst | exact dUnhide HC _ hbr | fail) (fun hHeld => ?_)
            clear hK K
            try simp only [Act.put, List.setIfInBounds_toArray, List.set_cons_zero, List.set_cons_succ]
            refine wpAnyH_take (i := 13) (oi := { dst := some 21, op := Op.assign (Operand.tmp 129), type := 4, pos := "exact.go:3310", after := #[{ on := 10, ground := Ground.data }, { on := 12, ground := Ground.chain }, { on := 0, ground := Ground.phase }, { on := 1, ground := Ground.phase }, { on := 2, ground := Ground.phase }, { on := 3, ground := Ground.phase }, { on := 4, ground := Ground.phase }, { on := 5, ground := Ground.phase }, { on := 6, ground := Ground.phase }, { on := 7, ground := Ground.phase }, { on := 8, ground := Ground.phase }, { on := 9, ground := Ground.phase }, { on := 10, ground := Ground.phase }, { on := 11, ground := Ground.phase }, { on := 12, ground := Ground.phase }], guard := none }) (v := ?_) rfl (by kernel_rfl) (by kernel_rfl) (by kernel_rfl) (fun _ _ _ h => h) (Or.inl ⟨by rfl, ?_⟩) (by assumption) ?_
            rotate_left 1
            · intro w hSw
              (try dsimp only at hSw)
              first | (go_simp; done) | (go_simp; with_reducible rfl)
            try simp only [Act.put, List.setIfInBounds_toArray, List.set_cons_zero, List.set_cons_succ]
            refine wpAnyH_done (by kernel_rfl) ?_ _
            refine NoPanic.normal ?_
            go_wp2_with fail
            go_meet
            case rel => first | exact ⟨_, _, _, _, _, _, _, _, _, rfl, rfl, ((((((zz.put 0 (.int .i64 R.bye)).put 1 (.int .i64 R.epoch)).put 2 (.slice o5sa R.sealed.length o5sc)).put 3 (.slice o5ea R.seen.length o5ec)).put 4 (.bool R.planned)).put 5 (.slice o5wa R.wrote.length o5wc)).bx.sits, ((((((dUnhide Q5).setFar (.inl hlo) (.int .i64 R.bye)).setFar (.inl hlo) (.int .i64 R.epoch)).setFar (.inl hlo) (.slice o5sa R.sealed.length o5sc)).setFar (.inl hlo) (.slice o5ea R.seen.length o5ec)).setFar (.inl hlo) (.bool R.planned)).setFar (.inl hlo) (.slice o5wa R.wrote.length o5wc), (.inl hlo), zz.1, hcz, hst⟩ | exact ⟨_, _, _, _, _, _, _, _, _, rfl, rfl, ((((((zz.put 0 (.int .i64 R.bye)).put 1 (.int .i64 R.epoch)).put 2 (.slice o5sa R.sealed.length o5sc)).put 3 (.slice o5ea R.seen.length o5ec)).put 4 (.bool R.planned)).put 5 (.slice o5wa R.wrote.length o5wc)).bx.sits, ((((((dUnhide Q5).setFar (.inr (Nat.le_refl _)) (.int .i64 R.bye)).setFar (.inr (Nat.le_refl _)) (.int .i64 R.epoch)).setFar (.inr (Nat.le_refl _)) (.slice o5sa R.sealed.length o5sc)).setFar (.inr (Nat.le_refl _)) (.slice o5ea R.seen.length o5ec)).setFar (.inr (Nat.le_refl _)) (.bool R.planned)).setFar (.inr (Nat.le_refl _)) (.slice o5wa R.wrote.length o5wc), (.inr (Nat.le_refl _)), zz.1, hcz, hst⟩
        case rest =>
          obtain ⟨bX209, lod208, hid208, uhsa, uhsc, uhea, uhec, uhwa, uhwc, rfl, rfl, X209, OH, dd208, gd208, id208, bc⟩ := hcut
          clear kd2080 kd2081 kd2082 kd2083 kd2084 kd2085 kd2086 kd2087 HC hbr
          have sz210 := dHide bc.size
          replace X0 := dHide ((dUnhide X0).below bc)
          replace X1 := dHide ((dUnhide X1).below bc)
          replace X11 := dHide ((dUnhide X11).below bc)
          replace OW := dHide ((dUnhide OW).below bc)
          replace X72 := dHide ((dUnhide X72).below bc)
          replace M196 := dHide ((dUnhide M196).below bc)
          replace B := belowThen B bc
          have sz211 := dHide dd208
          have sz212 := dHide gd208
          have sz213 := dHide id208
          have sz214 := dHide X209.fit
          have sz215 := dHide OH.fit
          replace X209 := dHide X209
          replace OH := dHide OH
          clear bc dd208 gd208 id208
          generalize wc = w207 at *
          have k216 := (dUnhide X209).now 0 _ rfl
          have k217 := (dUnhide X209).now 1 _ rfl
          have k218 := (dUnhide X209).now 2 _ rfl
          have k219 := (dUnhide X209).now 3 _ rfl
          have k220 := (dUnhide X209).now 4 _ rfl
          have k221 := (dUnhide X209).now 5 _ rfl
          have k222 := (dUnhide X11).now 0 _ rfl
          have k223 := (dUnhide X11).now 1 _ rfl
          have k224 := (dUnhide X11).now 2 _ rfl
          have k225 := (dUnhide X11).now 3 _ rfl
          have k226 := (dUnhide X11).now 4 _ rfl
          have k227 := (dUnhide X11).now 5 _ rfl
          go_wp2_with fail
          refine (eqMend_ _ _ _ _ (dUnhide OH).now.rd (dUnhide OW).now.rd).mono ?_
          rintro e w228 ⟨rfl, b229⟩
          clear k216 k217 k218 k219 k220 k221 k222 k223 k224 k225 k226 k227
          have sz230 := dHide b229.size
          replace X0 := dHide ((dUnhide X0).below b229)
          replace X1 := dHide ((dUnhide X1).below b229)
          replace X11 := dHide ((dUnhide X11).below b229)
          replace OW := dHide ((dUnhide OW).below b229)
          replace X72 := dHide ((dUnhide X72).below b229)
          replace M196 := dHide ((dUnhide M196).below b229)
          replace X209 := dHide ((dUnhide X209).below b229)
          replace OH := dHide ((dUnhide OH).below b229)
          replace B := belowThen B b229
          clear b229
          have k231 := (dUnhide X72).now 0 _ rfl
          have k232 := (dUnhide X72).now 1 _ rfl
          have k233 := (dUnhide X72).now 2 _ rfl
          have k234 := (dUnhide X72).now 3 _ rfl
          have k235 := (dUnhide X72).now 4 _ rfl
          have k236 := (dUnhide X72).now 5 _ rfl
          go_wp2_with fail
          refine (heldMend_ _ R 1 _ (by omega) (by omega) (dUnhide M196).now.rd).mono ?_
          rintro e w237 ⟨rfl, b238⟩
          clear k231 k232 k233 k234 k235 k236
          have sz239 := dHide b238.size
          replace X0 := dHide ((dUnhide X0).below b238)
          replace X1 := dHide ((dUnhide X1).below b238)
          replace X11 := dHide ((dUnhide X11).below b238)
          replace OW := dHide ((dUnhide OW).below b238)
          replace X72 := dHide ((dUnhide X72).below b238)
          replace M196 := dHide ((dUnhide M196).below b238)
          replace X209 := dHide ((dUnhide X209).below b238)
          replace OH := dHide ((dUnhide OH).below b238)
          replace B := belowThen B b238
          clear b238
          clear X0 X1 X11 OW X72 M196 X209 OH
          go_wp2
          go_ret
          exact ⟨rfl, B⟩
end Go.Proofs.YtjbfpmackocgnaaGreat
