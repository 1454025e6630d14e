/- DrawRest, DrawEnough. -/
import Derived.Test.YtgedaaknkhkegaaDrwF
namespace Go.Proofs.Ytgedaaknkhkegaa
open Go.ChangeShapes Go.WideShapes Go.ChangeAt Go.RowKit
set_option linter.unusedVariables false
set_option linter.unusedSimpArgs false

set_option maxHeartbeats 2000000 in
set_option maxRecDepth 100000 in
theorem drawRest_any (a : Option Addr) (len cap : Nat) (w : World) (hr : Row8 w a len) :
    Calls Try.prog 21 #[.slice a len cap] w fun e w' => DrewTwo w.heap.size w' e ∧ Below w.heap.size w w' := by
  have ha : ∀ (w : World) o, Below w.heap.size w (w.alloc o) := fun w o => (Below.refl _ _).alloc (Nat.le_refl _) o
  go_enter Try.func21, Try.ntmps21
  go_wp2_with fail
  have Z0 := TwoZ.fresh w (.slice none 0 0) (.int .i64 0) 26
  have B0 := ha w (.cells #[.slice none 0 0, .int .i64 0] 26)
  have hs0 : (w.alloc (.cells #[.slice none 0 0, .int .i64 0] 26)).heap.size = w.heap.size + 1 := by simp
  refine (l4DrawTwo_any a len cap _ (hr.below B0)).mono ?_
  rintro e w1 ⟨⟨c, u, v, ds, cop, xs, ys, rfl, C1, L1, M1⟩, b1⟩
  rw [hs0] at C1 L1 M1
  have Z1 := Z0.kept b1
  have B1 := belowThen B0 b1
  have hz1 := dCell_lt Z1.2.1.1
  have HC1 := dHide C1
  have HL1 := dHide L1
  have HM1 := dHide M1
  obtain ⟨sv, rfl, o1, -⟩ := C1
  obtain ⟨-, sa, scap, rfl, -, -⟩ := o1
  obtain ⟨⟨-, ua, ucap, rfl, -, -⟩, -⟩ := L1
  obtain ⟨⟨-, va, vcap, rfl, -, -⟩, -⟩ := M1
  have hbx : w.heap.size ≠ w1.heap.size := by omega
  obtain ⟨-, ⟨r0, r1⟩, g0, g1⟩ := id Z1
  clear Z0 B0 hs0 b1
  go_wp2
  have Z2 := (Z1.put0 (.slice sa ds.length scap)).put1 (.int .i64 cop)
  have C2 := ((dUnhide HC1).far (b := w.heap.size) (o := 0) (by omega) (.slice sa ds.length scap)).far (b := w.heap.size) (o := 1) (by omega) (.int .i64 cop)
  have L2 := ((dUnhide HL1).far (b := w.heap.size) (o := 0) (by omega) (.slice sa ds.length scap)).far (b := w.heap.size) (o := 1) (by omega) (.int .i64 cop)
  have M2 := ((dUnhide HM1).far (b := w.heap.size) (o := 0) (by omega) (.slice sa ds.length scap)).far (b := w.heap.size) (o := 1) (by omega) (.int .i64 cop)
  have B2 := (B1.setCell (p := ⟨w.heap.size, 0, none⟩) (Nat.le_refl _) (.slice sa ds.length scap)).setCell (p := ⟨w.heap.size, 1, none⟩) (Nat.le_refl _) (.int .i64 cop)
  clear r0 r1 g0 g1 Z1 HC1 HL1 HM1 B1
  generalize (w1.setCell ⟨w.heap.size, 0, none⟩ (.slice sa ds.length scap)).setCell ⟨w.heap.size, 1, none⟩ (.int .i64 cop) = w2 at *
  have ba := ha w2 (.cells #[.slice sa ds.length scap, .int .i64 cop] 26)
  obtain ⟨-, ⟨e0, e1⟩, -⟩ := Z2.kept ba
  have C3 := (C2.below ba).mono (B' := w.heap.size) (by omega)
  have L3 := (L2.below ba).mono (B' := w.heap.size) (by omega)
  have M3 := (M2.below ba).mono (B' := w.heap.size) (by omega)
  have B3 := belowThen B2 ba
  generalize w2.alloc (.cells #[.slice sa ds.length scap, .int .i64 cop] 26) = V at *
  refine bodyPost_ret (v := .tuple #[.agg #[.slice sa ds.length scap, .int .i64 cop], .slice ua xs.length ucap, .slice va ys.length vcap]) (by simp [results, Try.results21, go_sem, e0, e1]) rfl ⟨⟨_, _, _, _, _, _, _, rfl, C3, L3, M3⟩, B3⟩
set_option maxHeartbeats 2000000 in
set_option maxRecDepth 100000 in
theorem drawEnough_any (a : Option Addr) (len cap : Nat) (w : World) (hr : Row8 w a len) :
    Calls Try.prog 13 #[.slice a len cap] w fun e w' => DrewTwo w.heap.size w' e ∧ Below w.heap.size w w' := by
  have ha : ∀ (w : World) o, Below w.heap.size w (w.alloc o) := fun w o => (Below.refl _ _).alloc (Nat.le_refl _) o
  go_enter Try.func13, Try.ntmps13
  go_wp2_with fail
  have Z0 := TwoZ.fresh w (.slice none 0 0) (.int .i64 0) 26
  have B0 := ha w (.cells #[.slice none 0 0, .int .i64 0] 26)
  have hs0 : (w.alloc (.cells #[.slice none 0 0, .int .i64 0] 26)).heap.size = w.heap.size + 1 := by simp
  refine (l4DrawTwo_any a len cap _ (hr.below B0)).mono ?_
  rintro e w1 ⟨⟨c, u, v, ds, cop, xs, ys, rfl, C1, L1, M1⟩, b1⟩
  rw [hs0] at C1 L1 M1
  have Z1 := Z0.kept b1
  have B1 := belowThen B0 b1
  have hz1 := dCell_lt Z1.2.1.1
  have HC1 := dHide C1
  have HL1 := dHide L1
  have HM1 := dHide M1
  obtain ⟨sv, rfl, o1, -⟩ := C1
  obtain ⟨-, sa, scap, rfl, -, -⟩ := o1
  obtain ⟨⟨-, ua, ucap, rfl, -, -⟩, -⟩ := L1
  obtain ⟨⟨-, va, vcap, rfl, -, -⟩, -⟩ := M1
  have hbx : w.heap.size ≠ w1.heap.size := by omega
  obtain ⟨-, ⟨r0, r1⟩, g0, g1⟩ := id Z1
  clear Z0 B0 hs0 b1
  go_wp2
  have Z2 := (Z1.put0 (.slice sa ds.length scap)).put1 (.int .i64 cop)
  have C2 := ((dUnhide HC1).far (b := w.heap.size) (o := 0) (by omega) (.slice sa ds.length scap)).far (b := w.heap.size) (o := 1) (by omega) (.int .i64 cop)
  have L2 := ((dUnhide HL1).far (b := w.heap.size) (o := 0) (by omega) (.slice sa ds.length scap)).far (b := w.heap.size) (o := 1) (by omega) (.int .i64 cop)
  have M2 := ((dUnhide HM1).far (b := w.heap.size) (o := 0) (by omega) (.slice sa ds.length scap)).far (b := w.heap.size) (o := 1) (by omega) (.int .i64 cop)
  have B2 := (B1.setCell (p := ⟨w.heap.size, 0, none⟩) (Nat.le_refl _) (.slice sa ds.length scap)).setCell (p := ⟨w.heap.size, 1, none⟩) (Nat.le_refl _) (.int .i64 cop)
  clear r0 r1 g0 g1 Z1 HC1 HL1 HM1 B1
  generalize (w1.setCell ⟨w.heap.size, 0, none⟩ (.slice sa ds.length scap)).setCell ⟨w.heap.size, 1, none⟩ (.int .i64 cop) = w2 at *
  have ba := ha w2 (.cells #[.slice sa ds.length scap, .int .i64 cop] 26)
  obtain ⟨-, ⟨e0, e1⟩, -⟩ := Z2.kept ba
  have C3 := (C2.below ba).mono (B' := w.heap.size) (by omega)
  have L3 := (L2.below ba).mono (B' := w.heap.size) (by omega)
  have M3 := (M2.below ba).mono (B' := w.heap.size) (by omega)
  have B3 := belowThen B2 ba
  generalize w2.alloc (.cells #[.slice sa ds.length scap, .int .i64 cop] 26) = V at *
  refine bodyPost_ret (v := .tuple #[.agg #[.slice sa ds.length scap, .int .i64 cop], .slice ua xs.length ucap, .slice va ys.length vcap]) (by simp [results, Try.results13, go_sem, e0, e1]) rfl ⟨⟨_, _, _, _, _, _, _, rfl, C3, L3, M3⟩, B3⟩
end Go.Proofs.Ytgedaaknkhkegaa
