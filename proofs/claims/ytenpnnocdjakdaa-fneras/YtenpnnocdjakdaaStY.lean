/- Draws of stores: DrawStoreEra. -/
import Derived.Test.YtenpnnocdjakdaaStW
namespace Go.Proofs.Ytenpnnocdjakdaa
open Go.ChangeShapes Go.WideShapes Go.ChangeAt Go.RowKit
set_option linter.unusedVariables false
set_option linter.unusedSimpArgs false
set_option maxRecDepth 100000

set_option maxHeartbeats 8000000 in
theorem drawStoreEra_any (a : Option Addr) (len cap : Nat) (w : World) (hr : Row8 w a len) :
    Calls Try.prog 22 #[.slice a len cap] w fun e w' => (∃ u x, 0 ≤ x ∧ x < 5 ∧ e = .returned (.tuple #[u, .int .i64 x]) ∧ Drew6 w w' u 300 30) ∧ Below w.heap.size w w' := by
  have ba : ∀ (w : World) o, Below w.heap.size w (w.alloc o) := fun w o => (Below.refl _ _).alloc (Nat.le_refl _) o
  have b0 := ba w (.cells #[.slice none 0 0, .slice none 0 0, .int .i64 0] 26)
  have Z0 := BxZ.new (B := w.heap.size) w [.slice none 0 0, .slice none 0 0, .int .i64 0] 26 (Nat.le_refl _)
  have hr0 := hr.below b0
  have e1 : (w.alloc (.cells #[.slice none 0 0, .slice none 0 0, .int .i64 0] 26)).heap.size = w.heap.size + 1 := by simp
  go_enter Try.func22, Try.ntmps22
  go_wp2_with fail
  generalize w.alloc (.cells #[.slice none 0 0, .slice none 0 0, .int .i64 0] 26) = w0 at *
  refine (l1New_any a len cap w0 hr0).mono ?_
  rintro e w1 ⟨bk, rfl, hbk, hc1, hb1⟩
  have hk1 := hc1.lt
  have Z1 := Z0.below hb1
  have B1 := belowThen b0 hb1
  clear hr hr0 Z0 b0 hb1
  go_wp2_with fail
  refine (l6Draw_any bk w1 hc1).mono ?_
  rintro e w2 ⟨⟨u, rfl, s, O2, hf, hkl, hll⟩, hc2, hd2⟩
  obtain ⟨ka, kc, la, lc, rfl⟩ := O2.shape
  have Z2 := Z1.drawn hd2 (by omega)
  have B2 := hd2.below B1 B1.size (by omega)
  have hs2 := hd2.size
  have bA := ba w2 (.cells #[.slice ka s.kept.length kc, .slice la s.late.length lc, .int .i64 s.lock] 26)
  have X3 := Bx.new w2 [.slice ka s.kept.length kc, .slice la s.late.length lc, .int .i64 s.lock] 26
  have Z3 := Z2.below bA
  have B3 := belowThen B2 bA
  have O3 := O2.below bA
  have hc3 := hc2.below bA
  have hsx : w2.heap.size ≠ bk := by have := hc2.lt; omega
  clear hc1 Z1 B1 O2 hc2 Z2 B2 hd2
  go_wp2_with fail
  generalize w2.alloc (.cells #[.slice ka s.kept.length kc, .slice la s.late.length lc, .int .i64 s.lock] 26) = w3 at *
  have CP : Hid (Calls Try.prog 73 #[.pointer (some ⟨bk, 0, none⟩), .int .i64 5] w3.drew fun e w' => (∃ x : Nat, x < 5 ∧ e = .returned (.int .i64 (x : Int))) ∧ Cur w' bk ∧ Drawn bk w3.drew w') := dHide (l1Below_any bk 5 (by omega) (by omega) w3.drew (hc3.below (Below.refl _ _).drew))
  obtain ⟨k0, k1, k2⟩ : (w3.cell? ⟨w2.heap.size, 0, none⟩ = some (.slice ka s.kept.length kc)) ∧ (w3.cell? ⟨w2.heap.size, 1, none⟩ = some (.slice la s.late.length lc)) ∧ (w3.cell? ⟨w2.heap.size, 2, none⟩ = some (.int .i64 s.lock)) := ⟨X3 0 _ rfl, X3 1 _ rfl, X3 2 _ rfl⟩
  go_region_law (rw [if_pos (by rfl)]; go_simp; go_at_call 73; refine (dUnhide CP).mono ?_; rintro r w5 ⟨⟨v, hv, rfl⟩, hc5, hd5'⟩; have hd5 := (Drawn.refl bk w3).drew.trans hd5'; have X5 := X3.drawn hd5 hsx; have Z5 := Z3.drawn hd5 (by omega); have O5 := OwS.drawn O3 hd5 hk1; have B5 := hd5.below B3 B3.size (by omega); have y0 := X5 0 _ rfl; have y1 := X5 1 _ rfl; have y2 := X5 2 _ rfl; obtain ⟨z0, f0⟩ := Z5.2 0 _ rfl; obtain ⟨z1, f1⟩ := Z5.2 1 _ rfl; obtain ⟨z2, f2⟩ := Z5.2 2 _ rfl; go_simp)
  all_goals
    have hI : 0 ≤ (v : Int) ∧ (v : Int) < 5 := by omega
    obtain ⟨hx, hO⟩ := OwS.into O5 (by omega) Z5
    have HX := dHide hx
    have HO := dHide (hO.mono (base' := w.heap.size) (by omega))
    have HB := dHide (below_three (rb := w.heap.size) B5 (Nat.le_refl _) (.slice ka s.kept.length kc) (.slice la s.late.length lc) (.int .i64 s.lock))
    have HF := dHide hf
    clear hx hO O5 Z5 X5 B5 hv z0 z1 z2 f0 f1 f2 y0 y1 y2 k0 k1 k2 X3 Z3 O3 B3 hd5 hd5' hc5 CP
    generalize ((w5.setCell ⟨w.heap.size, 0, none⟩ (.slice ka s.kept.length kc)).setCell ⟨w.heap.size, 1, none⟩ (.slice la s.late.length lc)).setCell ⟨w.heap.size, 2, none⟩ (.int .i64 s.lock) = V at *
    have q0 := dUnhide HX 0 _ rfl
    have q1 := dUnhide HX 1 _ rfl
    have q2 := dUnhide HX 2 _ rfl
    go_wp2
    refine bodyPost_ret (v := .tuple #[.agg #[.slice ka s.kept.length kc, .slice la s.late.length lc, .int .i64 s.lock], .int .i64 (v : Int)]) (by simp [results, Try.results22, go_sem, q0, q1, q2]) rfl ⟨⟨_, (v : Int), hI.1, hI.2, rfl, s, dUnhide HO, dUnhide HF, hkl, hll⟩, dUnhide HB⟩
end Go.Proofs.Ytenpnnocdjakdaa
