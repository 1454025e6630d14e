/- Draws of stores: DrawStorePack. -/
import Derived.Test.YtognmmmplmideaaStW
namespace Go.Proofs.Ytognmmmplmideaa
open Go.ChangeShapes Go.WideShapes Go.ChangeAt Go.RowKit
set_option linter.unusedVariables false
set_option linter.unusedSimpArgs false
set_option maxRecDepth 100000

set_option maxHeartbeats 8000000 in
theorem drawStorePack_any (a : Option Addr) (len cap : Nat) (w : World) (hr : Row8 w a len) :
    Calls Try.prog 8 #[.slice a len cap] w fun e w' => (∃ u, e = .returned u ∧ Drew6 w w' u 300 30) ∧ Below w.heap.size w w' := by
  have ba : ∀ (w : World) o, Below w.heap.size w (w.alloc o) := fun w o => (Below.refl _ _).alloc (Nat.le_refl _) o
  have b0 := ba w (.cells #[.slice none 0 0, .slice none 0 0, .int .i64 0] 26)
  have Z0 := BxZ.new (B := w.heap.size) w [.slice none 0 0, .slice none 0 0, .int .i64 0] 26 (Nat.le_refl _)
  have hr0 := hr.below b0
  have e1 : (w.alloc (.cells #[.slice none 0 0, .slice none 0 0, .int .i64 0] 26)).heap.size = w.heap.size + 1 := by simp
  go_enter Try.func8, Try.ntmps8
  go_wp2_with fail
  generalize w.alloc (.cells #[.slice none 0 0, .slice none 0 0, .int .i64 0] 26) = w0 at *
  refine (l1New_any a len cap w0 hr0).mono ?_
  rintro e w1 ⟨bk, rfl, hbk, hc1, hb1⟩
  have hk1 := hc1.lt
  have Z1 := Z0.below hb1
  have B1 := belowThen b0 hb1
  clear hr hr0 Z0 b0 hb1
  go_wp2_with fail
  refine (l6Draw_any bk w1 hc1).mono ?_
  rintro e w2 ⟨⟨u, rfl, s, O2, hf, hkl, hll⟩, hc2, hd2⟩
  obtain ⟨ka, kc, la, lc, rfl⟩ := O2.shape
  have Z2 := Z1.drawn hd2 (by omega)
  have B2 := hd2.below B1 B1.size (by omega)
  have hs2 := hd2.size
  have bA := ba w2 (.cells #[.slice ka s.kept.length kc, .slice la s.late.length lc, .int .i64 s.lock] 26)
  have X3 := Bx.new w2 [.slice ka s.kept.length kc, .slice la s.late.length lc, .int .i64 s.lock] 26
  have Z3 := Z2.below bA
  have XZ3 := BxZ.new (B := w2.heap.size) w2 [.slice ka s.kept.length kc, .slice la s.late.length lc, .int .i64 s.lock] 26 (Nat.le_refl _)
  have HT : touch (.slice ka s.kept.length kc) ≠ some w2.heap.size := by
    obtain ⟨kv, lv, e, p1, p2, p3⟩ := O2
    cases e
    exact fun e => by have := (p1.touched elemE e).2; omega
  have B3 := belowThen B2 bA
  have O3 := O2.below bA
  have hc3 := hc2.below bA
  have hsx : w2.heap.size ≠ bk := by have := hc2.lt; omega
  clear hc1 Z1 B1 O2 hc2 Z2 B2 hd2
  go_wp2_with fail
  generalize w2.alloc (.cells #[.slice ka s.kept.length kc, .slice la s.late.length lc, .int .i64 s.lock] 26) = w3 at *
  refine (l1Once_any bk 4 (by omega) (by omega) w3 hc3).mono ?_
  rintro e w5 ⟨⟨b, rfl⟩, hc5, hd5⟩
  have XZ5 := XZ3.drawn hd5 hsx
  have X5 := XZ5.bx
  have Z5 := Z3.drawn hd5 (by omega)
  have O5 := OwS.drawn O3 hd5 hk1
  have B5 := hd5.below B3 B3.size (by omega)
  clear X3 XZ3 Z3 O3 B3 hc3
  have y0 := X5 0 _ rfl
  have y1 := X5 1 _ rfl
  have y2 := X5 2 _ rfl
  obtain ⟨z0, f0⟩ := Z5.2 0 _ rfl
  obtain ⟨z1, f1⟩ := Z5.2 1 _ rfl
  obtain ⟨z2, f2⟩ := Z5.2 2 _ rfl
  cases b
  · obtain ⟨g0, g1⟩ := XZ5.2 1 _ rfl
    have XY := (XZ5.put 1 (.slice none 0 0)).bx
    have ZY := Z5.far (b' := w2.heap.size) (o := 1) (by omega) (.slice none 0 0)
    have BY := B5.setCell (p := ⟨w2.heap.size, 1, none⟩) (by show w.heap.size ≤ w2.heap.size; omega) (.slice none 0 0)
    have OY : OwS (w5.setCell ⟨w2.heap.size, 1, none⟩ (.slice none 0 0)) w1.heap.size (.agg #[.slice ka s.kept.length kc, .slice none 0 0, .int .i64 s.lock]) ⟨s.kept, [], s.lock⟩ := by
      obtain ⟨kv, lv, e, p1, p2, p3⟩ := O5
      cases e
      exact ⟨_, _, rfl, ApR.put elemE p1 HT _, .inl ⟨rfl, none, rfl⟩, (by by_cases h : touch (.slice ka s.kept.length kc) = none; exact .inl h; exact .inr h)⟩
    go_wp2_with fail
    obtain ⟨hx, hO⟩ := OwS.into OY (by omega) ZY
    have HX := dHide hx
    have HO := dHide (hO.mono (base' := w.heap.size) (by omega))
    have HB := dHide (below_three (rb := w.heap.size) BY (Nat.le_refl _) (.slice ka s.kept.length kc) (.slice none 0 0) (.int .i64 s.lock))
    have HF := dHide (show fitS ⟨s.kept, [], s.lock⟩ from ⟨hf.1, (fun e he => by cases he), hf.2.2⟩)
    clear hx hO O5 Z5 X5 XZ5 B5 OY ZY XY BY g0 g1 z0 z1 z2 f0 f1 f2 y0 y1 y2 hd5 hc5
    generalize (((w5.setCell ⟨w2.heap.size, 1, none⟩ (.slice none 0 0)).setCell ⟨w.heap.size, 0, none⟩ (.slice ka s.kept.length kc)).setCell ⟨w.heap.size, 1, none⟩ (.slice none 0 0)).setCell ⟨w.heap.size, 2, none⟩ (.int .i64 s.lock) = VV at *
    have q0 := dUnhide HX 0 _ rfl
    have q1 := dUnhide HX 1 _ rfl
    have q2 := dUnhide HX 2 _ rfl
    refine bodyPost_ret (v := .agg #[.slice ka s.kept.length kc, .slice none 0 0, .int .i64 s.lock]) (by simp [results, Try.results8, go_sem, q0, q1, q2]) rfl ⟨⟨_, rfl, ⟨s.kept, [], s.lock⟩, dUnhide HO, dUnhide HF, hkl, Nat.zero_le _⟩, dUnhide HB⟩
  · go_wp2_with fail
    obtain ⟨hx, hO⟩ := OwS.into O5 (by omega) Z5
    have HX := dHide hx
    have HO := dHide (hO.mono (base' := w.heap.size) (by omega))
    have HB := dHide (below_three (rb := w.heap.size) B5 (Nat.le_refl _) (.slice ka s.kept.length kc) (.slice la s.late.length lc) (.int .i64 s.lock))
    have HF := dHide hf
    clear hx hO O5 Z5 X5 XZ5 B5 z0 z1 z2 f0 f1 f2 y0 y1 y2 hd5 hc5
    generalize ((w5.setCell ⟨w.heap.size, 0, none⟩ (.slice ka s.kept.length kc)).setCell ⟨w.heap.size, 1, none⟩ (.slice la s.late.length lc)).setCell ⟨w.heap.size, 2, none⟩ (.int .i64 s.lock) = VV at *
    have q0 := dUnhide HX 0 _ rfl
    have q1 := dUnhide HX 1 _ rfl
    have q2 := dUnhide HX 2 _ rfl
    refine bodyPost_ret (v := .agg #[.slice ka s.kept.length kc, .slice la s.late.length lc, .int .i64 s.lock]) (by simp [results, Try.results8, go_sem, q0, q1, q2]) rfl ⟨⟨_, rfl, s, dUnhide HO, dUnhide HF, hkl, hll⟩, dUnhide HB⟩
end Go.Proofs.Ytognmmmplmideaa
