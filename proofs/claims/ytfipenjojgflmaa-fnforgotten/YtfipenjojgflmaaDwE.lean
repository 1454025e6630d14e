/- Writers drawn: DrawWriterSure. -/
import Derived.Test.YtfipenjojgflmaaDwD
namespace Go.Proofs.Ytfipenjojgflmaa
open Go.ChangeShapes Go.WideShapes Go.ChangeAt Go.RowKit
set_option linter.unusedVariables false
set_option linter.unusedSimpArgs false
set_option maxRecDepth 100000

theorem RdW.shape {lo : Nat} {v : Value} {ms : List Wd} {W : World} (h : RdW lo v ms W) : ∃ a c, v = .slice a ms.length c := by
  obtain ⟨rs, rfl, ⟨-, a, c, rfl, -⟩, -⟩ := h
  exact ⟨a, c, by rw [List.length_map]⟩
set_option maxHeartbeats 4000000 in
theorem drawWriterSure_any (a : Option Addr) (len cap : Nat) (w : World) (hr : Row8 w a len) :
    Calls Try.prog 28 #[.slice a len cap] w fun e w' => (∃ (u : Value) (m : Wt), e = .returned (.agg #[.int .i64 m.epoch, u]) ∧ RdW w.heap.size u m.words w' ∧ fitW 60 m) ∧ Below w.heap.size w w' := by
  have ba : ∀ (w : World) o, Below w.heap.size w (w.alloc o) := fun w o => (Below.refl _ _).alloc (Nat.le_refl _) o
  have b0 := ba w (.cells #[.int .i64 0, .slice none 0 0] 29)
  have Z0 := BxZ.new (B := w.heap.size) w [.int .i64 0, .slice none 0 0] 29 (Nat.le_refl _)
  have hr0 := hr.below b0
  have e1 : (w.alloc (.cells #[.int .i64 0, .slice none 0 0] 29)).heap.size = w.heap.size + 1 := by simp
  go_enter Try.func28, Try.ntmps28
  go_wp2_with fail
  generalize w.alloc (.cells #[.int .i64 0, .slice none 0 0] 29) = w0 at *
  refine (l1New_any a len cap w0 hr0).mono ?_
  rintro e w1 ⟨bk, rfl, hbk, hc1, hb1⟩
  have hk1 := hc1.lt
  have Z1 := Z0.below hb1
  have B1 := belowThen b0 hb1
  clear hr hr0 Z0 b0 hb1
  go_wp2_with fail
  refine (l4DrawRight_any bk w1 hc1).mono ?_
  rintro e w2 ⟨⟨sv, ds, cop, rfl, O2, hdl, -, -, -⟩, hc2, hd2⟩
  have N2 := ownN_of_row O2
  obtain ⟨-, ca, cc, rfl, -, -⟩ := N2.bs
  have hne : ds = [] ∨ blockOf (.slice ca ds.length cc) ≠ bk := by
    rcases N2.blk with h | h
    · exact .inl h
    · exact .inr (by omega)
  have Z2 := Z1.drawn hd2 (by omega)
  have B2 := hd2.below B1 B1.size (by omega)
  have hs2 := hd2.size
  clear O2 Z1 B1 hc1 hd2
  go_wp2_with fail
  refine (l8Draw_any bk ca cc ds cop w2 hc2 N2.bs (by omega) hne).mono ?_
  rintro e w3 ⟨⟨u, m, rfl, R3, fit⟩, hc3, hd3⟩
  obtain ⟨ua, uc, rfl⟩ := R3.shape
  have Z3 := Z2.drawn hd3 (by omega)
  have B3 := hd3.below B2 B2.size (by omega)
  obtain ⟨z0, f0⟩ := Z3.2 0 _ rfl
  obtain ⟨z1, f1⟩ := Z3.2 1 _ rfl
  have ZZ := dHide ((Z3.put 0 (.int .i64 m.epoch)).put 1 (.slice ua m.words.length uc))
  have RR := dHide ((R3.far (b := w.heap.size) (o := 0) (by omega) (.int .i64 m.epoch)).far (b := w.heap.size) (o := 1) (by omega) (.slice ua m.words.length uc))
  have BB := dHide ((B3.setCell (p := ⟨w.heap.size, 0, none⟩) (Nat.le_refl _) (.int .i64 m.epoch)).setCell (p := ⟨w.heap.size, 1, none⟩) (Nat.le_refl _) (.slice ua m.words.length uc))
  have FF := dHide fit
  have hw2 : w.heap.size ≤ w2.heap.size := by omega
  clear Z2 Z3 B2 B3 R3 fit hc2 hc3 hd3 N2
  go_wp2_with fail
  generalize (w3.setCell ⟨w.heap.size, 0, none⟩ (.int .i64 m.epoch)).setCell ⟨w.heap.size, 1, none⟩ (.slice ua m.words.length uc) = V at *
  have q0 := ((dUnhide ZZ).2 0 _ rfl).1
  have q1 := ((dUnhide ZZ).2 1 _ rfl).1
  refine bodyPost_ret (v := .agg #[.int .i64 m.epoch, .slice ua m.words.length uc]) (by simp [results, Try.results28, go_sem, q0, q1]) rfl ⟨⟨_, m, rfl, (dUnhide RR).mono hw2, dUnhide FF⟩, dUnhide BB⟩
end Go.Proofs.Ytfipenjojgflmaa
