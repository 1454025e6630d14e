/- spec's SpanOf, Rest. -/
import Derived.Test.YtgedaaknkhkegaaDomD
namespace Go.Proofs.Ytgedaaknkhkegaa
open Go.ChangeShapes Go.WideShapes Go.ChangeAt Go.RowKit
set_option linter.unusedVariables false

theorem RetB.of_yes {p : Prop} {e : Ending} (h : RetB p e) (hp : p) : e = .returned (.bool true) := by
  obtain ⟨b, rfl, hb⟩ := h
  rw [hb.2 hp]
theorem RetB.of_no {p : Prop} {e : Ending} (h : RetB p e) (hp : ¬ p) : e = .returned (.bool false) := by
  obtain ⟨b, rfl, hb⟩ := h
  cases b
  · rfl
  · exact absurd (hb.1 rfl) hp
/-- Two cells of a block. -/
def Two (w : World) (b : Nat) (c0 c1 : Value) : Prop := w.cell? ⟨b, 0, none⟩ = some c0 ∧ w.cell? ⟨b, 1, none⟩ = some c1
theorem Two.kept {w w' : World} {b : Nat} {c0 c1 : Value} (h : Two w b c0 c1) (hb : Below w.heap.size w w') : Two w' b c0 c1 := by
  have lt := dCell_lt h.1
  exact ⟨(hb.cell (p := ⟨b, 0, none⟩) lt).trans h.1, (hb.cell (p := ⟨b, 1, none⟩) lt).trans h.2⟩
theorem Two.new (w : World) (c0 c1 : Value) (T : TypeId) : Two (w.alloc (.cells #[c0, c1] T)) w.heap.size c0 c1 := ⟨by simp, by simp⟩
/-- SpanOf. -/
theorem specSpan_yes (sv v : Value) (ds xs : List Int) (cop : Int) (w : World) (hd : Ns w sv ds) (hv : Ns w v xs) (hn : nodesP ds cop xs) (hl : xs.length ≤ 1000000000) :
    Calls Try.prog 28 #[.agg #[sv, .int .i64 cop], v] w fun e w' => e = .returned (.int .i64 (spanN ds xs : Int)) ∧ Below w.heap.size w w' := by
  have hb0 : ∀ o, Below w.heap.size w (w.alloc o) := fun o => (Below.refl _ _).alloc (Nat.le_refl _) o
  have C1 := dHide fun o => specNodes_any sv v ds xs cop (w.alloc o) (hd.below (hb0 o)) (hv.below (hb0 o))
  have C2 := dHide fun W (hb : Below w.heap.size w W) => l4Span_any sv v ds xs cop W (hd.below hb) (hv.below hb) hn hl
  have HN := dHide hn
  clear hn
  obtain ⟨h0, a, cap, rfl, -, -⟩ := hd
  obtain ⟨h0', a', cap', rfl, -, -⟩ := hv
  go_enter Try.func28, Try.ntmps28
  go_wp2_with fail
  have T0 := Two.new w (.slice a ds.length cap) (.int .i64 cop) 26
  refine (dUnhide C1 _).mono ?_
  rintro e w1 ⟨hr, b1⟩
  obtain rfl := hr.of_yes (dUnhide HN)
  obtain ⟨k0, k1⟩ := T0.kept b1
  have B1 := belowThen (hb0 _) b1
  clear hr b1 hb0 C1 T0
  go_wp2_with fail
  refine (dUnhide C2 _ B1).mono ?_
  rintro e w2 ⟨rfl, b2⟩
  have B2 := belowThen B1 b2
  clear b2 B1 C2 k0 k1
  go_wp2
  go_ret
  exact ⟨rfl, B2⟩
theorem specSpan_no (sv v : Value) (ds xs : List Int) (cop : Int) (w : World) (hd : Ns w sv ds) (hv : Ns w v xs) (hn : ¬ nodesP ds cop xs) :
    Calls Try.prog 28 #[.agg #[sv, .int .i64 cop], v] w fun e w' => e = .returned (.int .i64 (-1)) ∧ Below w.heap.size w w' := by
  have hb0 : ∀ o, Below w.heap.size w (w.alloc o) := fun o => (Below.refl _ _).alloc (Nat.le_refl _) o
  have C1 := dHide fun o => specNodes_any sv v ds xs cop (w.alloc o) (hd.below (hb0 o)) (hv.below (hb0 o))
  have HN := dHide hn
  clear hn
  obtain ⟨h0, a, cap, rfl, -, -⟩ := hd
  obtain ⟨h0', a', cap', rfl, -, -⟩ := hv
  go_enter Try.func28, Try.ntmps28
  go_wp2_with fail
  refine (dUnhide C1 _).mono ?_
  rintro e w1 ⟨hr, b1⟩
  obtain rfl := hr.of_no (dUnhide HN)
  have B1 := belowThen (hb0 _) b1
  clear hr b1 hb0 C1
  go_wp2
  go_ret
  exact ⟨rfl, B1⟩
/-- Rest of what is right. -/
theorem specRest_yes (sv u v : Value) (ds set list : List Int) (cop : Int) (w : World) (hd : Ns w sv ds) (hu : Ns w u set) (hv : Ns w v list) (hn : nodesP ds cop set) (hm : nodesP ds cop list) (hl : set.length ≤ 1000000000) :
    Calls Try.prog 23 #[.agg #[sv, .int .i64 cop], u, v] w fun e w' => (∃ o, e = .returned o ∧ OwnN w' w.heap.size o (lessL set list)) ∧ Below w.heap.size w w' := by
  have hb0 : ∀ o, Below w.heap.size w (w.alloc o) := fun o => (Below.refl _ _).alloc (Nat.le_refl _) o
  have C1 := dHide fun W (hb : Below w.heap.size w W) => specNodes_any sv u ds set cop W (hd.below hb) (hu.below hb)
  have C2 := dHide fun W (hb : Below w.heap.size w W) => specNodes_any sv v ds list cop W (hd.below hb) (hv.below hb)
  have C3 := dHide fun W (hb : Below w.heap.size w W) => l4Less_any u v set list W (hu.below hb) (hv.below hb) hl
  have HN := dHide hn
  have HM := dHide hm
  clear hn hm
  obtain ⟨h0, a, cap, rfl, -, -⟩ := hd
  obtain ⟨h0', a', cap', rfl, -, -⟩ := hu
  obtain ⟨h0'', a'', cap'', rfl, -, -⟩ := hv
  go_enter Try.func23, Try.ntmps23
  go_wp2_with fail
  have T0 := Two.new w (.slice a ds.length cap) (.int .i64 cop) 26
  refine (dUnhide C1 _ (hb0 _)).mono ?_
  rintro e w1 ⟨hr, b1⟩
  obtain rfl := hr.of_yes (dUnhide HN)
  obtain ⟨k0, k1⟩ := T0.kept b1
  have B1 := belowThen (hb0 _) b1
  clear hr b1 hb0 C1 T0
  go_wp2_with fail
  refine (dUnhide C2 _ B1).mono ?_
  rintro e w2 ⟨hr, b2⟩
  obtain rfl := hr.of_yes (dUnhide HM)
  have B2 := belowThen B1 b2
  clear hr b2 B1 C2 k0 k1
  go_wp2_with fail
  refine (dUnhide C3 _ B2).mono ?_
  rintro e w3 ⟨⟨o, rfl, o3⟩, b3⟩
  have B3 := belowThen B2 b3
  have q3 := dHide ((ownN_of_row o3).mono B2.size)
  clear o3 b3 B2 C3
  go_wp2
  go_ret
  exact ⟨⟨_, rfl, dUnhide q3⟩, B3⟩
end Go.Proofs.Ytgedaaknkhkegaa
