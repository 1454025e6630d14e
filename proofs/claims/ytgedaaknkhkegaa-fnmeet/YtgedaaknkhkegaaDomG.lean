/- spec's Enough. -/
import Derived.Test.YtgedaaknkhkegaaDomF
namespace Go.Proofs.Ytgedaaknkhkegaa
open Go.ChangeShapes Go.WideShapes Go.ChangeAt Go.RowKit
set_option linter.unusedVariables false

theorem ascP_lt {xs : List Int} {lo hi : Int} (h : ascP xs lo hi) : ∀ j i (hj : j < xs.length) (hij : i < j), xs[i]'(by omega) < xs[j] := by
  intro j
  induction j with
  | zero => intro i hj hij; omega
  | succ n ih =>
    intro i hj hij
    have h1 := (h (n + 1) hj).2.2 (by omega)
    simp only [Nat.add_sub_cancel] at h1
    rcases Nat.lt_or_ge i n with hlt | hge
    · have := ih i (by omega) hlt
      omega
    · obtain rfl : i = n := by omega
      exact h1
theorem ascP_iff (xs : List Int) (lo hi : Int) : ascP xs lo hi ↔ xs.Pairwise (· < ·) ∧ ∀ x ∈ xs, lo ≤ x ∧ x ≤ hi := by
  constructor
  · intro h
    refine ⟨List.pairwise_iff_getElem.2 fun i j hi' hj hij => ascP_lt h j i hj hij, fun x hx => ?_⟩
    obtain ⟨i, hi', rfl⟩ := List.getElem_of_mem hx
    exact ⟨(h i hi').1, (h i hi').2.1⟩
  · rintro ⟨h1, h2⟩ i hi'
    have hb := h2 xs[i] (List.getElem_mem hi')
    exact ⟨hb.1, hb.2, fun h' => List.pairwise_iff_getElem.1 h1 (i - 1) i (by omega) hi' (by omega)⟩
theorem ascP_filter {xs : List Int} {lo hi : Int} (h : ascP xs lo hi) (f : Int → Bool) : ascP (xs.filter f) lo hi := by
  rw [ascP_iff] at h ⊢
  exact ⟨h.1.filter f, fun x hx => h.2 x (List.mem_filter.1 hx).1⟩
theorem nodesP_less {ds set list : List Int} {cop : Int} (h : nodesP ds cop set) : nodesP ds cop (lessL set list) := ⟨h.1, ascP_filter h.2 _⟩
theorem lessL_nil {set list : List Int} : lessL set list = [] ↔ ∀ x ∈ set, x ∈ list := by
  rw [lessL, List.filter_eq_nil_iff]
  constructor
  · intro h x hx
    have := h x hx
    simpa using this
  · intro h x hx
    have := h x hx
    simp [this]
/-- What is enough. -/
def enoughP (ds : List Int) (cop : Int) (set list : List Int) : Prop := holdsP ds cop set ∧ nodesP ds cop list ∧ lessL list set = [] ∧ (spanN ds (lessL set list) : Int) < cop
set_option maxHeartbeats 2000000 in
theorem specEnough_any (sv u v : Value) (ds set list : List Int) (cop : Int) (w : World) (hd : Ns w sv ds) (hu : Ns w u set) (hv : Ns w v list) (hl : set.length ≤ 1000000000) (hl' : list.length ≤ 1000000000) :
    Calls Try.prog 15 #[.agg #[sv, .int .i64 cop], u, v] w fun e w' => RetB (enoughP ds cop set list) e ∧ Below w.heap.size w w' := by
  have hb0 : ∀ o, Below w.heap.size w (w.alloc o) := fun o => (Below.refl _ _).alloc (Nat.le_refl _) o
  have C1 := dHide fun W (hb : Below w.heap.size w W) => specHolds_any sv u ds set cop W (hd.below hb) (hu.below hb) hl
  have C2 := dHide fun W (hb : Below w.heap.size w W) => specNodes_any sv v ds list cop W (hd.below hb) (hv.below hb)
  have C3 := dHide fun W (hb : Below w.heap.size w W) => l4Less_any v u list set W (hv.below hb) (hu.below hb) hl'
  have C4 := dHide fun W (hb : Below w.heap.size w W) => l4Less_any u v set list W (hu.below hb) (hv.below hb) hl
  have C5 := dHide fun W (hb : Below w.heap.size w W) o (ho : Ns W o (lessL set list)) hn => l4Span_any sv o ds (lessL set list) cop W (hd.below hb) ho (nodesP_less hn) (Nat.le_trans (lessL_len _ _) hl)
  obtain ⟨h0, a, cap, rfl, -, -⟩ := hd
  obtain ⟨h0', a', cap', rfl, -, -⟩ := hu
  obtain ⟨h0'', a'', cap'', rfl, -, -⟩ := hv
  go_enter Try.func15, Try.ntmps15
  go_wp2_with fail
  have T0 := Two.new w (.slice a ds.length cap) (.int .i64 cop) 26
  refine (dUnhide C1 _ (hb0 _)).mono ?_
  rintro e w1 ⟨hr, b1⟩
  have T1 := T0.kept b1
  have HT1 := dHide T1
  obtain ⟨k0, k1⟩ := T1
  have B1 := belowThen (hb0 _) b1
  clear b1 hb0 C1 T0
  by_cases hh : holdsP ds cop set
  · obtain rfl := hr.of_yes hh
    have HH := dHide hh
    clear hr hh
    go_wp2_with fail
    refine (dUnhide C2 _ B1).mono ?_
    rintro e w2 ⟨hr, b2⟩
    have HT2 := dHide ((dUnhide HT1).kept b2)
    have B2 := belowThen B1 b2
    clear b2 B1 C2 k0 k1 HT1
    by_cases hn : nodesP ds cop list
    · obtain rfl := hr.of_yes hn
      have HN := dHide hn
      clear hr hn
      go_wp2_with fail
      refine (dUnhide C3 _ B2).mono ?_
      rintro e w3 ⟨⟨o, rfl, o3⟩, b3⟩
      have T3 := (dUnhide HT2).kept b3
      have HT3 := dHide T3
      have B3 := belowThen B2 b3
      have q3 := (ownN_of_row o3).bs
      clear b3 B2 C3 HT2 o3
      obtain ⟨-, ao, co, rfl, -, -⟩ := q3
      by_cases hz : lessL list set = []
      · have HZ := dHide hz
        rw [hz]
        simp only [List.length_nil]
        have R : RetB (enoughP ds cop set list) (.returned (.bool (decide ((spanN ds (lessL set list) : Int) < cop)))) := ⟨_, rfl, fun h => ⟨dUnhide HH, dUnhide HN, hz, of_decide_eq_true h⟩, fun h => decide_eq_true h.2.2.2⟩
        have HHn := dHide (dUnhide HH).1
        clear hz HZ HN HH
        obtain ⟨k0, k1⟩ := T3
        have hbr := Below.refl w3.heap.size w3
        go_wp2_with fail
        go_region_held3 (fun W => W.cell? ⟨w.heap.size, 0, none⟩ = some (.slice a ds.length cap) ∧ W.cell? ⟨w.heap.size, 1, none⟩ = some (.int .i64 cop)) (go_keep)
          (first
            | (go_at_call 42; refine (dUnhide C4 _ (belowThen B3 hbr.drew)).mono ?_; rintro e w4 ⟨⟨o4, rfl, r4⟩, b4⟩; have hb4 := belowThen hbr.drew b4; obtain ⟨q0, q1⟩ := (dUnhide HT3).kept hb4; have n4 := dHide (ownN_of_row r4).bs)
            | (go_at_call 43; refine (dUnhide C5 _ (belowThen B3 hb4) _ (dUnhide n4) (dUnhide HHn)).mono ?_; rintro e w5 ⟨rfl, b5⟩; have hb5 := belowThen hb4 b5; obtain ⟨q0, q1⟩ := (dUnhide HT3).kept hb5))
        all_goals
          go_wp2
          go_ret
          exact ⟨R, belowThen B3 hb5⟩
      · have R : RetB (enoughP ds cop set list) (.returned (.bool false)) := RetB.no fun h => hz h.2.2.1
        have hpos : (0 : Int) < ((lessL list set).length : Int) := by have := List.length_pos_iff.2 hz; omega
        clear hz
        go_wp2
        go_ret
        exact ⟨R, B3⟩
    · obtain rfl := hr.of_no hn
      have R : RetB (enoughP ds cop set list) (.returned (.bool false)) := RetB.no fun h => hn h.2.1
      clear hr hn
      go_wp2
      go_ret
      exact ⟨R, B2⟩
  · obtain rfl := hr.of_no hh
    have R : RetB (enoughP ds cop set list) (.returned (.bool false)) := RetB.no fun h => hh h.1
    clear hr hh
    go_wp2
    go_ret
    exact ⟨R, B1⟩
end Go.Proofs.Ytgedaaknkhkegaa
