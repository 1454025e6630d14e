/- Several texts in one: DrwC, DrwD, DrwE. -/
import Derived.Test.YtejmfohkobhidaaGf8
import Derived.Laws.OwnMore
namespace Go.Proofs.Ytejmfohkobhidaa
open Go.ChangeShapes Go.WideShapes Go.ChangeAt Go.RowKit
set_option linter.unusedVariables false
set_option linter.unusedSimpArgs false

/-- A row that may be written, beside a store elsewhere. -/
theorem OwnN.apart {w : World} {base : Nat} {v : Value} {xs : List Int} (h : OwnN w base v xs) {b : Nat} (hn : v.ownBlock ≠ some b) (o : Nat) (u : Value) : OwnN (w.setCell ⟨b, o, none⟩ u) base v xs := by
  obtain ⟨h0, a, cap, rfl, hcap, h⟩ := h
  refine ⟨h0, a, cap, rfl, hcap, ?_⟩
  rcases h with h | ⟨b', off, rfl, hb', hc⟩
  · exact .inl h
  · have hne : b' ≠ b := fun e => hn (by simp [Value.ownBlock, e])
    exact .inr ⟨b', off, rfl, hb', fun i hi => ⟨set_other (hc i hi).1 (.inl hne), (World.frozen?_setCell _ _ _ _).trans (hc i hi).2⟩⟩
theorem zerosN_own (n : Nat) (w : World) (h : n ≤ 9223372036854775807) : OwnN (w.alloc (.cells (zerosN n) 3)) w.heap.size (.slice (some ⟨w.heap.size, 0, none⟩) n n) (List.replicate n 0) := by
  refine ⟨by simpa using h, _, n, by simp, by simpa using h, .inr ⟨w.heap.size, 0, rfl, Nat.le_refl _, fun i hi => ⟨?_, by simp⟩⟩⟩
  have hi' : i < n := by simpa using hi
  have := zerosN_at n i hi'
  simp [this]
theorem rowN_len {w : World} {B n c m : Nat} {a : Option Addr} {l : List Value} (h : w.ownsRow B 3 1 (.slice a n c) m l) : n = m := by
  rcases h.2 with ⟨h', h0⟩ | ⟨g', cap', cur, h', _⟩
  · cases h'; exact h0.symm
  · cases h'; rfl
/-- The first of a row of ints. -/
theorem rowN_at {w : World} {B g n c : Nat} {l : List Int} (h : w.ownsRow B 3 1 (.slice (some ⟨g, 0, none⟩) n c) l.length (ncells l)) (hl : 0 < l.length) : w.cell? ⟨g, 0, none⟩ = some (.int .i64 l[0]) ∧ w.frozen? ⟨g, 0, none⟩ = false := by
  have hn : n = l.length := by
    rcases h.2 with ⟨h', _⟩ | ⟨g', cap', cur, h', _⟩
    · cases h'
    · cases h'; rfl
  subst hn
  have h1 := h.cells rfl 0 (.int .i64 l[0]) (by simp [ncells, hl])
  have e : (⟨g, 0, none⟩ : Addr).add 0 = ⟨g, 0, none⟩ := by simp [Addr.add]
  rw [e] at h1
  exact ⟨h1, h.frozenAt 0⟩
theorem rowN_set0 {w : World} {B g n c : Nat} {l : List Int} (h : w.ownsRow B 3 1 (.slice (some ⟨g, 0, none⟩) n c) l.length (ncells l)) (t : Int) : OwnN (w.setCell ⟨g, 0, none⟩ (.int .i64 t)) B (.slice (some ⟨g, 0, none⟩) n c) (l.set 0 t) := by
  obtain rfl := rowN_len h
  have h1 := (h.stored 0 (.int .i64 t)).1
  refine ownN_of_row (n := l.length) ?_
  have e : ncells (l.set 0 t) = (ncells l).set 0 (.int .i64 t) := by simp [ncells, List.map_set]
  rw [e]
  exact h1
theorem rowN_head {w : World} {B n c : Nat} {a : Option Addr} {l : List Int} (h : w.ownsRow B 3 1 (.slice a n c) l.length (ncells l)) (hl : 0 < l.length) : ∃ g, a = some ⟨g, 0, none⟩ ∧ w.cell? ⟨g, 0, none⟩ = some (.int .i64 l[0]) ∧ w.frozen? ⟨g, 0, none⟩ = false := by
  rcases h.2 with ⟨h', h0⟩ | ⟨g', cap', cur, h', _⟩
  · omega
  · cases h'
    exact ⟨g', rfl, rowN_at h hl⟩
end Go.Proofs.Ytejmfohkobhidaa
namespace Go.Proofs.Ytejmfohkobhidaa
open Go.ChangeShapes Go.WideShapes Go.ChangeAt Go.RowKit
set_option linter.unusedVariables false
set_option linter.unusedSimpArgs false

theorem l1Max_one (n : Nat) (w : World) : Calls Try.prog 96 #[.int .i64 (n : Int), .int .i64 1] w fun e w' => e = .returned (.int .i64 ((max n 1 : Nat) : Int)) ∧ w' = w := by
  rcases Nat.eq_zero_or_pos n with h | h
  · subst h
    go_enter Try.func96, Try.ntmps96
    go_wp2
    go_ret
    exact ⟨rfl, rfl⟩
  · rw [Nat.max_eq_left h]
    by_cases h1 : (1 : Int) < (n : Int)
    · go_enter Try.func96, Try.ntmps96
      go_wp2
      go_ret
      exact ⟨rfl, rfl⟩
    · obtain rfl : n = 1 := by omega
      go_enter Try.func96, Try.ntmps96
      go_wp2
      go_ret
      exact ⟨rfl, rfl⟩
theorem rowN_ns {w : World} {B n : Nat} {v : Value} {l : List Int} (h : w.ownsRow B 3 1 v n (ncells l)) : Ns w v l := (ownN_of_row h).bs
theorem rowN_mono {w : World} {B B' n : Nat} {v : Value} {l : List Value} (h : w.ownsRow B 3 1 v n l) (hB : B' ≤ B) : w.ownsRow B' 3 1 v n l := by
  refine ⟨h.1, ?_⟩
  rcases h.2 with h0 | ⟨g, cap, cur, h1, h2, h3⟩
  · exact .inl h0
  · exact .inr ⟨g, cap, cur, h1, by omega, h3⟩
end Go.Proofs.Ytejmfohkobhidaa
namespace Go.Proofs.Ytejmfohkobhidaa
open Go.ChangeShapes Go.WideShapes Go.ChangeAt Go.RowKit
set_option linter.unusedVariables false
set_option linter.unusedSimpArgs false

/-- A config that was drawn, in new memory. -/
def DrewC (B : Nat) (c : Value) (ds : List Int) (cop : Int) (W : World) : Prop := ∃ sv, c = .agg #[sv, .int .i64 cop] ∧ OwnN W B sv ds ∧ ds.length ≤ 9 ∧ allInt ds ∧ 0 ≤ cop ∧ cop ≤ 5
/-- A list that was drawn, in new memory. -/
def DrewL (B : Nat) (u : Value) (zs : List Int) (W : World) : Prop := OwnN W B u zs ∧ zs.length ≤ 20 ∧ allInt zs
theorem DrewC.below {B : Nat} {c : Value} {ds : List Int} {cop : Int} {W W' : World} (h : DrewC B c ds cop W) (b : Below W.heap.size W W') : DrewC B c ds cop W' := by
  obtain ⟨sv, h1, h2, h3⟩ := h; exact ⟨sv, h1, h2.below b, h3⟩
theorem DrewL.below {B : Nat} {u : Value} {zs : List Int} {W W' : World} (h : DrewL B u zs W) (b : Below W.heap.size W W') : DrewL B u zs W' := ⟨h.1.below b, h.2⟩
theorem OwnN.blk {w : World} {base : Nat} {v : Value} {xs : List Int} (h : OwnN w base v xs) : xs = [] ∨ base ≤ blockOf v := by
  obtain ⟨-, a, cap, rfl, -, h⟩ := h
  rcases h with h | ⟨b, off, rfl, hb, hc⟩
  · exact .inl h
  · exact .inr hb
theorem OwnN.drawn {bk : Nat} {w w' : World} {base : Nat} {v : Value} {xs : List Int} (h : OwnN w base v xs) (hd : Drawn bk w w') (hb : bk < base) : OwnN w' base v xs := by
  obtain ⟨h0, a, cap, rfl, hcap, h⟩ := h
  refine ⟨h0, a, cap, rfl, hcap, ?_⟩
  rcases h with h | ⟨b, off, rfl, hbb, hc⟩
  · exact .inl h
  · exact .inr ⟨b, off, rfl, hbb, fun i hi => ⟨hd.cell (hc i hi).1 (by omega), (hd.frozen (by omega) (dCell_lt (hc i hi).1)).trans (hc i hi).2⟩⟩
theorem DrewC.far {B : Nat} {c : Value} {ds : List Int} {cop : Int} {W : World} (h : DrewC B c ds cop W) {b o : Nat} (hb : b < B) (u : Value) : DrewC B c ds cop (W.setCell ⟨b, o, none⟩ u) := by
  obtain ⟨sv, h1, h2, h3⟩ := h; exact ⟨sv, h1, h2.far hb u, h3⟩
theorem DrewL.far {B : Nat} {v : Value} {zs : List Int} {W : World} (h : DrewL B v zs W) {b o : Nat} (hb : b < B) (u : Value) : DrewL B v zs (W.setCell ⟨b, o, none⟩ u) := ⟨h.1.far hb u, h.2⟩
theorem DrewC.mono {B B' : Nat} {c : Value} {ds : List Int} {cop : Int} {W : World} (h : DrewC B c ds cop W) (hb : B' ≤ B) : DrewC B' c ds cop W := by
  obtain ⟨sv, h1, h2, h3⟩ := h; exact ⟨sv, h1, h2.mono hb, h3⟩
theorem DrewL.mono {B B' : Nat} {v : Value} {zs : List Int} {W : World} (h : DrewL B v zs W) (hb : B' ≤ B) : DrewL B' v zs W := ⟨h.1.mono hb, h.2⟩
end Go.Proofs.Ytejmfohkobhidaa
