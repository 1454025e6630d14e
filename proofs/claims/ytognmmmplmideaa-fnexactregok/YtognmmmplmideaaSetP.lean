/- Sets of ints that lie in maps to empty structs: what such a map holds ('SetN'), a range over one ('RangeN'), and the laws on the operations. -/
import Derived.Test.YtognmmmplmideaaDomG
import Derived.Test.YtognmmmplmideaaOpenB
import Derived.Test.YtognmmmplmideaaDomJ
import Derived.Maps.RangeWalk
import Derived.Carry
namespace Go.Proofs.Ytognmmmplmideaa
open Go.ChangeShapes Go.WideShapes Go.ChangeAt Go.RowKit
set_option linter.unusedVariables false

theorem keyI : Go.Maps.Keyed Try.prog 3 := Go.Maps.int_keyed Try.underlying3
theorem zeroU (w : World) : (zeroValue 145).run Try.prog w = .ok (.agg #[]) w := by kernel_rfl
theorem wf_int {z : Int} (h : -9223372036854775808 ≤ z ∧ z ≤ 9223372036854775807) : (Lit.int .i64 z).wf = true := WalkArith.wf_i64 (by omega)
theorem int_wf {z : Int} (h : (Lit.int .i64 z).wf = true) : -9223372036854775808 ≤ z ∧ z ≤ 9223372036854775807 := by
  simp only [Lit.wf, Bool.and_eq_true, decide_eq_true_eq] at h
  exact h
theorem keyOf_z {z : Int} (h : -9223372036854775808 ≤ z ∧ z ≤ 9223372036854775807) : keyOf Try.prog 3 (.int .i64 z) = some (.int .i64 z) := Go.Maps.keyOf_int_mk Try.underlying3 (wf_int h)
theorem grownBy_of_below {w w' : World} (h : Below w.heap.size w w') : w.grownBy w' none := ⟨h.os, h.tape, h.output, h.size, fun k hk _ => h.block k hk⟩
theorem own_tight {P : Program} {k : TypeId} {R : Value → Option (DataW Unit × List MemPlace)} {w : World} {b n : Nat} {D : DataW Unit} (h : w.ownsMap P k R b n D) : w.ownsMap P k R b (Maps.size D) D := by
  obtain ⟨es, clock, hb, F, hs, rfl⟩ := h
  exact ⟨es, clock, hb, F, by simp [Maps.size, length_sorted], rfl⟩

/-- The map in block b holds just the numbers xs, each once. -/
def SetN (w : World) (b : Nat) (xs : List Int) : Prop :=
  xs.Nodup ∧ allInt xs ∧ ∃ D : DataW Unit, w.ownsMap Try.prog 3 (unitElem (H := Unit)) b xs.length D ∧ Maps.size D = xs.length ∧ ∀ z, Maps.has D (.int .i64 z) = decide (z ∈ xs)
theorem SetN.lt {w : World} {b : Nat} {xs : List Int} (h : SetN w b xs) : b < w.heap.size := by
  obtain ⟨-, -, D, h, -⟩ := h
  exact h.lt
theorem SetN.kept {w w' : World} {b : Nat} {xs : List Int} {row : Option Nat} (h : SetN w b xs) (hg : w.grownBy w' row) (hne : some b ≠ row) : SetN w' b xs := by
  obtain ⟨h1, h2, D, h3, h4⟩ := h
  exact ⟨h1, h2, D, h3.kept hg hne, h4⟩
theorem SetN.below {w w' : World} {b : Nat} {xs : List Int} (h : SetN w b xs) (hb : Below w.heap.size w w') : SetN w' b xs := h.kept (grownBy_of_below hb) (by simp)
theorem SetN.alloc {w : World} {b : Nat} {xs : List Int} (h : SetN w b xs) (o : Obj) : SetN (w.alloc o) b xs := h.kept (World.grownBy_alloc w o none) (by simp)
theorem SetN.made (w : World) : SetN (w.alloc (.map #[] 0)) w.heap.size [] := ⟨List.nodup_nil, (fun x h => by cases h), .map [], World.ownsMap_made _ _ _ _, rfl, fun z => by simp [Maps.has]⟩
theorem SetN.perm {w : World} {b : Nat} {xs ys : List Int} (h : SetN w b xs) (hp : xs.Perm ys) : SetN w b ys := by
  obtain ⟨h1, h2, D, h3, h4, h5⟩ := h
  refine ⟨hp.nodup_iff.1 h1, fun x hx => h2 x (hp.mem_iff.2 hx), D, by rw [← hp.length_eq]; exact h3, by rw [← hp.length_eq]; exact h4, fun z => by rw [h5 z]; simp [hp.mem_iff]⟩
/-- A range over the set xs in block b, by the iterator in block r, that has met the numbers ys. -/
def RangeN (w : World) (b r : Nat) (xs ys : List Int) : Prop :=
  xs.Nodup ∧ allInt xs ∧ ys.Nodup ∧ (∀ y ∈ ys, y ∈ xs) ∧ ∃ (D : DataW Unit) (left : Lit → Bool) (cnt : Nat), w.ranges Try.prog 3 (unitElem (H := Unit)) b r xs.length D left cnt ∧ Maps.size D = xs.length ∧ (∀ z, Maps.has D (.int .i64 z) = decide (z ∈ xs)) ∧ ∀ z, left (.int .i64 z) = (decide (z ∈ xs) && !decide (z ∈ ys))
theorem RangeN.set {w : World} {b r : Nat} {xs ys : List Int} (h : RangeN w b r xs ys) : SetN w b xs := by
  obtain ⟨h1, h2, -, -, D, left, cnt, h3, h4, h5, -⟩ := h
  exact ⟨h1, h2, D, h3.owns, h4, h5⟩
theorem RangeN.lt {w : World} {b r : Nat} {xs ys : List Int} (h : RangeN w b r xs ys) : r < w.heap.size := by
  obtain ⟨-, -, -, -, D, left, cnt, h3, -⟩ := h
  exact h3.lt
theorem RangeN.kept {w w' : World} {b r : Nat} {xs ys : List Int} {row : Option Nat} (h : RangeN w b r xs ys) (hg : w.grownBy w' row) (hb : some b ≠ row) (hr : some r ≠ row) : RangeN w' b r xs ys := by
  obtain ⟨h1, h2, h3, h4, D, left, cnt, h5, h6⟩ := h
  exact ⟨h1, h2, h3, h4, D, left, cnt, h5.kept hg hb hr, h6⟩
theorem RangeN.alloc {w : World} {b r : Nat} {xs ys : List Int} (h : RangeN w b r xs ys) (o : Obj) : RangeN (w.alloc o) b r xs ys := h.kept (World.grownBy_alloc w o none) (by simp) (by simp)
theorem RangeN.below {w w' : World} {b r : Nat} {xs ys : List Int} (h : RangeN w b r xs ys) (hb : Below w.heap.size w w') : RangeN w' b r xs ys := h.kept (grownBy_of_below hb) (by simp) (by simp)
/-- Two worlds in which the range stands alike. -/
theorem RangeN.left_kept {w w' : World} {b r : Nat} {xs ys : List Int} {row : Option Nat} (h : RangeN w b r xs ys) (hg : w.grownBy w' row) (hb : some b ≠ row) (hr : some r ≠ row) : w'.rangeLeft b r = w.rangeLeft b r := by
  obtain ⟨h1, h2, h3, h4, D, left, cnt, h5, h6⟩ := h
  rw [(h5.kept hg hb hr).left_eq, h5.left_eq]
theorem RangeN.left_below {w w' : World} {b r : Nat} {xs ys : List Int} (h : RangeN w b r xs ys) (hb : Below w.heap.size w w') : w'.rangeLeft b r = w.rangeLeft b r := h.left_kept (grownBy_of_below hb) (by simp) (by simp)

section
variable (w : World) {ops : Array Oper} {rest : List Oper} {o : Oper} {a : Act} {Q : Exit → Act → World → Prop}
/-- A number is put into a set. -/
theorem wp_setPut (hg : o.guard = none) (m x v : Operand) (hop : o.op = Op.mapUpdate 140 m x v) (b : Nat) (xs : List Int) (z : Int) (hm : a.eval m = .map (some b)) (h : SetN w b xs)
    (hx : a.eval x = .int .i64 z) (hz : -9223372036854775808 ≤ z ∧ z ≤ 9223372036854775807) (hv : a.eval v = .agg #[]) (hl : xs.length ≤ 1099511627776)
    (hK : ∀ w', SetN w' b (addD xs z) → w.grownBy w' (some b) → wpList Try.prog ops Q rest (a.put o.dst undef) w') : wpList Try.prog ops Q (o :: rest) a w := by
  obtain ⟨h1, h2, D, h3, h4, h5⟩ := h
  refine wpList_mapUpdate_own _ hg m x v 140 hop 3 145 keyI Try.underlying140 (unitElem (H := Unit)) b xs.length D hm h3 (by unfold maxLen; omega) _ _ (.int .i64 z) hx hv (keyOf_z hz) (.agg []) [] unitElem_mk ?_
  intro w' o1 g1
  refine hK w' ⟨nodup_addD h1, fun y hy => ?_, D.put (.int .i64 z) (.agg []), ?_, ?_, ?_⟩ g1
  · unfold addD at hy
    split at hy
    · exact h2 y hy
    · rcases List.mem_append.1 hy with hy | hy
      · exact h2 y hy
      · obtain rfl : y = z := by simpa using hy
        exact hz
  · have e : Maps.size (D.put (.int .i64 z) (.agg [])) = (addD xs z).length := by
      rw [Maps.size_put (h3.tidy keyI), h5 z, h4]
      unfold addD
      by_cases hzx : z ∈ xs <;> simp [hzx]
    rw [← e]
    exact own_tight o1
  · rw [Maps.size_put (h3.tidy keyI), h5 z, h4]
    unfold addD
    by_cases hzx : z ∈ xs <;> simp [hzx]
  · intro y
    by_cases hy : y = z
    · subst hy
      rw [Maps.has_put_same h3.isMap (keyI.key (keyOf_z hz))]
      unfold addD
      by_cases hzx : y ∈ xs <;> simp [hzx]
    · rw [Maps.has_put_other (by simpa using hy), h5 y]
      unfold addD
      by_cases hzx : z ∈ xs <;> simp [hzx, hy]
/-- Whether a number is in a set. -/
theorem wp_setHas (hg : o.guard = none) (m x : Operand) (hop : o.op = Op.lookup 140 m x true) (b : Nat) (xs : List Int) (z : Int) (hm : a.eval m = .map (some b)) (h : SetN w b xs)
    (hx : a.eval x = .int .i64 z) (hz : -9223372036854775808 ≤ z ∧ z ≤ 9223372036854775807)
    (hK : wpList Try.prog ops Q rest (a.put o.dst (.tuple #[.agg #[], .bool (decide (z ∈ xs))])) w) : wpList Try.prog ops Q (o :: rest) a w := by
  obtain ⟨h1, h2, D, h3, h4, h5⟩ := h
  refine wpList_lookup_own_unit _ hg m x 140 hop 3 145 keyI Try.underlying140 (zeroU _) b xs.length D hm h3 _ (.int .i64 z) hx (keyOf_z hz) ?_
  rw [h5 z]
  exact hK
/-- How many numbers a set has. -/
theorem wp_setLen (hg : o.guard = none) (m : Operand) (hop : o.op = Op.call { callee := Callee.builtin Builtin.len, args := #[m], argTypes := #[140] }) (b : Nat) (xs : List Int) (hm : a.eval m = .map (some b)) (h : SetN w b xs)
    (hK : wpList Try.prog ops Q rest (a.put o.dst (.int .i64 (xs.length : Int))) w) : wpList Try.prog ops Q (o :: rest) a w := by
  obtain ⟨h1, h2, D, h3, h4, h5⟩ := h
  refine wpList_len_own _ hg m 140 hop 3 145 Try.underlying140 (unitElem (H := Unit)) b xs.length D hm h3 ?_
  rw [h4]
  exact hK
/-- A range begins. -/
theorem wp_setRange (hg : o.guard = none) (m : Operand) (hop : o.op = Op.range 140 m) (b : Nat) (xs : List Int) (hm : a.eval m = .map (some b)) (h : SetN w b xs)
    (hK : ∀ w', RangeN w' b w.heap.size xs [] → w.grownBy w' none → w'.heap.size = w.heap.size + 1 → wpList Try.prog ops Q rest (a.put o.dst (.pointer (some ⟨w.heap.size, 0, none⟩))) w') : wpList Try.prog ops Q (o :: rest) a w := by
  obtain ⟨h1, h2, D, h3, h4, h5⟩ := h
  refine wpList_range_own _ hg m 140 hop 3 145 keyI Try.underlying140 (unitElem (H := Unit)) b xs.length D hm h3 ?_
  intro w' r1 g1 s1
  exact hK w' ⟨h1, h2, List.nodup_nil, (fun y h => by cases h), D, _, _, r1, h4, h5, fun z => by rw [h5 z]; simp⟩ g1 s1
/-- A range goes on. -/
theorem wp_setNext (hg : o.guard = none) (it : Operand) (hop : o.op = Op.next it false) (b r : Nat) (xs ys : List Int) (hit : a.eval it = .pointer (some ⟨r, 0, none⟩)) (h : RangeN w b r xs ys)
    (hDone : ys.Perm xs → wpList Try.prog ops Q rest (a.put o.dst (.tuple #[.bool false])) w)
    (hMore : ∀ (x : Int) (w' : World), x ∈ xs → x ∉ ys → RangeN w' b r xs (ys ++ [x]) → w'.rangeLeft b r < w.rangeLeft b r → w.grownBy w' (some r) →
      (Instr.entry (.pointer (some ⟨r, 0, none⟩))).run Try.prog w' = .ok (.tuple #[.int .i64 x, .agg #[]]) w' → wpList Try.prog ops Q rest (a.put o.dst (.tuple #[.bool true, .int .i64 x, .agg #[]])) w') : wpList Try.prog ops Q (o :: rest) a w := by
  obtain ⟨h1, h2, h3, h4, D, left, cnt, h5, h6, h7, h8⟩ := h
  refine wpList_next_ranges (α := Int) (β := Unit) _ hg it hop 3 keyI (unitElem (H := Unit)) (Value.int .i64) (fun _ => .agg #[]) (fun key kl hk => by obtain ⟨x, rfl, _⟩ := Maps.keyOf_int_inv Try.underlying3 hk; exact ⟨x, rfl⟩) (fun v y hv => ⟨(), (unitElem_inv hv).1⟩) b r xs.length D left cnt hit h5 ?_ ?_
  · intro hc hl0
    refine hDone ((List.perm_ext_iff_of_nodup h3 h1).2 fun z => ⟨fun hz => h4 z hz, fun hz => ?_⟩)
    have := h8 z
    rw [hl0] at this
    simp [hz] at this
    exact this
  · intro x c kl y w' cnt' hkey hlk hv hat hrg hlt hgr hsz hen
    obtain ⟨x', ex, rfl, hwx⟩ := Maps.keyOf_int_inv Try.underlying3 hkey
    cases ex
    have hx := h8 x
    rw [hlk] at hx
    simp only [Bool.true_eq, Bool.and_eq_true, decide_eq_true_eq, Bool.not_eq_true', decide_eq_false_iff_not] at hx
    refine hMore x w' hx.1 hx.2 ⟨h1, h2, ?_, ?_, D, _, cnt', hrg, h6, h7, fun z => ?_⟩ (by rw [hrg.left_eq, h5.left_eq]; exact hlt) hgr hen
    · refine List.nodup_append.2 ⟨h3, by simp, fun p hp q hq => ?_⟩
      obtain rfl : q = x := by simpa using hq
      intro e
      exact hx.2 (e ▸ hp)
    · intro z hz
      rcases List.mem_append.1 hz with hz | hz
      · exact h4 z hz
      · obtain rfl : z = x := by simpa using hz
        exact hx.1
    · rw [h8 z]
      by_cases hzx : z = x
      · subst hzx
        have : (Lit.int .i64 z).sameKey (.int .i64 z) = true := WideAt.sameKey_self (keyI.key hkey)
        simp [this]
      · have : (Lit.int .i64 z).sameKey (.int .i64 x) = false := Maps.sameKey_ne (by simpa using hzx)
        simp [this, hzx]
end
end Go.Proofs.Ytognmmmplmideaa
