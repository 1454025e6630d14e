/- Records as bytes: spec's lists of numbers. -/
import Derived.Test.YtioocibgfhgkhaaDoorGbF
import Derived.Test.YtioocibgfhgkhaaDoorAppB
import Derived.Test.YtioocibgfhgkhaaDoorGaA
namespace Go.Proofs.YtioocibgfhgkhaaDoor
open Go.ChangeShapes Go.WideShapes Go.ChangeAt Go.RowKit
set_option linter.unusedVariables false
set_option linter.unusedSimpArgs false

/-- The numbers of a list, one behind the other. -/
def numsB (xs : List Int) : List UInt8 := xs.flatMap fun x => numB x.toNat
/-- The bytes of a list of numbers. -/
def lstB (xs : List Int) : List UInt8 := numB xs.length ++ numsB xs
theorem numsB_take (xs : List Int) (k : Nat) (h : k < xs.length) : numsB (xs.take (k + 1)) = numsB (xs.take k) ++ numB xs[k].toNat := by
  unfold numsB
  rw [List.take_succ_eq_append_getElem h, List.flatMap_append, List.flatMap_cons, List.flatMap_nil, List.append_nil]
theorem numsB_len (xs : List Int) : (numsB xs).length ≤ 9 * xs.length := by
  induction xs with
  | nil => simp [numsB]
  | cons x l ih =>
    have h := numB_len x.toNat
    unfold numsB at ih ⊢
    rw [List.flatMap_cons, List.length_append, List.length_cons]
    omega
theorem lstB_pos (xs : List Int) : 0 < (lstB xs).length := by
  have := numB_pos xs.length
  unfold lstB
  rw [List.length_append]
  omega
theorem lstB_len (xs : List Int) : (lstB xs).length ≤ 9 * xs.length + 9 := by
  have h := numB_len xs.length
  have h2 := numsB_len xs
  unfold lstB
  rw [List.length_append]
  omega
/-- The cells of a list of numbers. -/
theorem Ns.at17 {w : World} {a : Option Addr} {n cap : Nat} {xs : List Int} (h : Ns w (.slice a n cap) xs) {k : Nat} (hk : k < xs.length) : ∃ b off, a = some ⟨b, off, none⟩ ∧ ∀ i (hi : i < xs.length), w.cell? ⟨b, off + i, none⟩ = some (.int .i64 xs[i]) := by
  obtain ⟨-, a', cap', e, -, h⟩ := h
  cases e
  rcases h with h | h
  · rw [h] at hk; simp at hk
  · exact h
/-- Numbers that are not below 0. -/
def natI (xs : List Int) : Prop := ∀ x ∈ xs, 0 ≤ x ∧ x ≤ 9223372036854775807
end Go.Proofs.YtioocibgfhgkhaaDoor
