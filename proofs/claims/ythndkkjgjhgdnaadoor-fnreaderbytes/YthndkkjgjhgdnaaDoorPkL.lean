/- Records as bytes: texts, written and read (pure). -/
import Derived.Test.YthndkkjgjhgdnaaDoorPkI
import Derived.Test.YthndkkjgjhgdnaaDoorHp1
namespace Go.Proofs.YthndkkjgjhgdnaaDoor
open Go.ChangeShapes Go.WideShapes Go.ChangeAt Go.RowKit

theorem gtextZ_nat {bs : List UInt8} {q : Nat} (h : q < bs.length) : gtextZ bs (q : Int) = gtextB bs q := by
  unfold gtextZ
  rw [if_neg (by omega), Int.toNat_natCast]
theorem rdT_text (pre post t : List UInt8) (ht : t.length ≤ 9223372036854775807) : rdT (pre ++ (textB t ++ post)) pre.length true = (t, pre.length + (textB t).length, true) := by
  have hp := numB_pos t.length
  apply rdT_some
  rw [gtextZ_nat (by simp only [textB, List.length_append]; omega)]
  unfold gtextB
  have e1 : (pre ++ (textB t ++ post)).drop pre.length = numB t.length ++ (t ++ post) := by rw [List.drop_left]; simp [textB]
  have e2 : (pre ++ (textB t ++ post)).drop (pre.length + (numB t.length).length) = t ++ post := by rw [← List.drop_drop, e1, List.drop_left]
  rw [e1, getB_num _ _ ht]
  simp only
  rw [if_pos (by simp only [textB, List.length_append]; omega), e2, List.take_left]
  simp only [textB, List.length_append, Nat.add_assoc]
theorem rdT_inv {bs t : List UInt8} {q q' : Nat} {ok : Bool} (h : rdT bs q ok = (t, q', true)) : ok = true ∧ t.length ≤ 9223372036854775807 ∧ ∃ r, bs.drop q = textB t ++ r ∧ q' = q + (textB t).length := by
  cases ok
  · simp [rdT_off] at h
  cases hz : gtextZ bs (q : Int) with
  | none => rw [rdT_none true hz] at h; simp at h
  | some p =>
    obtain ⟨x, k⟩ := p
    rw [rdT_some hz] at h
    simp only [Prod.mk.injEq, and_true] at h
    obtain ⟨rfl, rfl⟩ := h
    have hq : q < bs.length := by
      rcases Nat.lt_or_ge q bs.length with h' | h'
      · exact h'
      · unfold gtextZ at hz
        rw [if_pos (by omega)] at hz
        cases hz
    rw [gtextZ_nat hq] at hz
    unfold gtextB at hz
    split at hz
    · cases hz
    · rename_i n j hg
      split at hz
      · rename_i hle
        simp only [Option.some.injEq, Prod.mk.injEq] at hz
        obtain ⟨rfl, rfl⟩ := hz
        have hbd := getB_bd hg
        obtain ⟨r, h1, h2⟩ := getB_inv hg
        have h3 : bs.drop (q + j) = r := by rw [h2, ← List.drop_drop, h1, List.drop_left]
        have h4 : (r.take n).length = n := by
          rw [List.length_take, ← h3, List.length_drop]
          omega
        rw [h3]
        refine ⟨rfl, by rw [h4]; omega, r.drop n, ?_, ?_⟩
        · rw [h1, textB, h4, List.append_assoc, List.take_append_drop]
        · rw [textB, h4, List.length_append, h4, h2]; omega
      · cases hz
end Go.Proofs.YthndkkjgjhgdnaaDoor
