/- Records as bytes: what stands from a place on, read forward and back (pure). -/
import Derived.Test.YthndkkjgjhgdnaaDoorPkI
import Derived.Test.YthndkkjgjhgdnaaDoorPkL
namespace Go.Proofs.YthndkkjgjhgdnaaDoor
open Go.ChangeShapes Go.WideShapes Go.ChangeAt Go.RowKit
set_option linter.unusedVariables false
set_option linter.unusedSimpArgs false

/-- From q up to p these bytes stand. -/
def On (bs : List UInt8) (q : Nat) (B : List UInt8) (p : Nat) : Prop := ∃ r, bs.drop q = B ++ r ∧ p = q + B.length
theorem On.all (bs : List UInt8) : On bs 0 bs bs.length := ⟨[], by simp, by simp⟩
theorem On.whole {bs B : List UInt8} (h : On bs 0 B bs.length) : B = bs := by
  obtain ⟨r, h1, h2⟩ := h
  rw [List.drop_zero] at h1
  have hr : r = [] := by
    have := congrArg List.length h1
    rw [List.length_append] at this
    exact List.eq_nil_of_length_eq_zero (by omega)
  rw [h1, hr, List.append_nil]
theorem On.trans {bs B C : List UInt8} {q p p' : Nat} (h : On bs q B p) (k : On bs p C p') : On bs q (B ++ C) p' := by
  obtain ⟨r, h1, rfl⟩ := h
  obtain ⟨s, k1, rfl⟩ := k
  rw [← List.drop_drop, h1, List.drop_left] at k1
  exact ⟨s, by rw [h1, k1, List.append_assoc], by simp [Nat.add_assoc]⟩
theorem On.split {bs B C : List UInt8} {q p : Nat} (h : On bs q (B ++ C) p) : On bs q B (q + B.length) ∧ On bs (q + B.length) C p := by
  obtain ⟨r, h1, h2⟩ := h
  refine ⟨⟨C ++ r, by rw [h1, List.append_assoc], rfl⟩, ⟨r, ?_, by rw [h2, List.length_append]; omega⟩⟩
  rw [← List.drop_drop, h1, List.append_assoc, List.drop_left]
theorem On.cut {bs B C : List UInt8} {q p : Nat} (h : On bs q (B ++ C) p) : ∃ p', On bs q B p' ∧ On bs p' C p := ⟨_, h.split.1, h.split.2⟩
theorem On.le {bs B : List UInt8} {q p : Nat} (h : On bs q B p) (hB : 0 < B.length) : p ≤ bs.length := by
  obtain ⟨r, h1, h2⟩ := h
  have := congrArg List.length h1
  rw [List.length_drop, List.length_append] at this
  omega
theorem On.refl (bs : List UInt8) (q : Nat) : On bs q [] q := ⟨bs.drop q, by simp, by simp⟩
theorem rdN_on {bs : List UInt8} {q p n : Nat} (h : On bs q (numB n) p) (hn : n ≤ 9223372036854775807) : rdN bs q true = ((n : Int), p, true) := by
  obtain ⟨r, h1, rfl⟩ := h
  apply rdN_some
  rw [getZ_of, h1]
  exact getB_num n r hn
theorem rdN_onI {bs : List UInt8} {q p : Nat} {x : Int} (h : On bs q (numB x.toNat) p) (h0 : 0 ≤ x) (hn : x ≤ 9223372036854775807) : rdN bs q true = (x, p, true) := by
  obtain ⟨n, rfl⟩ := Int.eq_ofNat_of_zero_le h0
  exact rdN_on h (by omega)
theorem rdN_off' {bs : List UInt8} {q p : Nat} {x : Int} {ok : Bool} (h : rdN bs q ok = (x, p, true)) : ok = true ∧ 0 ≤ x ∧ x ≤ 9223372036854775807 ∧ On bs q (numB x.toNat) p := by
  obtain ⟨h1, h2, h3, r, h4, h5⟩ := rdN_inv h
  exact ⟨h1, h2, h3, r, h4, h5⟩
theorem rdT_on {bs t : List UInt8} {q p : Nat} (h : On bs q (textB t) p) (ht : t.length ≤ 9223372036854775807) : rdT bs q true = (t, p, true) := by
  have hp : 0 < (textB t).length := by have := numB_pos t.length; simp only [textB, List.length_append]; omega
  have hl := h.le hp
  obtain ⟨r, h1, rfl⟩ := h
  have e : bs = bs.take q ++ (textB t ++ r) := by rw [← h1, List.take_append_drop]
  have hq : (bs.take q).length = q := by rw [List.length_take]; omega
  have := rdT_text (bs.take q) r t ht
  rw [← e, hq] at this
  exact this
theorem rdT_off' {bs t : List UInt8} {q p : Nat} {ok : Bool} (h : rdT bs q ok = (t, p, true)) : ok = true ∧ t.length ≤ 9223372036854775807 ∧ On bs q (textB t) p := by
  obtain ⟨h1, h2, r, h4, h5⟩ := rdT_inv h
  exact ⟨h1, h2, r, h4, h5⟩
theorem rdL_on {bs : List UInt8} {xs : List Int} {q p : Nat} (h : On bs q (lstB xs) p) (hx : natI xs) (hl : xs.length ≤ 9223372036854775807) : rdL bs q true = (xs, p, true) := by
  have hle := h.le (lstB_pos xs)
  obtain ⟨r, h1, rfl⟩ := h
  have e : bs = bs.take q ++ (lstB xs ++ r) := by rw [← h1, List.take_append_drop]
  have hpos := lstB_pos xs
  have hq : (bs.take q).length = q := by rw [List.length_take]; omega
  have := rdL_list (bs.take q) r xs hx hl
  rw [← e, hq] at this
  exact this
theorem rdL_off' {bs : List UInt8} {xs : List Int} {q p : Nat} {ok : Bool} (h : rdL bs q ok = (xs, p, true)) : ok = true ∧ natI xs ∧ On bs q (lstB xs) p := by
  obtain ⟨h1, h2, r, h4, h5⟩ := rdL_inv h
  exact ⟨h1, h2, r, h4, h5⟩
/-- A read that was right, whole. -/
theorem tri_eta {α : Type} {T : α × Nat × Bool} (h : T.2.2 = true) : T = (T.1, T.2.1, true) := Prod.ext rfl (Prod.ext rfl h)
theorem endB_true {bs : List UInt8} {q : Nat} {ok : Bool} (h : endB bs q ok = true) : ok = true ∧ q = bs.length := by simpa [endB] using h
theorem endB_end (bs : List UInt8) : endB bs bs.length true = true := by simp [endB]
end Go.Proofs.YthndkkjgjhgdnaaDoor
