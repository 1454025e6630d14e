/- Reading a number form: the plain function, and its laws. -/
import Derived.Test.YtcjchbapeoeaeaaNumP
namespace Go.Proofs.Ytcjchbapeoeaeaa

/-- Reads at most n bytes more of a number form, k bytes being read, the unit u, the number x so far: the number, and how many bytes. -/
def getF : Nat → Nat → Nat → Nat → List UInt8 → Option (Nat × Nat)
  | 0, _, _, _, _ => none
  | _ + 1, _, _, _, [] => none
  | n + 1, k, u, x, d :: r => if d.toNat < 128 then (if d.toNat = 0 ∧ 0 < k then none else some (x + d.toNat % 128 * u, k + 1)) else getF n (k + 1) (u * 128) (x + d.toNat % 128 * u) r
/-- The number that the bytes begin with, and how many bytes it takes. -/
def getB (l : List UInt8) : Option (Nat × Nat) := getF 9 0 1 0 l
/-- GetNum's answer, as a value. -/
def getT (o : Option (Nat × Nat)) (at0 : Nat) : Value := match o with
  | none => .tuple #[.int .i64 0, .int .i64 0, .bool false]
  | some (x, k) => .tuple #[.int .i64 (x : Int), .int .i64 ((at0 + k : Nat) : Int), .bool true]
/-- Where GetNum stands. -/
def GetInv (l : List UInt8) (at0 k x : Nat) : Prop := getF (9 - k) k (128 ^ k) x (l.drop (at0 + k)) = getB (l.drop at0) ∧ k ≤ 9 ∧ x < 128 ^ k
theorem GetInv.start (l : List UInt8) (at0 : Nat) : GetInv l at0 0 0 := ⟨rfl, by omega, by simp⟩
theorem pow_step (k x d : Nat) (h : x < 128 ^ k) : x + d % 128 * 128 ^ k < 128 ^ (k + 1) := by
  have h1 : d % 128 * 128 ^ k ≤ 127 * 128 ^ k := Nat.mul_le_mul_right _ (by omega)
  rw [Nat.pow_succ]
  omega
theorem pow_le8 {k : Nat} (h : k ≤ 8) : 128 ^ k ≤ 72057594037927936 := Nat.le_trans (Nat.pow_le_pow_right (n := 128) (by omega) h) (by decide)
theorem pow_le9 {k : Nat} (h : k ≤ 8) : 128 ^ (k + 1) ≤ 9223372036854775808 := Nat.le_trans (Nat.pow_le_pow_right (n := 128) (by omega) (show k + 1 ≤ 9 by omega)) (by decide)
theorem GetInv.more {l : List UInt8} {at0 k x : Nat} (h : GetInv l at0 k x) (hk : k < 9) (hl : at0 + k < l.length) (hd : ¬ l[at0 + k].toNat < 128) : GetInv l at0 (k + 1) (x + l[at0 + k].toNat % 128 * 128 ^ k) := by
  obtain ⟨h1, h2, h3⟩ := h
  refine ⟨?_, by omega, pow_step k x _ h3⟩
  rw [← h1, show 9 - k = (9 - (k + 1)) + 1 by omega, List.drop_eq_getElem_cons hl]
  simp only [getF, hd, if_false]
  rw [← Nat.pow_succ, Nat.add_assoc]
theorem GetInv.stop {l : List UInt8} {at0 k x : Nat} (h : GetInv l at0 k x) (hk : k < 9) (hl : at0 + k < l.length) (hd : l[at0 + k].toNat < 128) :
    getB (l.drop at0) = if l[at0 + k].toNat = 0 ∧ 0 < k then none else some (x + l[at0 + k].toNat % 128 * 128 ^ k, k + 1) := by
  obtain ⟨h1, h2, h3⟩ := h
  rw [← h1, show 9 - k = (9 - (k + 1)) + 1 by omega, List.drop_eq_getElem_cons hl]
  simp only [getF, hd, if_true]
theorem GetInv.none {l : List UInt8} {at0 k x : Nat} (h : GetInv l at0 k x) (hk : 9 ≤ k ∨ l.length ≤ at0 + k) : getB (l.drop at0) = Option.none := by
  obtain ⟨h1, h2, h3⟩ := h
  rw [← h1]
  rcases hk with hk | hk
  · rw [show 9 - k = 0 by omega]; rfl
  · rw [List.drop_eq_nil_of_le hk]
    cases 9 - k <;> rfl
theorem getB_nil (l : List UInt8) (n : Nat) (h : l.length ≤ n) : getB (l.drop n) = Option.none := by rw [List.drop_eq_nil_of_le h]; rfl
theorem toNat_ofNat (n : Nat) (h : n < 256) : (UInt8.ofNat n).toNat = n := by simp; omega
/-- A number form is read as its number, whatever stands behind it. -/
theorem getF_num (n k u x y : Nat) (r : List UInt8) (hy : y < 128 ^ (n + 1)) (h0 : 0 < k → 0 < y) : getF (n + 1) k u x (numF (n + 1) y ++ r) = some (x + y * u, k + (numF (n + 1) y).length) := by
  induction n generalizing k u x y with
  | zero =>
    have hy' : y < 128 := by simpa using hy
    rw [numF_small hy']
    simp only [List.cons_append, List.nil_append, getF, toNat_ofNat y (by omega), hy', if_true, List.length_singleton]
    rw [if_neg (by omega), Nat.mod_eq_of_lt hy']
  | succ n ih =>
    by_cases hs : y < 128
    · rw [numF_small hs]
      simp only [List.cons_append, List.nil_append, getF, toNat_ofNat y (by omega), hs, if_true, List.length_singleton]
      rw [if_neg (by omega), Nat.mod_eq_of_lt hs]
    · rw [numF_big hs]
      have hd : ¬ y % 128 + 128 < 128 := by omega
      simp only [List.cons_append]
      rw [getF]
      simp only [toNat_ofNat (y % 128 + 128) (by omega), hd, if_false]
      rw [ih (k + 1) (u * 128) (x + (y % 128 + 128) % 128 * u) (y / 128) (by rw [Nat.pow_succ] at hy; omega) (by omega)]
      have e1 : (y % 128 + 128) % 128 = y % 128 := by omega
      have e2 : y % 128 * u + y / 128 * (u * 128) = y * u := by
        have : y / 128 * (u * 128) = (128 * (y / 128)) * u := by rw [Nat.mul_comm u 128, ← Nat.mul_assoc, Nat.mul_comm (y / 128) 128]
        rw [this, ← Nat.add_mul, Nat.mod_add_div]
      rw [e1, Nat.add_assoc, e2, List.length_cons]
      congr 2
      omega
theorem getB_num (y : Nat) (r : List UInt8) (hy : y ≤ 9223372036854775807) : getB (numB y ++ r) = some (y, (numB y).length) := by
  have h := getF_num 8 0 1 0 y r (by have : 128 ^ (8 + 1) = 9223372036854775808 := by decide
                                     omega) (by omega)
  simpa [getB, numB] using h
end Go.Proofs.Ytcjchbapeoeaeaa
