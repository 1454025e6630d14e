/- The number form: seven bits a byte, the lowest first; its plain laws. -/
import Derived.Test.YtcjchbapeoeaeaaBytesP
namespace Go.Proofs.Ytcjchbapeoeaeaa

/-- The number form of x, at most n bytes. -/
def numF : Nat → Nat → List UInt8
  | 0, _ => []
  | n + 1, x => if x < 128 then [UInt8.ofNat x] else UInt8.ofNat (x % 128 + 128) :: numF n (x / 128)
/-- The number form of a number below 2^63. -/
def numB (x : Nat) : List UInt8 := numF 9 x
theorem numF_len (n x : Nat) : (numF n x).length ≤ n := by
  induction n generalizing x with
  | zero => simp [numF]
  | succ n ih =>
    simp only [numF]
    split
    · simp
    · have := ih (x / 128); simp; omega
theorem numB_len (x : Nat) : (numB x).length ≤ 9 := numF_len 9 x
theorem numF_small {n x : Nat} (h : x < 128) : numF (n + 1) x = [UInt8.ofNat x] := by simp [numF, h]
theorem numF_big {n x : Nat} (h : ¬ x < 128) : numF (n + 1) x = UInt8.ofNat (x % 128 + 128) :: numF n (x / 128) := by simp [numF, h]
/-- Where PutNum stands: l is written, m is left. -/
def NumInv (x m : Nat) (l : List UInt8) : Prop := l ++ numF (9 - l.length) m = numB x ∧ l.length ≤ 8 ∧ m < 128 ^ (9 - l.length)
theorem NumInv.start {x : Nat} (h : x ≤ 9223372036854775807) : NumInv x x [] := ⟨rfl, by simp, by have : 128 ^ (9 - ([] : List UInt8).length) = 9223372036854775808 := by decide
                                                                                                  omega⟩
theorem NumInv.step {x m : Nat} {l : List UInt8} (h : NumInv x m l) (hm : ¬ m < 128) : NumInv x (m / 128) (l ++ [UInt8.ofNat (m % 128 + 128)]) := by
  obtain ⟨h1, h2, h3⟩ := h
  have h8 : l.length ≤ 7 := by
    rcases Nat.lt_or_ge l.length 8 with h | h
    · omega
    · have : 9 - l.length = 1 := by omega
      rw [this] at h3
      omega
  have e : 9 - l.length = (9 - (l.length + 1)) + 1 := by omega
  refine ⟨?_, by simp; omega, ?_⟩
  · rw [← h1, e, numF_big hm]
    simp
  · rw [e, Nat.pow_succ] at h3
    rw [List.length_append, List.length_singleton]
    omega
theorem NumInv.done {x m : Nat} {l : List UInt8} (h : NumInv x m l) (hm : m < 128) : l ++ [UInt8.ofNat m] = numB x := by
  obtain ⟨h1, h2, h3⟩ := h
  have e : 9 - l.length = (8 - l.length) + 1 := by omega
  rw [← h1, e, numF_small hm]
theorem bcells_snoc (l : List UInt8) (c : UInt8) : bcells (l ++ [c]) = bcells l ++ [.int .u8 (c.toNat : Int)] := by simp [bcells]
theorem bcells_len (l : List UInt8) : (bcells l).length = l.length := by simp [bcells]
end Go.Proofs.Ytcjchbapeoeaeaa
