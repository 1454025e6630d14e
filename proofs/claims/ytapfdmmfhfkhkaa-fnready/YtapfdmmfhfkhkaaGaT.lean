/- Several texts in one: NumP, NumS, GetP, GetS, TextS, TextG, MarkT. -/
import Derived.Test.YtapfdmmfhfkhkaaGaA
import Derived.Laws.AppendOwn
import Derived.OwnWalk
import Derived.Lib.ConvBytes
import Derived.Lib.Strings
import Derived.Laws.BytesArg
import Derived.Laws.IdiomStrings
namespace Go.Proofs.Ytapfdmmfhfkhkaa

def numF : Nat → Nat → List UInt8
 | 0, _ => []
 | n + 1, x => if x < 128 then [UInt8.ofNat x] else UInt8.ofNat (x % 128 + 128) :: numF n (x / 128)
def numB (x : Nat) : List UInt8 := numF 9 x
theorem numF_small {n x : Nat} (h : x < 128) : numF (n + 1) x = [UInt8.ofNat x] := by simp [numF, h]
theorem numF_big {n x : Nat} (h : ¬ x < 128) : numF (n + 1) x = UInt8.ofNat (x % 128 + 128) :: numF n (x / 128) := by simp [numF, h]
def NumInv (x m : Nat) (l : List UInt8) : Prop := l ++ numF (9 - l.length) m = numB x ∧ l.length ≤ 8 ∧ m < 128 ^ (9 - l.length)
theorem NumInv.step {x m : Nat} {l : List UInt8} (h : NumInv x m l) (hm : ¬ m < 128) : NumInv x (m / 128) (l ++ [UInt8.ofNat (m % 128 + 128)]) := by
 obtain ⟨h1, h2, h3⟩ := h
 have h8 : l.length ≤ 7 := by
  rcases Nat.lt_or_ge l.length 8 with h | h
  ·omega
  ·have : 9 - l.length = 1 := by omega
   rw [this] at h3
   omega
 have e : 9 - l.length = (9 - (l.length + 1)) + 1 := by omega
 refine ⟨?_, by simp; omega, ?_⟩
 ·rw [← h1, e, numF_big hm]
  simp
 ·rw [e, Nat.pow_succ] at h3
  rw [List.length_append, List.length_singleton]
  omega
theorem NumInv.done {x m : Nat} {l : List UInt8} (h : NumInv x m l) (hm : m < 128) : l ++ [UInt8.ofNat m] = numB x := by
 obtain ⟨h1, h2, h3⟩ := h
 have e : 9 - l.length = (8 - l.length) + 1 := by omega
 rw [← h1, e, numF_small hm]
end Go.Proofs.Ytapfdmmfhfkhkaa
namespace Go.Proofs.Ytapfdmmfhfkhkaa
open Go.ChangeShapes Go.WideShapes Go.ChangeAt Go.RowKit
set_option linter.unusedVariables false

end Go.Proofs.Ytapfdmmfhfkhkaa
namespace Go.Proofs.Ytapfdmmfhfkhkaa

def getF : Nat → Nat → Nat → Nat → List UInt8 → Option (Nat × Nat)
 | 0, _, _, _, _ => none
 | _ + 1, _, _, _, [] => none
 | n + 1, k, u, x, d :: r => if d.toNat < 128 then (if d.toNat = 0 ∧ 0 < k then none else some (x + d.toNat % 128 * u, k + 1)) else getF n (k + 1) (u * 128) (x + d.toNat % 128 * u) r
def getB (l : List UInt8) : Option (Nat × Nat) := getF 9 0 1 0 l
def GetInv (l : List UInt8) (at0 k x : Nat) : Prop := getF (9 - k) k (128 ^ k) x (l.drop (at0 + k)) = getB (l.drop at0) ∧ k ≤ 9 ∧ x < 128 ^ k
theorem pow_step (k x d : Nat) (h : x < 128 ^ k) : x + d % 128 * 128 ^ k < 128 ^ (k + 1) := by
 have h1 : d % 128 * 128 ^ k ≤ 127 * 128 ^ k := Nat.mul_le_mul_right _ (by omega)
 rw [Nat.pow_succ]
 omega
theorem GetInv.more {l : List UInt8} {at0 k x : Nat} (h : GetInv l at0 k x) (hk : k < 9) (hl : at0 + k < l.length) (hd : ¬ l[at0 + k].toNat < 128) : GetInv l at0 (k + 1) (x + l[at0 + k].toNat % 128 * 128 ^ k) := by
 obtain ⟨h1, h2, h3⟩ := h
 refine ⟨?_, by omega, pow_step k x _ h3⟩
 rw [← h1, show 9 - k = (9 - (k + 1)) + 1 by omega, List.drop_eq_getElem_cons hl]
 simp only [getF, hd, if_false]
 rw [← Nat.pow_succ, Nat.add_assoc]
theorem GetInv.none {l : List UInt8} {at0 k x : Nat} (h : GetInv l at0 k x) (hk : 9 ≤ k ∨ l.length ≤ at0 + k) : getB (l.drop at0) = Option.none := by
 obtain ⟨h1, h2, h3⟩ := h
 rw [← h1]
 rcases hk with hk | hk
 ·rw [show 9 - k = 0 by omega]; rfl
 ·rw [List.drop_eq_nil_of_le hk]
  cases 9 - k <;> rfl
end Go.Proofs.Ytapfdmmfhfkhkaa
namespace Go.Proofs.Ytapfdmmfhfkhkaa
open Go.ChangeShapes Go.WideShapes Go.ChangeAt Go.RowKit
set_option linter.unusedVariables false

end Go.Proofs.Ytapfdmmfhfkhkaa
namespace Go.Proofs.Ytapfdmmfhfkhkaa
open Go.ChangeShapes Go.WideShapes Go.ChangeAt Go.RowKit
set_option linter.unusedVariables false

end Go.Proofs.Ytapfdmmfhfkhkaa
namespace Go.Proofs.Ytapfdmmfhfkhkaa
open Go.ChangeShapes Go.WideShapes Go.ChangeAt Go.RowKit
set_option linter.unusedVariables false

def gtextB (l : List UInt8) (at0 : Nat) : Option (List UInt8 × Nat) := match getB (l.drop at0) with
 | none => none
 | some (n, k) => if n + (at0 + k) ≤ l.length then some ((l.drop (at0 + k)).take n, at0 + k + n) else none
theorem take_cells {w : World} {b off p n : Nat} {bs : List UInt8} (hc : ∀ i (h : i < bs.length), w.cell? ⟨b, off + i, none⟩ = some (.int .u8 (bs[i].toNat : Int))) (h : p + n ≤ bs.length) :
  ∀ j (hj : j < ((bs.drop p).take n).length), w.cell? ((⟨b, off + p, none⟩ : Addr).add j) = some (.int .u8 (((bs.drop p).take n)[j].toNat : Int)) := by
 intro j hj
 have hl : ((bs.drop p).take n).length = n := by simp; omega
 have e : (⟨b, off + p, none⟩ : Addr).add j = ⟨b, off + (p + j), none⟩ := by unfold Addr.add; split <;> simp_all <;> omega
 rw [e, hc (p + j) (by omega)]
 simp
theorem conv_cut {w : World} {b off p n cap : Nat} {bs : List UInt8} (hc : ∀ i (h : i < bs.length), w.cell? ⟨b, off + i, none⟩ = some (.int .u8 (bs[i].toNat : Int))) (h : p + n ≤ bs.length) :
  (convert 22 9 (.slice (some ⟨b, off + p, none⟩) n cap)).run Try.prog w = .ok (.string ⟨((bs.drop p).take n).toArray⟩) w := by
 have hl : ((bs.drop p).take n).length = n := by simp; omega
 have := run_convert_bytes_back (P := Try.prog) w 22 9 5 ⟨b, off + p, none⟩ cap ((bs.drop p).take n) Try.underlying22 Try.underlying5 Try.underlying9 (take_cells hc h)
 rwa [hl] at this
theorem conv_none {w : World} (b off : Nat) (cap : Nat) : (convert 22 9 (.slice (some ⟨b, off, none⟩) 0 cap)).run Try.prog w = .ok (.string ⟨#[]⟩) w := by
 have := run_convert_bytes_back (P := Try.prog) w 22 9 5 ⟨b, off, none⟩ cap [] Try.underlying22 Try.underlying5 Try.underlying9 (fun j hj => by simp at hj)
 exact this
end Go.Proofs.Ytapfdmmfhfkhkaa
namespace Go.Proofs.Ytapfdmmfhfkhkaa
open Go.ChangeShapes Go.WideShapes Go.ChangeAt Go.RowKit
set_option linter.unusedVariables false
set_option maxRecDepth 100000

end Go.Proofs.Ytapfdmmfhfkhkaa
