/- spec's StoreCrash. -/
import Derived.Test.YtejmfohkobhidaaStF
import Derived.Test.YtejmfohkobhidaaStepP
namespace Go.Proofs.Ytejmfohkobhidaa
open Go.ChangeShapes Go.WideShapes Go.ChangeAt Go.RowKit
set_option linter.unusedVariables false
set_option linter.unusedSimpArgs false
set_option maxRecDepth 100000

open Classical in
/-- StoreCrash. -/
noncomputable def crashM (s : St) (keep : Int) : St × Bool := if stP s then (if crashP s keep then (⟨crashK s keep, [], s.lock⟩, true) else (s, false)) else (zeroSt, false)
theorem crashM_bad {s : St} {keep : Int} (h : ¬ stP s) : crashM s keep = (zeroSt, false) := if_neg h
theorem crashM_no {s : St} {keep : Int} (h : stP s) (hp : ¬ crashP s keep) : crashM s keep = (s, false) := (if_pos h).trans (if_neg hp)
theorem crashM_yes {s : St} {keep : Int} (h : stP s) (hp : crashP s keep) : crashM s keep = (⟨crashK s keep, [], s.lock⟩, true) := (if_pos h).trans (if_pos hp)
theorem i64_and1E (n : Int) : bits .and .i64 n 1 = n % 2 := by
  have h1 : (BitVec.ofInt 64 1).toNat = 2 ^ 1 - 1 := by decide
  have key : (BitVec.ofInt 64 n &&& BitVec.ofInt 64 1).toNat = (n % ((2 ^ 64 : Nat) : Int)).toNat % 2 ^ 1 := by
    rw [BitVec.toNat_and, BitVec.toNat_ofInt, h1, Nat.and_two_pow_sub_one_eq_mod]
  show IntKind.i64.wrap ((BitVec.ofInt 64 n &&& BitVec.ofInt 64 1).toNat : Nat) = n % 2
  rw [key, IntKind.wrap_i64]
  omega
end Go.Proofs.Ytejmfohkobhidaa
