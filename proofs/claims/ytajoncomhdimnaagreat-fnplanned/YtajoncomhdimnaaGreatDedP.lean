/- What is in a list without its doubles. -/
import Derived.Test.YtajoncomhdimnaaGreatGaG
namespace Go.Proofs.YtajoncomhdimnaaGreat
open Go.ChangeShapes Go.WideShapes Go.ChangeAt Go.RowKit
set_option linter.unusedVariables false
set_option linter.unusedSimpArgs false
set_option maxRecDepth 100000

theorem mem_fold {y : Int} : ∀ (xs l : List Int), y ∈ xs.foldl addD l ↔ y ∈ l ∨ y ∈ xs
 | [], l => by simp
 | x :: xs, l => by
  rw [List.foldl_cons, mem_fold xs (addD l x), mem_addD, List.mem_cons]
  constructor
  ·rintro ((h | h) | h)
   ·exact .inl h
   ·exact .inr (.inl h)
   ·exact .inr (.inr h)
  ·rintro (h | h | h)
   ·exact .inl (.inl h)
   ·exact .inl (.inr h)
   ·exact .inr h
theorem mem_dedL {y : Int} {xs : List Int} : y ∈ dedL xs ↔ y ∈ xs := by
 unfold dedL
 rw [mem_fold]
 simp
end Go.Proofs.YtajoncomhdimnaaGreat
