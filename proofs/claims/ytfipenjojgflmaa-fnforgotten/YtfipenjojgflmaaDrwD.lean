/- Drawn lists of nodes: l4DrawNodes. -/
import Derived.Test.YtfipenjojgflmaaDrwC
namespace Go.Proofs.Ytfipenjojgflmaa
open Go.ChangeShapes Go.WideShapes Go.ChangeAt Go.RowKit
set_option linter.unusedVariables false
set_option linter.unusedSimpArgs false

theorem l1Max_one (n : Nat) (w : World) : Calls Try.prog 97 #[.int .i64 (n : Int), .int .i64 1] w fun e w' => e = .returned (.int .i64 ((max n 1 : Nat) : Int)) ∧ w' = w := by
  rcases Nat.eq_zero_or_pos n with h | h
  · subst h
    go_enter Try.func97, Try.ntmps97
    go_wp2
    go_ret
    exact ⟨rfl, rfl⟩
  · rw [Nat.max_eq_left h]
    by_cases h1 : (1 : Int) < (n : Int)
    · go_enter Try.func97, Try.ntmps97
      go_wp2
      go_ret
      exact ⟨rfl, rfl⟩
    · obtain rfl : n = 1 := by omega
      go_enter Try.func97, Try.ntmps97
      go_wp2
      go_ret
      exact ⟨rfl, rfl⟩
theorem rowN_ns {w : World} {B n : Nat} {v : Value} {l : List Int} (h : w.ownsRow B 3 1 v n (ncells l)) : Ns w v l := (ownN_of_row h).bs
theorem rowN_mono {w : World} {B B' n : Nat} {v : Value} {l : List Value} (h : w.ownsRow B 3 1 v n l) (hB : B' ≤ B) : w.ownsRow B' 3 1 v n l := by
  refine ⟨h.1, ?_⟩
  rcases h.2 with h0 | ⟨g, cap, cur, h1, h2, h3⟩
  · exact .inl h0
  · exact .inr ⟨g, cap, cur, h1, by omega, h3⟩
end Go.Proofs.Ytfipenjojgflmaa
