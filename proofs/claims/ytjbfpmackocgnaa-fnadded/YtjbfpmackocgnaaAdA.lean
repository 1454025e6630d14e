/- What is there when a word is added. -/
import Derived.Test.YtjbfpmackocgnaaWrH
import Derived.Test.YtjbfpmackocgnaaDwA
import Derived.Test.YtjbfpmackocgnaaL8SureTo
namespace Go.Proofs.Ytjbfpmackocgnaa
open Go.ChangeShapes Go.WideShapes Go.ChangeAt Go.RowKit
set_option linter.unusedVariables false

theorem add_sure (ms : List Wd) (d : ByteArray) : sureL (ms ++ [⟨d, [], false⟩]) ≤ ms.length := by
  obtain ⟨h1, h2, -⟩ := sure_spec (ms ++ [⟨d, [], false⟩])
  rcases Nat.lt_or_ge ms.length (sureL (ms ++ [⟨d, [], false⟩])) with h | h
  · have := h2 ms.length (by simp) h
    simp at this
  · exact h
theorem add_fit {m : Wt} {d : ByteArray} (h : fitW 60 m) (hd : d.size ≤ 41) : okWriter (addW m d) ∧ sizWriter (addW m d) ≤ 1048576 := by
  have q : fitW 61 (addW m d) := ⟨by have := h.1; simp [addW]; omega, fun e he => by
    simp only [addW, List.mem_append, List.mem_singleton] at he
    rcases he with he | rfl
    · obtain ⟨h1, h2, h3⟩ := h.2.1 e he
      exact ⟨h1, by omega, h3⟩
    · exact ⟨hd, by simp, by intro x hx; cases hx⟩, h.2.2⟩
  exact ⟨q.ok, q.siz (by omega)⟩
end Go.Proofs.Ytjbfpmackocgnaa
