/- What a law over bytes is told of its argument, as the frame says it, in the words of the draws. -/
import Derived.Test.YtmgomacmaidmlaaGreatDoorDrawA
namespace Go.Proofs.YtmgomacmaidmlaaGreatDoor
open Go.ChangeShapes Go.WideShapes Go.ChangeAt Go.RowKit

/-- A slice of integers that came in: nil, or a row of 'cap' cells, the numbers 'zs'. -/
def IsRow (k : IntKind) (w : World) (a : Option Addr) (len cap : Nat) (zs : List Int) : Prop :=
  (a = none ∧ len = 0 ∧ cap = 0 ∧ zs = []) ∨
  ∃ x, a = some x ∧ len ≤ cap ∧ cap ≤ maxLen ∧ zs.length = cap ∧ (∀ i, i < zs.length → w.cell? (x.add i) = some (.int k (zs.getD i 0))) ∧ ∀ n ∈ zs, (Lit.int k n).wf = true
theorem row8_of {w : World} {a : Option Addr} {len cap : Nat} {zs : List Int} (h : IsRow .u8 w a len cap zs) : Row8 w a len := by
  rcases h with ⟨-, rfl, -, -⟩ | ⟨x, rfl, h1, h2, h3, h4, h5⟩
  · exact ⟨by omega, .inl rfl⟩
  · have hm : maxLen = 9223372036854775807 := rfl
    refine ⟨by omega, ?_⟩
    rcases Nat.eq_zero_or_pos len with h0 | h0
    · exact .inl h0
    · obtain ⟨b, off, rfl, hc⟩ := ints_at h4 (by omega)
      refine .inr ⟨b, off, rfl, fun i hi => ?_⟩
      have hi' : i < zs.length := by omega
      have hcell := hc i hi'
      have hg : zs.getD i 0 = zs[i] := by simp [List.getD, hi']
      rw [hg] at hcell
      obtain ⟨l, u⟩ := bounds_u8 (h5 zs[i] (List.getElem_mem hi'))
      exact ⟨zs[i], l, by omega, hcell⟩
end Go.Proofs.YtmgomacmaidmlaaGreatDoor
