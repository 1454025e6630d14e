/- Mends, as the exact laws handle them: marked, held, whole. -/
import Derived.Test.YtaamipmlalplbaaMnSc
namespace Go.Proofs.Ytaamipmlalplbaa
open Go.ChangeShapes Go.WideShapes Go.ChangeAt Go.RowKit
set_option linter.unusedVariables false
set_option linter.unusedSimpArgs false
set_option maxRecDepth 100000

theorem OwN.keepB {lo hi : Nat} {v : Value} {m : List Int} {w w' : World} (h : OwN lo hi v m w) (hb : m = [] ∨ w'.heap[blockOf v]? = w.heap[blockOf v]?) : OwN lo hi v m w' := by
  by_cases hm : m = []
  · obtain ⟨⟨h0, a, cap, e, hcap, -⟩, hl⟩ := h
    exact ⟨⟨h0, a, cap, e, hcap, .inl hm⟩, hl⟩
  · have hlt := h.1.bs.lt.resolve_left hm
    obtain ⟨n1, n2, n3⟩ := h.narrow hm
    have q := (n1.sits hlt).all w' (fun k h1 h2 => by
      have : k = blockOf v := by omega
      subst this
      exact hb.resolve_left hm)
    exact ⟨q.1.mono n2, .inr n3⟩
theorem OwEntryS.keepB {lo hi : Nat} {v : Value} {m : List Ent} {w w' : World} (h : OwEntryS lo hi v m w) (hb : m = [] ∨ w'.heap[blockOf v]? = w.heap[blockOf v]?) : OwEntryS lo hi v m w' := by
  by_cases hm : m = []
  · obtain ⟨⟨h0, a, cap, e, hcap, -⟩, hl⟩ := h
    exact ⟨⟨h0, a, cap, e, hcap, .inl hm⟩, hl⟩
  · have hlt := h.1.lt.resolve_left hm
    obtain ⟨n1, n2, n3⟩ := h.narrow hm
    have q := (n1.sits hlt).all w' (fun k h1 h2 => by
      have : k = blockOf v := by omega
      subst this
      exact hb.resolve_left hm)
    exact ⟨q.1.mono n2, .inr n3⟩
/-- Lists are kept where another block is marked. -/
theorem OwL.marked {lo hi b1 b2 : Nat} {v u : Value} {rs : List (Nst (List Int))} {w w' : World} {p : Prop} (h : OwL lo hi v rs w) (hW : Wr b1 b2 w w') (hd : (p ∧ b1 = 0 ∧ b2 = 0) ∨ (¬ p ∧ b1 = blockOf u ∧ b2 = blockOf u + 1)) (ho : p ∨ Off (blockOf u) v rs) : OwL lo hi v rs w' :=
  h.keep fun k hk hn => hW.block k hk (by
    rcases hd with ⟨-, rfl, rfl⟩ | ⟨hp, rfl, rfl⟩
    · exact .inr (Nat.zero_le _)
    · have := ho.resolve_left hp
      by_cases e : k = blockOf u
      · subst e; exact absurd this hn
      · omega)
theorem Off.mk {k b : Nat} {v : Value} {rs : List (Nst (List Int))} (h : Off b v rs) : Off b v (mkLs k rs) := by
  refine ⟨?_, fun p hp => ?_⟩
  · rcases h.1 with h | h
    · left; subst h; rfl
    · exact .inr h
  · obtain ⟨i, hi, rfl⟩ := List.mem_iff_getElem.1 hp
    have hi' : i < rs.length := by rw [mkLs_len] at hi; exact hi
    rw [mkLs_at k rs i hi', sv_mk]
    rcases h.2 _ (List.getElem_mem hi') with h | h
    · exact .inl ((nil_of_len (marksN_len _ _)).2 h)
    · exact .inr h
theorem nilM {k : Nat} {m : List Int} : marksN k m.length = [] ↔ m = [] := nil_of_len (marksN_len _ _)
end Go.Proofs.Ytaamipmlalplbaa
