/- A row of eras that is read and whose whole block is ours may be appended to. -/
import Derived.Test.YtfipenjojgflmaaDoorRgM
namespace Go.Proofs.YtfipenjojgflmaaDoor
open Go.ChangeShapes Go.WideShapes Go.ChangeAt Go.RowKit
set_option linter.unusedVariables false

theorem cell_of_block {W : World} {g t : Nat} {cur : Array Value} {T : TypeId} {f : Nat × Nat} (h : W.heap[g]? = some (.cells cur T f)) : W.cell? ⟨g, t, none⟩ = cur[t]? := by
  simp [World.cell?, h]
theorem ApR.of_full {W : World} {lo c : Nat} {a : Option Addr} {rs : List (Nst Er)} (h : OwnRw 3 erCl W lo (.slice a rs.length c) rs) (hF : Full W lo (.slice a rs.length c)) : ApR 37 3 erCl W lo (.slice a rs.length c) rs := by
  rcases hF with ⟨a', e⟩ | ⟨g, n, cap, cur, e, h0, hg, hnc, hc, hs⟩
  · simp only [Value.slice.injEq] at e
    obtain ⟨rfl, e1, e2⟩ := e
    exact .inl ⟨List.eq_nil_of_length_eq_zero e1, a, by rw [e1, e2]⟩
  · simp only [Value.slice.injEq] at e
    obtain ⟨rfl, e1, e2⟩ := e
    subst e1
    subst e2
    refine .inr ⟨fcells_len erCl_len rs, .inr ⟨g, c, cur, rfl, h0, hg, hnc, hc, hs, ?_⟩⟩
    obtain ⟨-, a', c', e', -, h⟩ := h
    simp only [Value.slice.injEq] at e'
    obtain ⟨e1, -, rfl⟩ := e'
    have hl : (cur.toList.take (rs.length * 3)).length = rs.length * 3 := by
      have h1 : cur.toList.length = c * 3 := by simpa using hs
      rw [List.length_take, h1]
      have : rs.length * 3 ≤ c * 3 := Nat.mul_le_mul_right _ hnc
      omega
    refine List.ext_getElem? fun t => ?_
    rcases Nat.lt_or_ge t (rs.length * 3) with ht | ht
    · have hi : t / 3 < rs.length := by omega
      rcases h with h | ⟨b, off, hb, -, hc'⟩
      · subst h; simp at hi
      · rw [← e1] at hb
        simp only [Option.some.injEq, Addr.mk.injEq, and_true] at hb
        obtain ⟨rfl, rfl⟩ := hb
        have hj : t % 3 < (erCl rs[t / 3]).length := by rw [erCl_len]; omega
        have h1 := (hc' (t / 3) hi (t % 3) _ (List.getElem?_eq_getElem hj)).1
        have h2 := fcells_at erCl_len rs (t / 3) hi (t % 3) _ (List.getElem?_eq_getElem hj)
        have et : 0 + t / 3 * 3 + t % 3 = t := by omega
        have et' : t / 3 * 3 + t % 3 = t := by omega
        rw [et, cell_of_block hg] at h1
        rw [et'] at h2
        rw [h2, List.getElem?_take_of_lt ht, Array.getElem?_toList, h1]
    · rw [List.getElem?_eq_none (by omega), List.getElem?_eq_none (by rw [fcells_len erCl_len]; omega)]
end Go.Proofs.YtfipenjojgflmaaDoor
