/- Words that may be appended to: one word's nodes are others, one word is done. -/
import Derived.Test.YtjbfpmackocgnaaWrI
import Derived.Test.YtjbfpmackocgnaaWrH
import Derived.Test.YtjbfpmackocgnaaGaG
namespace Go.Proofs.Ytjbfpmackocgnaa
open Go.ChangeShapes Go.WideShapes Go.ChangeAt Go.RowKit
set_option linter.unusedVariables false
set_option linter.unusedSimpArgs false
set_option maxRecDepth 100000

/-- Words in memory of their own, each list apart. -/
def WPs (w : World) (base : Nat) (v : Value) (rs : List (Nst Wd)) : Prop :=
  ApR 35 3 wdCl w base v rs ∧ (∀ p ∈ rs, OwnN w base (Sv Wd.acks p) p.m.acks) ∧
    (∀ i j (hi : i < rs.length) (hj : j < rs.length), i ≠ j → rs[i].m.acks = [] ∨ rs[j].m.acks = [] ∨ blockOf (Sv Wd.acks rs[i]) ≠ blockOf (Sv Wd.acks rs[j])) ∧ ∀ i (hi : i < rs.length), rs[i].m.acks = [] ∨ touch v ≠ some (blockOf (Sv Wd.acks rs[i]))
theorem WAp.ps {w : World} {base : Nat} {v : Value} {ms : List Wd} (h : WAp w base v ms) : ∃ rs, rs.map Nst.m = ms ∧ WPs w base v rs := h
theorem WPs.ap {w : World} {base : Nat} {v : Value} {rs : List (Nst Wd)} (h : WPs w base v rs) : WAp w base v (rs.map Nst.m) := ⟨rs, rfl, h⟩
theorem WPs.below {w w' : World} {base : Nat} {v : Value} {rs : List (Nst Wd)} (h : WPs w base v rs) (hb : Below w.heap.size w w') : WPs w' base v rs := by
  obtain ⟨h2, h3, h4⟩ := h
  exact ⟨h2.below hb, fun p hp => (h3 p hp).below hb, h4⟩
theorem WPs.mono {w : World} {base base' : Nat} {v : Value} {rs : List (Nst Wd)} (h : WPs w base v rs) (hb : base' ≤ base) : WPs w base' v rs := by
  obtain ⟨h2, h3, h4⟩ := h
  exact ⟨h2.mono hb, fun p hp => (h3 p hp).mono hb, h4⟩
/-- A row that has words begins a block. -/
theorem WPs.head {w : World} {base : Nat} {v : Value} {rs : List (Nst Wd)} (h : WPs w base v rs) (hk : 0 < rs.length) : ∃ g cap, v = .slice (some ⟨g, 0, none⟩) rs.length cap ∧ rs.length ≤ cap ∧ base ≤ g ∧ g < w.heap.size ∧ touch v = some g := by
  rcases h.1 with ⟨h', -⟩ | h'
  · subst h'; simp at hk
  · rcases h'.2 with ⟨-, h0⟩ | ⟨g, cap, cur, rfl, hb, hg, hnc, -⟩
    · omega
    · have hc : cap ≠ 0 := by omega
      exact ⟨g, cap, rfl, hnc, hb, (Array.getElem?_eq_some_iff.1 hg).1, by simp [touch, hc]⟩
/-- The cells of one word of such a row. -/
theorem WPs.cells {w : World} {base g n cap : Nat} {rs : List (Nst Wd)} (h : WPs w base (.slice (some ⟨g, 0, none⟩) n cap) rs) {k : Nat} (hk : k < rs.length) : (w.cell? ⟨g, k * 3, none⟩ = some (.string rs[k].m.data) ∧ w.cell? ⟨g, k * 3 + 1, none⟩ = some (.slice rs[k].a rs[k].m.acks.length rs[k].c) ∧ w.cell? ⟨g, k * 3 + 2, none⟩ = some (.bool rs[k].m.done)) ∧ w.frozen? ⟨g, k * 3 + 1, none⟩ = false ∧ w.frozen? ⟨g, k * 3 + 2, none⟩ = false := by
  obtain ⟨-, a, c, e, -, hc⟩ := ApR.own elemW h.1
  simp only [Value.slice.injEq] at e
  obtain ⟨b, off, ea, -, hce⟩ := orR_of_lt hc hk
  have eb : (⟨b, off, none⟩ : Addr) = ⟨g, 0, none⟩ := by have := e.1; rw [ea] at this; exact (Option.some.inj this).symm
  cases eb
  have q0 := hce k hk 0 _ rfl
  have q1 := hce k hk 1 _ rfl
  have q2 := hce k hk 2 _ rfl
  simp only [Nat.zero_add, Nat.add_zero, Sv] at q0 q1 q2
  exact ⟨⟨q0.1, q1.1, q2.1⟩, q1.2, q2.2⟩
/-- One word has other nodes: in memory of their own, or where its own were. -/
theorem WPs.upd {w w2 : World} {base g n cap k : Nat} {rs : List (Nst Wd)} {row : Option Nat} (h : WPs w base (.slice (some ⟨g, 0, none⟩) n cap) rs) (hk : k < rs.length) (hg : w.grownBy w2 row) (hrow : row = none ∨ (rs[k].m.acks ≠ [] ∧ row = some (blockOf (Sv Wd.acks rs[k])))) (p : Nst Wd) (ho : OwnN w2 base (Sv Wd.acks p) p.m.acks)
    (hpb : p.m.acks = [] ∨ (rs[k].m.acks ≠ [] ∧ blockOf (Sv Wd.acks p) = blockOf (Sv Wd.acks rs[k])) ∨ w.heap.size ≤ blockOf (Sv Wd.acks p)) (hd : p.m.data = rs[k].m.data) (hdn : p.m.done = rs[k].m.done) : WPs (w2.setCell ⟨g, k * 3 + 1, none⟩ (Sv Wd.acks p)) base (.slice (some ⟨g, 0, none⟩) n cap) (rs.set k p) := by
  obtain ⟨g', cap', e, hcap, hgb, hgl, ht⟩ := h.head (by omega)
  simp only [Value.slice.injEq, Option.some.injEq, Addr.mk.injEq, and_true] at e
  obtain ⟨rfl, -, rfl⟩ := e
  obtain ⟨h2, h3, h4, h5⟩ := h
  rw [ht] at h5
  have hr1 : row = none ∨ touch (.slice (some ⟨g, 0, none⟩) n cap) ≠ row := by
    rcases hrow with h | ⟨h, h'⟩
    · exact .inl h
    · right
      rw [ht, h']
      exact (h5 k hk).resolve_left h
  have at_ : ∀ i (hi : i < (rs.set k p).length) (hi' : i < rs.length), i ≠ k → (rs.set k p)[i] = rs[i] := fun i hi hi' hne => List.getElem_set_ne (Ne.symm hne) _
  have atk : ∀ (hi : k < (rs.set k p).length), (rs.set k p)[k] = p := fun hi => List.getElem_set_self _
  have lt : ∀ i (hi : i < rs.length), rs[i].m.acks = [] ∨ blockOf (Sv Wd.acks rs[i]) < w.heap.size := fun i hi => (h3 _ (List.getElem_mem hi)).bs.lt
  have gp : p.m.acks = [] ∨ some g ≠ some (blockOf (Sv Wd.acks p)) := by
    rcases hpb with h | ⟨h, h'⟩ | h
    · exact .inl h
    · right; rw [h']; exact (h5 k hk).resolve_left h
    · right; intro e; have := Option.some.inj e; omega
  have pi : ∀ i (hi : i < rs.length), i ≠ k → rs[i].m.acks = [] ∨ p.m.acks = [] ∨ blockOf (Sv Wd.acks rs[i]) ≠ blockOf (Sv Wd.acks p) := fun i hi hne => by
    rcases hpb with h | ⟨h, h'⟩ | h
    · exact .inr (.inl h)
    · rcases h4 i k hi hk hne with q | q | q
      · exact .inl q
      · exact absurd q h
      · exact .inr (.inr (by rw [h']; exact q))
    · rcases lt i hi with q | q
      · exact .inl q
      · exact .inr (.inr (by omega))
  refine ⟨?_, fun q hq => ?_, fun i j hi hj hij => ?_, fun i hi => ?_⟩
  · exact ApR.storeW (j := 1) (h2.kept elemW hg hr1) hk (by decide) _ p (by unfold wdCl; rw [hd, hdn]; rfl)
  · obtain ⟨i, hi, rfl⟩ := List.mem_iff_getElem.1 hq
    have hi2 : i < rs.length := by rw [List.length_set] at hi; exact hi
    by_cases e : i = k
    · subst e
      rw [atk hi]
      exact ho.grown (grown_set w2 g (i * 3 + 1) _) gp
    · rw [at_ i hi hi2 e]
      refine ((h3 _ (List.getElem_mem hi2)).grown hg ?_).grown (grown_set w2 g (k * 3 + 1) _) (h5 i hi2)
      rcases hrow with h | ⟨h, h'⟩
      · right; rw [h]; simp
      · rcases h4 i k hi2 hk e with q | q | q
        · exact .inl q
        · exact absurd q h
        · right; rw [h']; intro e'; exact q (Option.some.inj e').symm
  · have hi2 : i < rs.length := by rw [List.length_set] at hi; exact hi
    have hj2 : j < rs.length := by rw [List.length_set] at hj; exact hj
    by_cases e : i = k
    · subst e
      simp only [atk, at_ j hj hj2 (Ne.symm hij)]
      rcases pi j hj2 (Ne.symm hij) with q | q | q
      · exact .inr (.inl q)
      · exact .inl q
      · exact .inr (.inr (Ne.symm q))
    · by_cases e2 : j = k
      · subst e2
        simp only [atk, at_ i hi hi2 e]
        exact pi i hi2 e
      · simp only [at_ i hi hi2 e, at_ j hj hj2 e2]
        exact h4 i j hi2 hj2 hij
  · have hi2 : i < rs.length := by rw [List.length_set] at hi; exact hi
    rw [ht]
    by_cases e : i = k
    · subst e; simp only [atk]; exact gp
    · simp only [at_ i hi hi2 e]; exact h5 i hi2
/-- One word is done, or open. -/
theorem WPs.done {w : World} {base g n cap k : Nat} {rs : List (Nst Wd)} (h : WPs w base (.slice (some ⟨g, 0, none⟩) n cap) rs) (hk : k < rs.length) (x : Bool) : WPs (w.setCell ⟨g, k * 3 + 2, none⟩ (.bool x)) base (.slice (some ⟨g, 0, none⟩) n cap) (rs.set k ⟨rs[k].a, rs[k].c, ⟨rs[k].m.data, rs[k].m.acks, x⟩⟩) := by
  obtain ⟨g', cap', e, hcap, hgb, hgl, ht⟩ := h.head (by omega)
  simp only [Value.slice.injEq, Option.some.injEq, Addr.mk.injEq, and_true] at e
  obtain ⟨rfl, -, rfl⟩ := e
  obtain ⟨h2, h3, h4, h5⟩ := h
  have ev : ∀ i (hi : i < (rs.set k ⟨rs[k].a, rs[k].c, ⟨rs[k].m.data, rs[k].m.acks, x⟩⟩).length) (hi' : i < rs.length), (rs.set k ⟨rs[k].a, rs[k].c, ⟨rs[k].m.data, rs[k].m.acks, x⟩⟩)[i].m.acks = rs[i].m.acks ∧ Sv Wd.acks (rs.set k ⟨rs[k].a, rs[k].c, ⟨rs[k].m.data, rs[k].m.acks, x⟩⟩)[i] = Sv Wd.acks rs[i] := fun i hi hi' => by
    rw [List.getElem_set]
    by_cases e : i = k
    · subst e; rw [if_pos rfl]; exact ⟨rfl, rfl⟩
    · rw [if_neg (Ne.symm e)]; exact ⟨rfl, rfl⟩
  refine ⟨ApR.storeW (j := 2) h2 hk (by decide) _ ⟨rs[k].a, rs[k].c, ⟨rs[k].m.data, rs[k].m.acks, x⟩⟩ rfl, fun q hq => ?_, fun i j hi hj hij => ?_, fun i hi => ?_⟩
  · obtain ⟨i, hi, rfl⟩ := List.mem_iff_getElem.1 hq
    have hi2 : i < rs.length := by rw [List.length_set] at hi; exact hi
    rw [(ev i hi hi2).1, (ev i hi hi2).2]
    have q := h5 i hi2
    rw [ht] at q
    exact (h3 _ (List.getElem_mem hi2)).grown (grown_set w g (k * 3 + 2) _) q
  · have hi2 : i < rs.length := by rw [List.length_set] at hi; exact hi
    have hj2 : j < rs.length := by rw [List.length_set] at hj; exact hj
    rw [(ev i hi hi2).1, (ev i hi hi2).2, (ev j hj hj2).1, (ev j hj hj2).2]
    exact h4 i j hi2 hj2 hij
  · have hi2 : i < rs.length := by rw [List.length_set] at hi; exact hi
    rw [(ev i hi hi2).1, (ev i hi hi2).2]
    exact h5 i hi2
/-- Where a block is written that is none of theirs. -/
theorem WPs.put {w : World} {base b o : Nat} {v : Value} {rs : List (Nst Wd)} (h : WPs w base v rs) (ht : touch v ≠ some b) (hb : ∀ p ∈ rs, p.m.acks = [] ∨ blockOf (Sv Wd.acks p) ≠ b) (u : Value) : WPs (w.setCell ⟨b, o, none⟩ u) base v rs := by
  obtain ⟨h2, h3, h4, h5⟩ := h
  refine ⟨h2.put elemW ht u, fun p hp => (h3 p hp).grown (grown_set w b o u) ?_, h4, h5⟩
  rcases hb p hp with h | h
  · exact .inl h
  · exact .inr fun e => h (Option.some.inj e).symm
end Go.Proofs.Ytjbfpmackocgnaa
