/- Rows of records that are marked one by one: what is not marked yet stays as it was. -/
import Derived.Test.YtaamipmlalplbaaWoA
namespace Go.Proofs.Ytaamipmlalplbaa
open Go.ChangeShapes Go.WideShapes Go.ChangeAt Go.RowKit
set_option linter.unusedVariables false

section
variable {n : Nat} {μ : Type} {Ow : Nat → Nat → Value → μ → World → Prop} {lo hi : Nat} {w wr w2 : World} {b off k : Nat} {rs : List (Pd n μ)} {s : Nat → Nat} {f : Nat → Pd n μ}
/-- The first k are marked. -/
def MkD (Ow : Nat → Nat → Value → μ → World → Prop) (lo hi : Nat) (w wr : World) (b off : Nat) (rs : List (Pd n μ)) (s : Nat → Nat) (k : Nat) : Prop :=
  ∃ f : Nat → Pd n μ, RowG n Pd.c wr b off rs.length f ∧ (∀ i (h : i < rs.length), k ≤ i → f i = rs[i]) ∧ (∀ i (h : i < rs.length), k ≤ i → Ow (s i) (s (i + 1)) rs[i].val rs[i].m wr) ∧ Wr lo hi w wr ∧ hi ≤ wr.heap.size
/-- .. and the one numbered k is being marked. -/
structure MkMid (Ow : Nat → Nat → Value → μ → World → Prop) (lo hi : Nat) (w wr : World) (b off : Nat) (rs : List (Pd n μ)) (s : Nat → Nat) (k : Nat) (f : Nat → Pd n μ) : Prop where
  row : RowG n Pd.c wr b off rs.length f
  same : ∀ i (h : i < rs.length), k < i → f i = rs[i]
  own : ∀ i (h : i < rs.length), k < i → Ow (s i) (s (i + 1)) rs[i].val rs[i].m wr
  wrote : Wr lo hi w wr
  fit : hi ≤ wr.heap.size
theorem MkD.start (h : MkD Ow lo hi w wr b off rs s k) (hk : k < rs.length) : ∃ f, MkMid Ow lo hi w wr b off rs s k f ∧ f k = rs[k] ∧ Ow (s k) (s (k + 1)) rs[k].val rs[k].m wr := by
  obtain ⟨f, h1, h2, h3, h4, h5⟩ := h
  exact ⟨f, ⟨h1, fun i hi hk' => h2 i hi (by omega), fun i hi hk' => h3 i hi (by omega), h4, h5⟩, h2 k hk (Nat.le_refl _), h3 k hk (Nat.le_refl _)⟩
theorem MkMid.fin (h : MkMid Ow lo hi w wr b off rs s k f) : MkD Ow lo hi w wr b off rs s (k + 1) :=
  ⟨f, h.row, fun i hi hk => h.same i hi (by omega), fun i hi hk => h.own i hi (by omega), h.wrote, h.fit⟩
theorem MkMid.put (hS : SitsOf Ow) (h : MkMid Ow lo hi w wr b off rs s k f) (hk : k < rs.length) (hb1 : lo ≤ b) (hs0 : b < s 0) (hsp : Spn s rs.length lo hi) (j : Nat) (hj : j < n) (u : Value) (e : Pd n μ) (he : e.c = (f k).c.set j u) : MkMid Ow lo hi w (wr.setCell ⟨b, off + k * n + j, none⟩ u) b off rs s k (putG f k e) := by
  have hbh : b < hi := by have := hsp.hi 0 (Nat.zero_le _); omega
  refine ⟨h.row.put Pd.len hk j hj u e he, fun i hi hki => ?_, fun i hi hki => ?_, h.wrote.set hb1 hbh u, by simpa using h.fit⟩
  · rw [putG_ne _ _ (by omega)]
    exact h.same i hi hki
  · have a1 := hsp.mono i 0 (Nat.zero_le _) (by omega)
    have a2 := hsp.hi (i + 1) (by omega)
    have a3 := h.fit
    exact ((hS (h.own i hi hki) (by omega)).put (.inl (by omega)) u).now
theorem MkMid.sub (hS : SitsOf Ow) (h : MkMid Ow lo hi w wr b off rs s k f) (hk : k < rs.length) (hs0 : b < s 0) (hsp : Spn s rs.length lo hi) (hW : Wr (s k) (s (k + 1)) wr w2) : MkMid Ow lo hi w w2 b off rs s k f := by
  have l0 := hsp.lo k (by omega)
  have l1 := hsp.hi (k + 1) (by omega)
  have l2 := hsp.mono k 0 (Nat.zero_le _) (by omega)
  refine ⟨h.row.wr hW (.inl (by omega)), h.same, fun i hi hki => ?_, h.wrote.trans (hW.wider l0 l1), Nat.le_trans h.fit hW.size⟩
  have a1 := hsp.mono i (k + 1) (by omega) (by omega)
  have a2 := hsp.hi (i + 1) (by omega)
  have a3 := h.fit
  exact ((hS (h.own i hi hki) (by omega)).wr hW (.inr (by omega))).now
theorem MkMid.at (h : MkMid Ow lo hi w wr b off rs s k f) (hk : k < rs.length) (j : Nat) (u : Value) (hu : (f k).c[j]? = some u) : wr.cell? ⟨b, off + k * n + j, none⟩ = some u ∧ wr.frozen? ⟨b, off + k * n + j, none⟩ = false := h.row k hk j u hu
theorem OwD.marks {v : Value} {ms : List μ} {a : Option Addr} {m cap : Nat} (h : OwD n Ow lo hi (.slice a m cap) ms w) (hf : hi ≤ w.heap.size) (z : Pd n μ) : (ms = [] ∨ ∃ b off, ∃ rs : List (Pd n μ), ∃ s : Nat → Nat, a = some ⟨b, off, none⟩ ∧ rs.map Pd.m = ms ∧ lo ≤ b ∧ b < s 0 ∧ Spn s rs.length lo hi ∧ MkD Ow lo hi w w b off rs s 0) := by
  obtain ⟨rs, s, h1, h2, h3, h4, h5⟩ := h
  rcases Nat.eq_zero_or_pos rs.length with h0 | h0
  · left
    rw [← h1, List.length_eq_zero_iff.1 h0]
    rfl
  · right
    obtain ⟨b, off, rfl, hb1, Z0⟩ := h2.rowG h0 z
    have hs0 : b < s 0 := by
      rcases h3 with h | h
      · rw [h] at h0; simp at h0
      · exact h
    refine ⟨b, off, rs, s, rfl, h1, hb1, hs0, h4, _, Z0, fun i hi _ => ?_, fun i hi _ => h5 i hi, Wr.refl _ _ _, hf⟩
    show rs.getD i z = rs[i]
    rw [List.getD_eq_getElem?_getD, List.getElem?_eq_getElem hi]
    rfl
end
end Go.Proofs.Ytaamipmlalplbaa
