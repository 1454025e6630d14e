/- Rows of eras that may be appended to, each with its list in new memory; spec's l7Copy. -/
import Derived.Test.YtioocibgfhgkhaaGreatDoorSitT
import Derived.Test.YtioocibgfhgkhaaGreatDoorRgB
import Derived.Deep.DeepCutAuto
namespace Go.Proofs.YtioocibgfhgkhaaGreatDoor
open Go.ChangeShapes Go.WideShapes Go.ChangeAt Go.RowKit
set_option linter.unusedVariables false
set_option linter.unusedSimpArgs false
set_option maxRecDepth 100000

/-- Eras that may be appended to, in memory from base on, each list apart. -/
def NAp (w : World) (base : Nat) (v : Value) (ms : List Er) : Prop :=
  ∃ rs : List (Nst Er), rs.map Nst.m = ms ∧ ApR 56 3 erCl w base v rs ∧ (∀ p ∈ rs, OwnN w base (Sv Er.nodes p) p.m.nodes) ∧
    (∀ i j (hi : i < rs.length) (hj : j < rs.length), i ≠ j → rs[i].m.nodes = [] ∨ rs[j].m.nodes = [] ∨ blockOf (Sv Er.nodes rs[i]) ≠ blockOf (Sv Er.nodes rs[j])) ∧ ∀ i (hi : i < rs.length), rs[i].m.nodes = [] ∨ touch v ≠ some (blockOf (Sv Er.nodes rs[i]))
theorem NAp.nil (w : World) (base : Nat) (a : Option Addr) : NAp w base (.slice a 0 0) [] := ⟨[], rfl, .inl ⟨rfl, a, rfl⟩, (fun p h => by cases h), (fun i j hi => by simp at hi), fun i hi => by simp at hi⟩
theorem NAp.below {w w' : World} {base : Nat} {v : Value} {ms : List Er} (h : NAp w base v ms) (hb : Below w.heap.size w w') : NAp w' base v ms := by
  obtain ⟨rs, h1, h2, h3, h4, h5⟩ := h
  exact ⟨rs, h1, h2.below hb, fun p hp => (h3 p hp).below hb, h4, h5⟩
theorem NAp.mono {w : World} {base base' : Nat} {v : Value} {ms : List Er} (h : NAp w base v ms) (hb : base' ≤ base) : NAp w base' v ms := by
  obtain ⟨rs, h1, h2, h3, h4, h5⟩ := h
  exact ⟨rs, h1, h2.mono hb, fun p hp => (h3 p hp).mono hb, h4, h5⟩
theorem NAp.far {w : World} {base b o : Nat} {v : Value} {ms : List Er} (h : NAp w base v ms) (hb : b < base) (u : Value) : NAp (w.setCell ⟨b, o, none⟩ u) base v ms := by
  obtain ⟨rs, h1, h2, h3, h4, h5⟩ := h
  exact ⟨rs, h1, ApR.far elemR h2 hb u, fun p hp => (h3 p hp).far hb u, h4, h5⟩
theorem NAp.slice {w : World} {base : Nat} {v : Value} {ms : List Er} (h : NAp w base v ms) : ∃ a c, v = .slice a ms.length c := by
  obtain ⟨rs, h1, h2, -⟩ := h
  obtain ⟨a, c, e⟩ := ApR.slice elemR h2
  exact ⟨a, c, by rw [e, ← h1, List.length_map]⟩
theorem NAp.touched {w : World} {base : Nat} {v : Value} {ms : List Er} (h : NAp w base v ms) {k : Nat} (hk : touch v = some k) : base ≤ k ∧ k < w.heap.size := by
  obtain ⟨rs, h1, h2, -⟩ := h
  exact h2.touched elemR hk
/-- What an append leaves. -/
theorem NAp.pushX {wr w4 w5 : World} {base : Nat} {v v' : Value} {ms : List Er} {p : Nst Er} {rs : List (Nst Er)} (h1 : rs.map Nst.m = ms) (h2 : ApR 56 3 erCl wr base v rs) (h3 : ∀ p ∈ rs, OwnN wr base (Sv Er.nodes p) p.m.nodes)
    (h4 : ∀ i j (hi : i < rs.length) (hj : j < rs.length), i ≠ j → rs[i].m.nodes = [] ∨ rs[j].m.nodes = [] ∨ blockOf (Sv Er.nodes rs[i]) ≠ blockOf (Sv Er.nodes rs[j])) (h5 : ∀ i (hi : i < rs.length), rs[i].m.nodes = [] ∨ touch v ≠ some (blockOf (Sv Er.nodes rs[i])))
    (hw : ∀ p ∈ rs, OwnN w4 base (Sv Er.nodes p) p.m.nodes) (hsz : wr.heap.size ≤ w4.heap.size) (hbw : base ≤ wr.heap.size) (ho : OwnN w4 wr.heap.size (Sv Er.nodes p) p.m.nodes)
    (hP : ApR 56 3 erCl w5 base v' (rs ++ [p])) (hg : w4.grownBy w5 (touch v)) (ht : touch v' = touch v ∨ ∀ k, touch v' = some k → w4.heap.size ≤ k) :
    (rs ++ [p]).map Nst.m = ms ++ [p.m] ∧ ApR 56 3 erCl w5 base v' (rs ++ [p]) ∧ (∀ q ∈ rs ++ [p], OwnN w5 base (Sv Er.nodes q) q.m.nodes) ∧
      (∀ i j (hi : i < (rs ++ [p]).length) (hj : j < (rs ++ [p]).length), i ≠ j → (rs ++ [p])[i].m.nodes = [] ∨ (rs ++ [p])[j].m.nodes = [] ∨ blockOf (Sv Er.nodes (rs ++ [p])[i]) ≠ blockOf (Sv Er.nodes (rs ++ [p])[j])) ∧ ∀ i (hi : i < (rs ++ [p]).length), (rs ++ [p])[i].m.nodes = [] ∨ touch v' ≠ some (blockOf (Sv Er.nodes (rs ++ [p])[i])) := by
  have tv : ∀ k, touch v = some k → k < wr.heap.size := fun k hk => (h2.touched elemR hk).2
  have new : p.m.nodes = [] ∨ touch v ≠ some (blockOf (Sv Er.nodes p)) := by
    rcases ho.ge with h | h
    · exact .inl h
    · right
      intro e
      have := tv _ e
      omega
  have old : ∀ i (hi : i < rs.length), rs[i].m.nodes = [] ∨ blockOf (Sv Er.nodes rs[i]) < wr.heap.size := fun i hi => (h3 _ (List.getElem_mem hi)).bs.lt
  refine ⟨by rw [List.map_append, h1]; rfl, hP, fun q hq => ?_, fun i j hi hj hij => ?_, fun i hi => ?_⟩
  · rcases List.mem_append.1 hq with hq | hq
    · obtain ⟨i, hi, rfl⟩ := List.mem_iff_getElem.1 hq
      exact (hw _ hq).grown hg (h5 i hi)
    · obtain rfl : q = p := by simpa using hq
      exact (ho.mono hbw).grown hg new
  · have hl : (rs ++ [p]).length = rs.length + 1 := by simp
    by_cases e1 : i < rs.length
    · by_cases e2 : j < rs.length
      · simp only [List.getElem_append_left e1, List.getElem_append_left e2]
        exact h4 i j e1 e2 hij
      · have e3 : j = rs.length := by omega
        subst e3
        simp only [List.getElem_append_left e1, List.getElem_concat_length]
        rcases old i e1 with h | h
        · exact .inl h
        · rcases ho.ge with h' | h'
          · exact .inr (.inl h')
          · exact .inr (.inr (by omega))
    · have e3 : i = rs.length := by omega
      subst e3
      have e2 : j < rs.length := by omega
      simp only [List.getElem_append_left e2, List.getElem_concat_length]
      rcases old j e2 with h | h
      · exact .inr (.inl h)
      · rcases ho.ge with h' | h'
        · exact .inl h'
        · exact .inr (.inr (by omega))
  · have hl : (rs ++ [p]).length = rs.length + 1 := by simp
    by_cases e1 : i < rs.length
    · simp only [List.getElem_append_left e1]
      rcases ht with ht | ht
      · rw [ht]; exact h5 i e1
      · rcases old i e1 with h | h
        · exact .inl h
        · right
          intro e
          have := ht _ e
          omega
    · have e3 : i = rs.length := by omega
      subst e3
      simp only [List.getElem_concat_length]
      rcases ht with ht | ht
      · rw [ht]; exact new
      · rcases ho.bs.lt with h | h
        · exact .inl h
        · right
          intro e
          have := ht _ e
          omega
theorem NAp.push {wr w4 w5 : World} {base : Nat} {v v' : Value} {ms : List Er} {p : Nst Er} {rs : List (Nst Er)} (h1 : rs.map Nst.m = ms) (h2 : ApR 56 3 erCl wr base v rs) (h3 : ∀ p ∈ rs, OwnN wr base (Sv Er.nodes p) p.m.nodes)
    (h4 : ∀ i j (hi : i < rs.length) (hj : j < rs.length), i ≠ j → rs[i].m.nodes = [] ∨ rs[j].m.nodes = [] ∨ blockOf (Sv Er.nodes rs[i]) ≠ blockOf (Sv Er.nodes rs[j])) (h5 : ∀ i (hi : i < rs.length), rs[i].m.nodes = [] ∨ touch v ≠ some (blockOf (Sv Er.nodes rs[i])))
    (hw : ∀ p ∈ rs, OwnN w4 base (Sv Er.nodes p) p.m.nodes) (hsz : wr.heap.size ≤ w4.heap.size) (hbw : base ≤ wr.heap.size) (ho : OwnN w4 wr.heap.size (Sv Er.nodes p) p.m.nodes)
    (hP : ApR 56 3 erCl w5 base v' (rs ++ [p])) (hg : w4.grownBy w5 (touch v)) (ht : touch v' = touch v ∨ ∀ k, touch v' = some k → w4.heap.size ≤ k) : NAp w5 base v' (ms ++ [p.m]) := ⟨rs ++ [p], NAp.pushX h1 h2 h3 h4 h5 hw hsz hbw ho hP hg ht⟩
/-- .. and a block elsewhere is written. -/
theorem NAp.pushO {wr w4 w5 : World} {base : Nat} {v v' : Value} {ms : List Er} {p : Nst Er} {rs : List (Nst Er)} (h1 : rs.map Nst.m = ms) (h2 : ApR 56 3 erCl wr base v rs) (h3 : ∀ p ∈ rs, OwnN wr base (Sv Er.nodes p) p.m.nodes)
    (h4 : ∀ i j (hi : i < rs.length) (hj : j < rs.length), i ≠ j → rs[i].m.nodes = [] ∨ rs[j].m.nodes = [] ∨ blockOf (Sv Er.nodes rs[i]) ≠ blockOf (Sv Er.nodes rs[j])) (h5 : ∀ i (hi : i < rs.length), rs[i].m.nodes = [] ∨ touch v ≠ some (blockOf (Sv Er.nodes rs[i])))
    (hw : ∀ p ∈ rs, OwnN w4 base (Sv Er.nodes p) p.m.nodes) (hsz : wr.heap.size ≤ w4.heap.size) (hbw : base ≤ wr.heap.size) (ho : OwnN w4 wr.heap.size (Sv Er.nodes p) p.m.nodes)
    (hP : ApR 56 3 erCl w5 base v' (rs ++ [p])) (hg : w4.grownBy w5 (touch v)) (ht : touch v' = touch v ∨ ∀ k, touch v' = some k → w4.heap.size ≤ k)
    {b o : Nat} (hb1 : touch v ≠ some b) (hb2 : ∀ q ∈ rs ++ [p], q.m.nodes = [] ∨ blockOf (Sv Er.nodes q) ≠ b) (hb4 : b < w4.heap.size) (u : Value) : NAp (w5.setCell ⟨b, o, none⟩ u) base v' (ms ++ [p.m]) := by
  obtain ⟨x1, x2, x3, x4, x5⟩ := NAp.pushX h1 h2 h3 h4 h5 hw hsz hbw ho hP hg ht
  refine ⟨rs ++ [p], x1, x2.put elemR (fun e => ?_) u, fun q hq => (x3 q hq).grown (grown_set w5 b o u) ?_, x4, x5⟩
  · rcases ht with ht | ht
    · exact hb1 (ht ▸ e)
    · have := ht _ e
      omega
  · rcases hb2 q hq with h | h
    · exact .inl h
    · exact .inr fun e => h (Option.some.inj e).symm
/-- Such a row is owned. -/
theorem NAp.ow {w : World} {base : Nat} {v : Value} {ms : List Er} (h : NAp w base v ms) : OwEraS base w.heap.size v ms w := by
  obtain ⟨rs, h1, h2, h3, h4, h5⟩ := h
  have o := ApR.own elemR h2
  refine ⟨rs, h1, o, o.ltG erCl_len (by decide), fun p hp => ⟨h3 p hp, (h3 p hp).bs.lt⟩, h4, fun i hi => ?_⟩
  rcases h5 i hi with h | h
  · exact .inl h
  · right
    intro e
    apply h
    rcases h2 with ⟨h0, -⟩ | hu
    · subst h0; simp at hi
    · rcases hu.2 with ⟨-, h0⟩ | ⟨g, cap, cur, rfl, -, -, hnc, -⟩
      · omega
      · have hc : cap ≠ 0 := by omega
        rw [e]
        simp [touch, hc, blockOf]
end Go.Proofs.YtioocibgfhgkhaaGreatDoor
