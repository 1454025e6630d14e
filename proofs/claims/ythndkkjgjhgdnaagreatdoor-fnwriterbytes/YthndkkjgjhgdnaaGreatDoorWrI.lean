/- impl's: slices.Clone of words; copied. -/
import Derived.Test.YthndkkjgjhgdnaaGreatDoorGk77
import Derived.Test.YthndkkjgjhgdnaaGreatDoorGk81
import Derived.Test.YthndkkjgjhgdnaaGreatDoorGk49
import Derived.Lib.SliceRun
import Derived.Deep.RegionHeld3
import Derived.Deep.DeepCutAuto
namespace Go.Proofs.YthndkkjgjhgdnaaGreatDoor
open Go.ChangeShapes Go.WideShapes Go.ChangeAt Go.RowKit
set_option linter.unusedVariables false
set_option linter.unusedSimpArgs false
set_option maxRecDepth 100000

theorem fcells_setW {α : Type} {cl : α → List Value} {sz : Nat} (hcl : ∀ a, (cl a).length = sz) : ∀ (ms : List α) (k : Nat) (h : k < ms.length) (j : Nat) (hj : j < sz) (u : Value) (p : α), cl p = (cl ms[k]).set j u → (fcells cl ms).set (k * sz + j) u = fcells cl (ms.set k p)
  | [], k, h, _, _, _, _, _ => by simp at h
  | a :: l, 0, h, j, hj, u, p, hp => by
    have e : ∀ (x : α) (y : List α), fcells cl (x :: y) = cl x ++ fcells cl y := fun _ _ => rfl
    simp only [List.getElem_cons_zero] at hp
    rw [Nat.zero_mul, Nat.zero_add, List.set_cons_zero, e, e, List.set_append_left _ _ (by rw [hcl]; exact hj), hp]
  | a :: l, k + 1, h, j, hj, u, p, hp => by
    have e : ∀ (x : α) (y : List α), fcells cl (x :: y) = cl x ++ fcells cl y := fun _ _ => rfl
    have ih := fcells_setW hcl l k (by simpa using h) j hj u p (by simpa using hp)
    rw [List.set_cons_succ, e, e, List.set_append_right _ _ (by rw [hcl, Nat.add_mul]; omega), hcl]
    have e2 : (k + 1) * sz + j - sz = k * sz + j := by rw [Nat.add_mul]; omega
    rw [e2, ih]
/-- One cell of one word of a row that may be appended to is written. -/
theorem ApR.storeW {w : World} {base g n cap k j : Nat} {rs : List (Nst Wd)} (h : ApR 82 3 wdCl w base (.slice (some ⟨g, 0, none⟩) n cap) rs) (hk : k < rs.length) (hj : j < 3) (u : Value) (p : Nst Wd) (hp : wdCl p = (wdCl rs[k]).set j u) : ApR 82 3 wdCl (w.setCell ⟨g, k * 3 + j, none⟩ u) base (.slice (some ⟨g, 0, none⟩) n cap) (rs.set k p) := by
  rcases h with ⟨rfl, -⟩ | h
  · simp at hk
  · have hn : n = rs.length := by
      obtain ⟨a, c, e⟩ := rowR_slice h
      simp only [Value.slice.injEq] at e
      exact e.2.1
    subst hn
    have s := (h.stored (k * 3 + j) u).1
    rw [fcells_setW wdCl_len rs k hk j hj u p hp] at s
    refine .inr ?_
    rw [List.length_set]
    exact s
/-- A row of words of which the first k have lists of their own. -/
def CpW (wr : World) (base : Nat) (u : Value) (rs : List (Nst Wd)) (k : Nat) (ss : List (Nst Wd)) : Prop :=
  ss.length = rs.length ∧ ApR 82 3 wdCl wr base u ss ∧ (∀ i (h : i < rs.length) (h' : i < ss.length), ss[i].m = rs[i].m) ∧ (∀ i (h : i < rs.length) (h' : i < ss.length), k ≤ i → ss[i] = rs[i]) ∧
    (∀ i (h' : i < ss.length), i < k → RmN wr base (Sv Wd.acks ss[i]) ss[i].m.acks) ∧ (∀ i j (hi : i < ss.length) (hj : j < ss.length), i < k → j < k → i ≠ j → ss[i].m.acks = [] ∨ ss[j].m.acks = [] ∨ blockOf (Sv Wd.acks ss[i]) ≠ blockOf (Sv Wd.acks ss[j])) ∧
    ∀ i (hi : i < ss.length), i < k → ss[i].m.acks = [] ∨ touch u ≠ some (blockOf (Sv Wd.acks ss[i]))
theorem CpW.step {wr w2 : World} {base g n cap k : Nat} {rs ss : List (Nst Wd)} (h : CpW wr base (.slice (some ⟨g, 0, none⟩) n cap) rs k ss) (hk : k < rs.length) (hb2 : Below wr.heap.size wr w2) (hbw : base ≤ wr.heap.size) (hgw : g < wr.heap.size) {qa : Option Addr} {qc : Nat} (ho : RmN w2 wr.heap.size (.slice qa rs[k].m.acks.length qc) rs[k].m.acks) :
    CpW (w2.setCell ⟨g, k * 3 + 1, none⟩ (.slice qa rs[k].m.acks.length qc)) base (.slice (some ⟨g, 0, none⟩) n cap) rs (k + 1) (ss.set k ⟨qa, qc, rs[k].m⟩) := by
  obtain ⟨h1, h2, h3, h4, h5, h6, h7⟩ := h
  have hks : k < ss.length := by omega
  have ek := h4 k hk hks (Nat.le_refl _)
  have at_ : ∀ i (hi : i < (ss.set k ⟨qa, qc, rs[k].m⟩).length) (hi' : i < ss.length), i ≠ k → (ss.set k ⟨qa, qc, rs[k].m⟩)[i] = ss[i] := fun i hi hi' hne => List.getElem_set_ne (Ne.symm hne) _
  have atk : ∀ (hi : k < (ss.set k ⟨qa, qc, rs[k].m⟩).length), (ss.set k ⟨qa, qc, rs[k].m⟩)[k] = ⟨qa, qc, rs[k].m⟩ := fun hi => List.getElem_set_self _
  have old : ∀ i (hi : i < ss.length), i < k → ss[i].m.acks = [] ∨ blockOf (Sv Wd.acks ss[i]) < wr.heap.size := fun i hi hik => (h5 i hi hik).bs.lt
  have eS : blockOf (Sv Wd.acks (⟨qa, qc, rs[k].m⟩ : Nst Wd)) = blockOf (.slice qa rs[k].m.acks.length qc) := rfl
  refine ⟨by rw [List.length_set]; exact h1, ?_, fun i hi hi' => ?_, fun i hi hi' hki => ?_, fun i hi hik => ?_, fun i j hi hj hik hjk hij => ?_, fun i hi hik => ?_⟩
  · exact ApR.storeW (j := 1) (h2.below hb2) hks (by decide) _ ⟨qa, qc, rs[k].m⟩ (by rw [ek]; rfl)
  · rw [List.length_set] at hi'
    by_cases e : i = k
    · subst e; rw [atk]
    · rw [at_ i (by rw [List.length_set]; exact hi') hi' e]; exact h3 i hi hi'
  · rw [List.length_set] at hi'
    rw [at_ i (by rw [List.length_set]; exact hi') hi' (by omega)]
    exact h4 i hi hi' (by omega)
  · rw [List.length_set] at hi
    by_cases e : i = k
    · subst e
      rw [atk]
      refine ((ho.mono hbw).grown (grown_set w2 g (i * 3 + 1) _) ?_)
      rcases ho.ge with h | h
      · exact .inl h
      · exact .inr fun e => by have := Option.some.inj e; omega
    · rw [at_ i (by rw [List.length_set]; exact hi) hi e]
      refine ((h5 i hi (by omega)).below hb2).grown (grown_set w2 g (k * 3 + 1) _) ?_
      rcases h7 i hi (by omega) with h | h
      · exact .inl h
      · right
        intro e'
        apply h
        have hg : cap ≠ 0 := by
          intro e0
          obtain ⟨-, a9, c9, e9, q9, -⟩ := (ApR.own elemW h2).rw
          simp only [Value.slice.injEq] at e9
          have q7 := e9.2.1
          have q8 := e9.2.2
          omega
        simp only [touch, hg, if_false]
        exact e'
  · have hi2 : i < ss.length := by rw [List.length_set] at hi; exact hi
    have hj2 : j < ss.length := by rw [List.length_set] at hj; exact hj
    by_cases e : i = k
    · subst e
      have e2 : j ≠ i := Ne.symm hij
      simp only [atk, at_ j hj hj2 e2, eS]
      rcases old j hj2 (by omega) with h | h
      · exact .inr (.inl h)
      · rcases ho.ge with h' | h'
        · exact .inl h'
        · exact .inr (.inr (by omega))
    · by_cases e2 : j = k
      · subst e2
        simp only [atk, at_ i hi hi2 e, eS]
        rcases old i hi2 (by omega) with h | h
        · exact .inl h
        · rcases ho.ge with h' | h'
          · exact .inr (.inl h')
          · exact .inr (.inr (by omega))
      · simp only [at_ i hi hi2 e, at_ j hj hj2 e2]
        exact h6 i j hi2 hj2 (by omega) (by omega) hij
  · rw [List.length_set] at hi
    by_cases e : i = k
    · subst e
      simp only [atk, eS]
      rcases ho.ge with h' | h'
      · exact .inl h'
      · right
        intro e'
        have := (h2.touched elemW e').2
        omega
    · simp only [at_ i (by rw [List.length_set]; exact hi) hi e]
      exact h7 i hi (by omega)
/-- Words that may be appended to, each list too. -/
def WApR (w : World) (base : Nat) (v : Value) (ms : List Wd) : Prop :=
  ∃ rs : List (Nst Wd), rs.map Nst.m = ms ∧ ApR 82 3 wdCl w base v rs ∧ (∀ p ∈ rs, RmN w base (Sv Wd.acks p) p.m.acks) ∧
    (∀ i j (hi : i < rs.length) (hj : j < rs.length), i ≠ j → rs[i].m.acks = [] ∨ rs[j].m.acks = [] ∨ blockOf (Sv Wd.acks rs[i]) ≠ blockOf (Sv Wd.acks rs[j])) ∧ ∀ i (hi : i < rs.length), rs[i].m.acks = [] ∨ touch v ≠ some (blockOf (Sv Wd.acks rs[i]))
theorem WApR.wap {w : World} {base : Nat} {v : Value} {ms : List Wd} (h : WApR w base v ms) : WAp w base v ms := by
  obtain ⟨rs, h1, h2, h3, h4, h5⟩ := h
  exact ⟨rs, h1, h2, fun p hp => (h3 p hp).own, h4, h5⟩
theorem WApR.below {w w' : World} {base : Nat} {v : Value} {ms : List Wd} (h : WApR w base v ms) (hb : Below w.heap.size w w') : WApR w' base v ms := by
  obtain ⟨rs, h1, h2, h3, h4, h5⟩ := h
  exact ⟨rs, h1, h2.below hb, fun p hp => (h3 p hp).below hb, h4, h5⟩
theorem WApR.mono {w : World} {base base' : Nat} {v : Value} {ms : List Wd} (h : WApR w base v ms) (hb : base' ≤ base) : WApR w base' v ms := by
  obtain ⟨rs, h1, h2, h3, h4, h5⟩ := h
  exact ⟨rs, h1, h2.mono hb, fun p hp => (h3 p hp).mono hb, h4, h5⟩
theorem WApR.far {w : World} {base b o : Nat} {v : Value} {ms : List Wd} (h : WApR w base v ms) (hb : b < base) (u : Value) : WApR (w.setCell ⟨b, o, none⟩ u) base v ms := by
  obtain ⟨rs, h1, h2, h3, h4, h5⟩ := h
  exact ⟨rs, h1, ApR.far elemW h2 hb u, fun p hp => (h3 p hp).far hb u, h4, h5⟩
theorem CpW.done {wr : World} {base : Nat} {u : Value} {rs ss : List (Nst Wd)} (h : CpW wr base u rs rs.length ss) : WApR wr base u (rs.map Nst.m) := by
  obtain ⟨h1, h2, h3, h4, h5, h6, h7⟩ := h
  refine ⟨ss, ?_, h2, fun p hp => ?_, fun i j hi hj hij => h6 i j hi hj (by omega) (by omega) hij, fun i hi => h7 i hi (by omega)⟩
  · apply List.ext_getElem
    · simp [h1]
    · intro i a b
      simp only [List.getElem_map]
      exact h3 i (by simpa using b) (by simpa using a)
  · obtain ⟨i, hi, rfl⟩ := List.mem_iff_getElem.1 hp
    exact h5 i hi (by omega)
theorem CpW.start {wr : World} {base : Nat} {u : Value} {rs : List (Nst Wd)} (h : ApR 82 3 wdCl wr base u rs) : CpW wr base u rs 0 rs := ⟨rfl, h, fun _ _ _ => rfl, fun _ _ _ _ => rfl, fun i _ h => by omega, fun i j _ _ h => by omega, fun i _ h => by omega⟩
theorem CpW.below {wr w' : World} {base k : Nat} {u : Value} {rs ss : List (Nst Wd)} (h : CpW wr base u rs k ss) (hb : Below wr.heap.size wr w') : CpW w' base u rs k ss := by
  obtain ⟨h1, h2, h3, h4, h5, h6, h7⟩ := h
  exact ⟨h1, h2.below hb, h3, h4, fun i hi hik => (h5 i hi hik).below hb, h6, h7⟩
end Go.Proofs.YthndkkjgjhgdnaaGreatDoor
