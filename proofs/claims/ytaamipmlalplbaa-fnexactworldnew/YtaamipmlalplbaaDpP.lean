/- Rows of records that have lists of their own: what such a row reads as, and a row whose records lie in ascending spans of blocks; how one is copied. -/
import Derived.Test.YtaamipmlalplbaaUsA
namespace Go.Proofs.Ytaamipmlalplbaa
open Go.ChangeShapes Go.WideShapes Go.ChangeAt Go.RowKit
set_option linter.unusedVariables false
set_option linter.unusedSimpArgs false

/-- One of a row: its cells, and what it stands for. -/
structure Pd (n : Nat) (μ : Type) where
  c : List Value
  l : c.length = n
  m : μ
section
variable {n : Nat} {μ : Type} {w w' wr w2 : World} {b off k lo hi : Nat}
def Pd.val (p : Pd n μ) : Value := .agg p.c.toArray
theorem Pd.len (p : Pd n μ) : p.c.length = n := p.l
/-- The slice v reads as these. -/
def RdD (n : Nat) (Rd : Value → μ → World → Prop) (v : Value) (ms : List μ) (W : World) : Prop := ∃ rs : List (Pd n μ), rs.map Pd.m = ms ∧ Rw n Pd.c W v rs ∧ ∀ p ∈ rs, Rd p.val p.m W
theorem RdD.below {Rd : Value → μ → World → Prop} (hR : ∀ {v : Value} {m : μ} {W W' : World}, Rd v m W → Below W.heap.size W W' → Rd v m W') {v : Value} {ms : List μ} {W W' : World} (h : RdD n Rd v ms W) (b : Below W.heap.size W W') : RdD n Rd v ms W' := by
  obtain ⟨rs, h1, h2, h3⟩ := h
  exact ⟨rs, h1, h2.below b, fun p hp => hR (h3 p hp) b⟩
theorem formD {Rd : Value → μ → World → Prop} {v : Value} {ms : List μ} {W : World} (h : RdD n Rd v ms W) : ∃ a cap, v = .slice a ms.length cap ∧ ms.length ≤ 9223372036854775807 := by
  obtain ⟨rs, rfl, ⟨h0, a, cap, rfl, -, -⟩, -⟩ := h
  exact ⟨a, cap, by simp, by simpa using h0⟩
theorem Rw.pd {a : Option Addr} {m cap : Nat} {rs : List (Pd n μ)} (h : Rw n Pd.c w (.slice a m cap) rs) (hk : k < rs.length) : ∃ b off, a = some ⟨b, off, none⟩ ∧ ∀ i (hi : i < rs.length) j u, rs[i].c[j]? = some u → w.cell? ⟨b, off + i * n + j, none⟩ = some u := by
  obtain ⟨-, a', cap', e, -, h⟩ := h
  cases e
  obtain ⟨b, off, rfl, hc⟩ := orR_of_lt h hk
  exact ⟨b, off, rfl, hc⟩
/-- .. of blocks lo .. hi - 1, all of which may be written: the row, and behind it each one's own blocks. -/
def OwD (n : Nat) (Ow : Nat → Nat → Value → μ → World → Prop) (lo hi : Nat) (v : Value) (ms : List μ) (W : World) : Prop :=
  ∃ (rs : List (Pd n μ)) (s : Nat → Nat), rs.map Pd.m = ms ∧ OwnRw n Pd.c W lo v rs ∧ (rs = [] ∨ blockOf v < s 0) ∧ Spn s rs.length lo hi ∧ ∀ i (h : i < rs.length), Ow (s i) (s (i + 1)) rs[i].val rs[i].m W
theorem OwD.rd {Rd : Value → μ → World → Prop} {Ow : Nat → Nat → Value → μ → World → Prop} (hR : ∀ {lo hi : Nat} {v : Value} {m : μ} {W : World}, Ow lo hi v m W → Rd v m W) {v : Value} {ms : List μ} {W : World} (h : OwD n Ow lo hi v ms W) : RdD n Rd v ms W := by
  obtain ⟨rs, s, h1, h2, -, -, h3⟩ := h
  refine ⟨rs, h1, h2.rw, fun p hp => ?_⟩
  obtain ⟨i, hi, rfl⟩ := List.getElem_of_mem hp
  exact hR (h3 i hi)
theorem OwnRw.sitsD {α : Type} {sz : Nat} {cl : α → List Value} {W W' : World} {v : Value} {rs : List α} (h : OwnRw sz cl W lo v rs) (hl : rs = [] ∨ blockOf v < hi) (hW : ∀ k, lo ≤ k → k < hi → W'.heap[k]? = W.heap[k]?) : OwnRw sz cl W' lo v rs := by
  obtain ⟨h0, a, cap, rfl, hcap, h⟩ := h
  refine ⟨h0, a, cap, rfl, hcap, ?_⟩
  rcases hl with hl | hl
  · exact .inl hl
  · rcases h with h | ⟨b, off, rfl, hb, hc⟩
    · exact .inl h
    · have e := hW b hb hl
      exact .inr ⟨b, off, rfl, hb, fun i hi j u hu => ⟨(World.cell?_of_block (a := ⟨b, off + i * sz + j, none⟩) e).trans (hc i hi j u hu).1, (World.frozen?_of_block (a := ⟨b, off + i * sz + j, none⟩) e).trans (hc i hi j u hu).2⟩⟩
/-- What a kind of ownership hangs on. -/
def SitsOf (Ow : Nat → Nat → Value → μ → World → Prop) : Prop := ∀ {lo hi : Nat} {v : Value} {m : μ} {w : World}, Ow lo hi v m w → hi ≤ w.heap.size → Sits (Ow lo hi v m) lo hi w
theorem OwD.sits {Ow : Nat → Nat → Value → μ → World → Prop} (hS : SitsOf Ow) {v : Value} {ms : List μ} (h : OwD n Ow lo hi v ms w) (hf : hi ≤ w.heap.size) : Sits (OwD n Ow lo hi v ms) lo hi w := by
  obtain ⟨rs, s, h1, h2, h3, h4, h5⟩ := h
  refine ⟨hf, fun W hW => ⟨rs, s, h1, h2.sitsD (hi := hi) ?_ hW, h3, h4, fun i hi' => ?_⟩⟩
  · rcases h3 with h | h
    · exact .inl h
    · have := h4.hi 0 (Nat.zero_le _)
      exact .inr (by omega)
  · have a1 := h4.lo i (by omega)
    have a2 := h4.hi (i + 1) (by omega)
    exact (hS (h5 i hi') (by omega)).all W fun k k1 k2 => hW k (by omega) (by omega)
theorem OwD.up {Ow : Nat → Nat → Value → μ → World → Prop} {hi' : Nat} {v : Value} {ms : List μ} (h : OwD n Ow lo hi v ms w) (hh : hi ≤ hi') : OwD n Ow lo hi' v ms w := by
  obtain ⟨rs, s, h1, h2, h3, h4, h5⟩ := h
  exact ⟨rs, s, h1, h2, h3, ⟨h4.1, h4.2.1, Nat.le_trans h4.2.2 hh⟩, h5⟩
theorem OwStoreS.up {hi' : Nat} {v : Value} {ms : List St} (h : OwStoreS lo hi v ms w) (hh : hi ≤ hi') : OwStoreS lo hi' v ms w := by
  obtain ⟨rs, s, h1, h2, h3, h4, h5⟩ := h
  exact ⟨rs, s, h1, h2, h3, ⟨h4.1, h4.2.1, Nat.le_trans h4.2.2 hh⟩, h5⟩
/-- How great they are together. -/
def sumPd (f : μ → Nat) (ms : List μ) : Nat := (ms.map f).sum
theorem sumPd_take (f : μ → Nat) (ms : List μ) (k : Nat) (h : k < ms.length) : sumPd f (ms.take (k + 1)) = sumPd f (ms.take k) + f ms[k] := by
  unfold sumPd
  rw [List.take_succ_eq_append_getElem h, List.map_append, List.sum_append, List.map_cons, List.map_nil, List.sum_cons, List.sum_nil, Nat.add_zero]
theorem sumPd_le (f : μ → Nat) (ms : List μ) (k : Nat) : sumPd f (ms.take k) ≤ sumPd f ms := by
  unfold sumPd
  conv => rhs; rw [← List.take_append_drop k ms, List.map_append, List.sum_append]
  exact Nat.le_add_right _ _
theorem sumPd_mem (f : μ → Nat) {ms : List μ} {k : Nat} (h : k < ms.length) : f ms[k] ≤ sumPd f ms := by
  have h1 := sumPd_take f ms k h
  have h2 := sumPd_le f ms (k + 1)
  omega
def sizD (f : μ → Nat) (ms : List μ) : Nat := ms.length + sumPd f ms
/-- Several cells written, one behind the other, from the one at o + j on. -/
def setAll (b o : Nat) : Nat → List Value → World → World
  | _, [], w => w
  | j, u :: us, w => setAll b o (j + 1) us (w.setCell ⟨b, o + j, none⟩ u)
theorem setAll_size (b o : Nat) : ∀ (us : List Value) (j : Nat) (w : World), (setAll b o j us w).heap.size = w.heap.size
  | [], _, _ => rfl
  | u :: us, j, w => by rw [setAll, setAll_size b o us]; simp
theorem setAll_block (b o : Nat) {x : Nat} (h : x ≠ b) : ∀ (us : List Value) (j : Nat) (w : World), (setAll b o j us w).heap[x]? = w.heap[x]?
  | [], _, _ => rfl
  | u :: us, j, w => by rw [setAll, setAll_block b o h us]; exact Below.heap_setCell _ _ _ x (by simp only; omega)
theorem RowG.like {f g : Nat → Pd n μ} {N : Nat} (h : RowG n Pd.c w b off N f) (hf : ∀ i, i < N → (g i).c = (f i).c) : RowG n Pd.c w b off N g := fun i hi j u hu => h i hi j u (by rw [← hf i hi]; exact hu)
theorem set_take {α : Type} (l : List α) (j : Nat) (u : α) (h : j < l.length) : (l.set j u).take (j + 1) = l.take j ++ [u] := by
  rw [List.take_succ_eq_append_getElem (by simpa using h), List.getElem_set_self, List.take_set_of_le (Nat.le_refl _)]
theorem RowG.putAll {N : Nat} (hk : k < N) (e : Pd n μ) : ∀ (us : List Value) (j : Nat) (w : World) (f : Nat → Pd n μ), RowG n Pd.c w b off N f → j + us.length = n → (f k).c.take j ++ us = e.c → RowG n Pd.c (setAll b (off + k * n) j us w) b off N (putG f k e)
  | [], j, w, f, h, hj, he => by
    refine h.like fun i hi => ?_
    by_cases e1 : i = k
    · subst e1
      rw [putG_same, ← he, List.append_nil, List.take_of_length_le (by rw [(f i).l]; simp at hj; omega)]
    · rw [putG_ne _ _ e1]
  | u :: us, j, w, f, h, hj, he => by
    have hjn : j < n := by simp at hj; omega
    have q := h.put Pd.len hk j hjn u ⟨(f k).c.set j u, by rw [List.length_set]; exact (f k).l, e.m⟩ rfl
    have r := RowG.putAll hk e us (j + 1) _ _ q (by simp at hj; omega) (by rw [putG_same]; show ((f k).c.set j u).take (j + 1) ++ us = e.c; rw [set_take _ _ _ (by rw [(f k).l]; exact hjn), List.append_assoc]; exact he)
    rw [putG_twice] at r
    exact r
/-- What was copied so far. -/
def CopD (Ow : Nat → Nat → Value → μ → World → Prop) (wr : World) (b : Nat) (rs : List (Pd n μ)) (k : Nat) (f : Nat → Pd n μ) (s : Nat → Nat) : Prop :=
  RowG n Pd.c wr b 0 rs.length f ∧ Spn s k (b + 1) wr.heap.size ∧ ∀ i (h : i < rs.length), i < k → (f i).m = rs[i].m ∧ Ow (s i) (s (i + 1)) (f i).val (f i).m wr
theorem CopD.step {Ow : Nat → Nat → Value → μ → World → Prop} (hS : SitsOf Ow) (hwd : ∀ {lo lo' hi : Nat} {v : Value} {m : μ} {w : World}, Ow lo hi v m w → lo' ≤ lo → Ow lo' hi v m w) {rs : List (Pd n μ)} {f : Nat → Pd n μ} {s : Nat → Nat} (h : CopD Ow wr b rs k f s) (hk : k < rs.length) (hb2 : Below wr.heap.size wr w2) (hbw : b < wr.heap.size) (e : Pd n μ) (he : e.m = rs[k].m) (ho : Ow wr.heap.size w2.heap.size e.val e.m w2) :
    CopD Ow (setAll b (0 + k * n) 0 e.c w2) b rs (k + 1) (putG f k e) (fun i => if i ≤ k then s i else w2.heap.size) := by
  obtain ⟨h1, h2, h3⟩ := h
  have hsz := hb2.size
  have far : ∀ {lo hi : Nat} {v : Value} {m : μ}, Ow lo hi v m w2 → hi ≤ w2.heap.size → b < lo → Ow lo hi v m (setAll b (0 + k * n) 0 e.c w2) := fun {lo hi v m} q hf hb => (hS q hf).all _ fun x h1 h2 => setAll_block b _ (by omega) _ _ _
  have hsk : s k ≤ wr.heap.size := h2.2.2
  refine ⟨RowG.putAll hk e e.c 0 w2 f (h1.below hb2) (by rw [Nat.zero_add]; exact e.l) (by simp), ⟨?_, fun i hi => ?_, ?_⟩, fun i hi hik => ?_⟩
  · simpa using h2.1
  · show (if i ≤ k then s i else w2.heap.size) ≤ (if i + 1 ≤ k then s (i + 1) else w2.heap.size)
    rcases Nat.lt_or_ge i k with h | h
    · have := h2.2.1 i h
      rw [if_pos (by omega), if_pos (by omega)]
      exact this
    · obtain rfl : i = k := by omega
      rw [if_pos (Nat.le_refl _), if_neg (by omega)]
      omega
  · show (if k + 1 ≤ k then s (k + 1) else w2.heap.size) ≤ _
    rw [if_neg (by omega), setAll_size]
    exact Nat.le_refl _
  · show _ ∧ Ow (if i ≤ k then s i else w2.heap.size) (if i + 1 ≤ k then s (i + 1) else w2.heap.size) _ _ _
    by_cases e1 : i = k
    · subst e1
      rw [putG_same, if_pos (Nat.le_refl _), if_neg (by omega)]
      have hlo := h2.lo i (Nat.le_refl _)
      exact ⟨he, far (hwd ho hsk) (Nat.le_refl _) (by omega)⟩
    · rw [putG_ne _ _ e1, if_pos (by omega), if_pos (by omega)]
      have q := h3 i hi (by omega)
      have a1 := h2.lo i (by omega)
      have a2 := h2.hi (i + 1) (by omega)
      exact ⟨q.1, far ((hS q.2 a2).below hb2).now (by omega) (by omega)⟩
theorem CopD.start {Ow : Nat → Nat → Value → μ → World → Prop} (w : World) (zc : Array Value) (rs : List (Pd n μ)) (T : TypeId) (z : Pd n μ) (hz : zc.size = n) (hc : z.c = zc.toList) : CopD Ow (w.alloc (.cells (madeCells zc (rs.length * n)) T)) w.heap.size rs 0 (fun _ => z) (fun _ => w.heap.size + 1) :=
  ⟨RowG.made w zc rs.length T z hz (fun j u hu => by rw [hc] at hu; simpa using hu), ⟨Nat.le_refl _, fun i h => Nat.le_refl _, by simp⟩, fun i h h' => by omega⟩
theorem CopD.done {Ow : Nat → Nat → Value → μ → World → Prop} (hS : SitsOf Ow) {rs : List (Pd n μ)} {f : Nat → Pd n μ} {s : Nat → Nat} (h : CopD Ow wr b rs rs.length f s) (hl : rs.length ≤ 9223372036854775807) : Sits (OwD n Ow b wr.heap.size (.slice (some ⟨b, 0, none⟩) rs.length rs.length) (rs.map Pd.m)) b wr.heap.size wr := by
  obtain ⟨h1, h2, h3⟩ := h
  have hl' : ((List.range rs.length).map f).length = rs.length := by simp
  have hq := h1.own (es := (List.range rs.length).map f) (base := b) (cap := rs.length) hl'.symm (fun i hi => by simp) (Nat.le_refl _) (by omega) (by omega)
  rw [hl'] at hq
  refine OwD.sits hS ⟨(List.range rs.length).map f, s, ?_, hq, .inr ?_, ?_, fun i hi => ?_⟩ (Nat.le_refl _)
  · apply List.ext_getElem
    · simp
    · intro i q1 q2
      have q3 : i < rs.length := by simpa using q1
      simp [(h3 i q3 q3).1]
  · exact h2.1
  · rw [hl']
    exact ⟨by have := h2.1; omega, h2.2.1, h2.2.2⟩
  · have q3 : i < rs.length := by simpa using hi
    have e1 : ((List.range rs.length).map f)[i] = f i := by simp
    rw [e1]
    exact (h3 i q3 q3).2
theorem Pd.eq {p : Pd n μ} {cs : Array Value} (h : p.val = .agg cs) : p.c = cs.toList := by
  unfold Pd.val at h
  simp only [Value.agg.injEq] at h
  rw [← h]
end
end Go.Proofs.Ytaamipmlalplbaa
