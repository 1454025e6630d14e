/- Several texts in one: WrSa, WrSb, DpP, WsR, WrSc. -/
import Derived.Test.YtodfgehicpejgaaGreatDoorGk165
import Derived.Test.YtodfgehicpejgaaGreatDoorGk171
import Derived.Deep.RegionHeld3
import Derived.Deep.DeepCutAuto
import Derived.Test.YtodfgehicpejgaaGreatDoorGk151
import Derived.Laws.MakeOwn
namespace Go.Proofs.YtodfgehicpejgaaGreatDoor
open Go.ChangeShapes Go.WideShapes Go.ChangeAt Go.RowKit
set_option linter.unusedSimpArgs false
set_option linter.unusedVariables false
set_option maxRecDepth 100000
def zeroWd : Nst Wd := ⟨none, 0, ⟨#[]⟩, [], false⟩
def CopW (wr : World) (b : Nat) (rs : List (Nst Wd)) (k : Nat) (f : Nat → Nst Wd) : Prop :=
 RowG 3 wdCl wr b 0 rs.length f ∧ (∀ i (h : i < rs.length), i < k → (f i).m = rs[i].m ∧ OwnN wr (b + 1) (Sv Wd.acks (f i)) (f i).m.acks) ∧ ∀ i j, i < k → j < k → i < j → (f i).m.acks = [] ∨ (f j).m.acks = [] ∨ bO (Sv Wd.acks (f i)) ≠ bO (Sv Wd.acks (f j))
theorem CopW.step {wr w2 : World} {b k : Nat} {rs : List (Nst Wd)} {f : Nat → Nst Wd} (h : CopW wr b rs k f) (hk : k < rs.length) (hb2 : Below wr.heap.size wr w2) (hbw : b < wr.heap.size) {qa : Option Addr} {qc : Nat} (ho : OwnN w2 wr.heap.size (.slice qa rs[k].m.acks.length qc) rs[k].m.acks) :
  CopW (((w2.setCell ⟨b, k * 3, none⟩ (.string rs[k].m.data)).setCell ⟨b, k * 3 + 1, none⟩ (.slice qa rs[k].m.acks.length qc)).setCell ⟨b, k * 3 + 2, none⟩ (.bool rs[k].m.done)) b rs (k + 1) (putG f k ⟨qa, qc, rs[k].m⟩) := by
 obtain ⟨h1, h2, h3⟩ := h
 have far : ∀ {base : Nat} {v : Value} {xs : List Int}, OwnN w2 base v xs → b < base → OwnN (((w2.setCell ⟨b, k * 3, none⟩ (.string rs[k].m.data)).setCell ⟨b, k * 3 + 1, none⟩ (.slice qa rs[k].m.acks.length qc)).setCell ⟨b, k * 3 + 2, none⟩ (.bool rs[k].m.done)) base v xs := fun {base v xs} q hb => ((q.far hb _).far hb _).far hb _
 refine ⟨?_, fun i hi hik => ?_, fun i j hi hj hij => ?_⟩
 ·have r1 := (h1.below hb2).put wdCl_len hk 0 (by decide) (.string rs[k].m.data) ⟨(f k).a, (f k).c, ⟨rs[k].m.data, (f k).m.acks, (f k).m.done⟩⟩ rfl
  have r2 := r1.put wdCl_len hk 1 (by decide) (.slice qa rs[k].m.acks.length qc) ⟨qa, qc, ⟨rs[k].m.data, rs[k].m.acks, (f k).m.done⟩⟩ (by rw [putG_same]; rfl)
  have r3 := r2.put wdCl_len hk 2 (by decide) (.bool rs[k].m.done) ⟨qa, qc, rs[k].m⟩ (by rw [putG_same]; rfl)
  simpa [putG_twice] using r3
 ·by_cases e : i = k
  ·subst e
   rw [putG_same]
   exact ⟨rfl, far (ho.mono (by omega)) (by omega)⟩
  ·rw [putG_ne _ _ e]
   have q := h2 i hi (by omega)
   exact ⟨q.1, far (q.2.below hb2) (by omega)⟩
 ·by_cases e : j = k
  ·subst e
   rw [putG_same, putG_ne _ _ (by omega)]
   have q := h2 i (by omega) (by omega)
   rcases q.2.bs.lt with h | h
   ·exact .inl h
   ·rcases ho.ge with h' | h'
    ·exact .inr (.inl h')
    ·right; right
     have e1 : bO (Sv Wd.acks (⟨qa, qc, rs[j].m⟩ : Nst Wd)) = bO (.slice qa rs[j].m.acks.length qc) := rfl
     rw [e1]
     omega
  ·rw [putG_ne _ _ e, putG_ne _ _ (by omega)]
   exact h3 i j (by omega) (by omega) hij
structure Pd (n : Nat) (μ : Type) where
 c : List Value
 l : c.length = n
 m : μ
section
variable {n : Nat} {μ : Type} {w w' wr w2 : World} {b off k lo hi : Nat}
def Pd.val (p : Pd n μ) : Value := .agg p.c.toArray
theorem Pd.len (p : Pd n μ) : p.c.length = n := p.l
def RdD (n : Nat) (Rd : Value → μ → World → Prop) (v : Value) (ms : List μ) (W : World) : Prop := ∃ rs : List (Pd n μ), rs.map Pd.m = ms ∧ Rw n Pd.c W v rs ∧ ∀ p ∈ rs, Rd p.val p.m W
theorem RdD.below {Rd : Value → μ → World → Prop} (hR : ∀ {v : Value} {m : μ} {W W' : World}, Rd v m W → Below W.heap.size W W' → Rd v m W') {v : Value} {ms : List μ} {W W' : World} (h : RdD n Rd v ms W) (b : Below W.heap.size W W') : RdD n Rd v ms W' := by
 obtain ⟨rs, h1, h2, h3⟩ := h
 exact ⟨rs, h1, h2.below b, fun p hp => hR (h3 p hp) b⟩
theorem formD {Rd : Value → μ → World → Prop} {v : Value} {ms : List μ} {W : World} (h : RdD n Rd v ms W) : ∃ a cap, v = .slice a ms.length cap ∧ ms.length ≤ 9223372036854775807 := by
 obtain ⟨rs, rfl, ⟨h0, a, cap, rfl, -, -⟩, -⟩ := h
 exact ⟨a, cap, by simp, by simpa using h0⟩
theorem Rw.pd {a : Option Addr} {m cap : Nat} {rs : List (Pd n μ)} (h : Rw n Pd.c w (.slice a m cap) rs) (hk : k < rs.length) : ∃ b off, a = some ⟨b, off, none⟩ ∧ ∀ i (hi : i < rs.length) j u, rs[i].c[j]? = some u → w.cell? ⟨b, off + i * n + j, none⟩ = some u := by
 obtain ⟨-, a', cap', e, -, h⟩ := h
 cases e
 obtain ⟨b, off, rfl, hc⟩ := orR_of_lt h hk
 exact ⟨b, off, rfl, hc⟩
def OwD (n : Nat) (Ow : Nat → Nat → Value → μ → World → Prop) (lo hi : Nat) (v : Value) (ms : List μ) (W : World) : Prop :=
 ∃ (rs : List (Pd n μ)) (s : Nat → Nat), rs.map Pd.m = ms ∧ OwnRw n Pd.c W lo v rs ∧ (rs = [] ∨ bO v < s 0) ∧ Spn s rs.length lo hi ∧ ∀ i (h : i < rs.length), Ow (s i) (s (i + 1)) rs[i].val rs[i].m W
theorem OwD.rd {Rd : Value → μ → World → Prop} {Ow : Nat → Nat → Value → μ → World → Prop} (hR : ∀ {lo hi : Nat} {v : Value} {m : μ} {W : World}, Ow lo hi v m W → Rd v m W) {v : Value} {ms : List μ} {W : World} (h : OwD n Ow lo hi v ms W) : RdD n Rd v ms W := by
 obtain ⟨rs, s, h1, h2, -, -, h3⟩ := h
 refine ⟨rs, h1, h2.rw, fun p hp => ?_⟩
 obtain ⟨i, hi, rfl⟩ := List.getElem_of_mem hp
 exact hR (h3 i hi)
theorem OwnRw.sitsD {α : Type} {sz : Nat} {cl : α → List Value} {W W' : World} {v : Value} {rs : List α} (h : OwnRw sz cl W lo v rs) (hl : rs = [] ∨ bO v < hi) (hW : ∀ k, lo ≤ k → k < hi → W'.heap[k]? = W.heap[k]?) : OwnRw sz cl W' lo v rs := by
 obtain ⟨h0, a, cap, rfl, hcap, h⟩ := h
 refine ⟨h0, a, cap, rfl, hcap, ?_⟩
 rcases hl with hl | hl
 ·exact .inl hl
 ·rcases h with h | ⟨b, off, rfl, hb, hc⟩
  ·exact .inl h
  ·have e := hW b hb hl
   exact .inr ⟨b, off, rfl, hb, fun i hi j u hu => ⟨(World.cell?_of_block (a := ⟨b, off + i * sz + j, none⟩) e).trans (hc i hi j u hu).1, (World.frozen?_of_block (a := ⟨b, off + i * sz + j, none⟩) e).trans (hc i hi j u hu).2⟩⟩
def SitsOf (Ow : Nat → Nat → Value → μ → World → Prop) : Prop := ∀ {lo hi : Nat} {v : Value} {m : μ} {w : World}, Ow lo hi v m w → hi ≤ w.heap.size → Sits (Ow lo hi v m) lo hi w
theorem OwD.sits {Ow : Nat → Nat → Value → μ → World → Prop} (hS : SitsOf Ow) {v : Value} {ms : List μ} (h : OwD n Ow lo hi v ms w) (hf : hi ≤ w.heap.size) : Sits (OwD n Ow lo hi v ms) lo hi w := by
 obtain ⟨rs, s, h1, h2, h3, h4, h5⟩ := h
 refine ⟨hf, fun W hW => ⟨rs, s, h1, h2.sitsD (hi := hi) ?_ hW, h3, h4, fun i hi' => ?_⟩⟩
 ·rcases h3 with h | h
  ·exact .inl h
  ·have := h4.hi 0 (Nat.zero_le _)
   exact .inr (by omega)
 ·have a1 := h4.lo i (by omega)
  have a2 := h4.hi (i + 1) (by omega)
  exact (hS (h5 i hi') (by omega)).all W fun k k1 k2 => hW k (by omega) (by omega)
theorem OwD.up {Ow : Nat → Nat → Value → μ → World → Prop} {hi' : Nat} {v : Value} {ms : List μ} (h : OwD n Ow lo hi v ms w) (hh : hi ≤ hi') : OwD n Ow lo hi' v ms w := by
 obtain ⟨rs, s, h1, h2, h3, h4, h5⟩ := h
 exact ⟨rs, s, h1, h2, h3, ⟨h4.1, h4.2.1, Nat.le_trans h4.2.2 hh⟩, h5⟩
theorem OwStoreS.up {hi' : Nat} {v : Value} {ms : List St} (h : OwStoreS lo hi v ms w) (hh : hi ≤ hi') : OwStoreS lo hi' v ms w := by
 obtain ⟨rs, s, h1, h2, h3, h4, h5⟩ := h
 exact ⟨rs, s, h1, h2, h3, ⟨h4.1, h4.2.1, Nat.le_trans h4.2.2 hh⟩, h5⟩
def sumPd (f : μ → Nat) (ms : List μ) : Nat := (ms.map f).sum
theorem sumPd_take (f : μ → Nat) (ms : List μ) (k : Nat) (h : k < ms.length) : sumPd f (ms.take (k + 1)) = sumPd f (ms.take k) + f ms[k] := by
 unfold sumPd
 rw [List.take_succ_eq_append_getElem h, List.map_append, List.sum_append, List.map_cons, List.map_nil, List.sum_cons, List.sum_nil, Nat.add_zero]
theorem sumPd_le (f : μ → Nat) (ms : List μ) (k : Nat) : sumPd f (ms.take k) ≤ sumPd f ms := by
 unfold sumPd
 conv => rhs; rw [← List.take_append_drop k ms, List.map_append, List.sum_append]
 exact Nat.le_add_right _ _
theorem sumPd_mem (f : μ → Nat) {ms : List μ} {k : Nat} (h : k < ms.length) : f ms[k] ≤ sumPd f ms := by
 have h1 := sumPd_take f ms k h
 have h2 := sumPd_le f ms (k + 1)
 omega
def sizD (f : μ → Nat) (ms : List μ) : Nat := ms.length + sumPd f ms
def setAll (b o : Nat) : Nat → List Value → World → World
 | _, [], w => w
 | j, u :: us, w => setAll b o (j + 1) us (w.setCell ⟨b, o + j, none⟩ u)
theorem setAll_size (b o : Nat) : ∀ (us : List Value) (j : Nat) (w : World), (setAll b o j us w).heap.size = w.heap.size
 | [], _, _ => rfl
 | u :: us, j, w => by rw [setAll, setAll_size b o us]; simp
theorem setAll_block (b o : Nat) {x : Nat} (h : x ≠ b) : ∀ (us : List Value) (j : Nat) (w : World), (setAll b o j us w).heap[x]? = w.heap[x]?
 | [], _, _ => rfl
 | u :: us, j, w => by rw [setAll, setAll_block b o h us]; exact Below.heap_setCell _ _ _ x (by simp only; omega)
theorem RowG.like {f g : Nat → Pd n μ} {N : Nat} (h : RowG n Pd.c w b off N f) (hf : ∀ i, i < N → (g i).c = (f i).c) : RowG n Pd.c w b off N g := fun i hi j u hu => h i hi j u (by rw [← hf i hi]; exact hu)
theorem set_take {α : Type} (l : List α) (j : Nat) (u : α) (h : j < l.length) : (l.set j u).take (j + 1) = l.take j ++ [u] := by
 rw [List.take_succ_eq_append_getElem (by simpa using h), List.getElem_set_self, List.take_set_of_le (Nat.le_refl _)]
theorem RowG.putAll {N : Nat} (hk : k < N) (e : Pd n μ) : ∀ (us : List Value) (j : Nat) (w : World) (f : Nat → Pd n μ), RowG n Pd.c w b off N f → j + us.length = n → (f k).c.take j ++ us = e.c → RowG n Pd.c (setAll b (off + k * n) j us w) b off N (putG f k e)
 | [], j, w, f, h, hj, he => by
  refine h.like fun i hi => ?_
  by_cases e1 : i = k
  ·subst e1
   rw [putG_same, ← he, List.append_nil, List.take_of_length_le (by rw [(f i).l]; simp at hj; omega)]
  ·rw [putG_ne _ _ e1]
 | u :: us, j, w, f, h, hj, he => by
  have hjn : j < n := by simp at hj; omega
  have q := h.put Pd.len hk j hjn u ⟨(f k).c.set j u, by rw [List.length_set]; exact (f k).l, e.m⟩ rfl
  have r := RowG.putAll hk e us (j + 1) _ _ q (by simp at hj; omega) (by rw [putG_same]; show ((f k).c.set j u).take (j + 1) ++ us = e.c; rw [set_take _ _ _ (by rw [(f k).l]; exact hjn), List.append_assoc]; exact he)
  rw [putG_twice] at r
  exact r
def CopD (Ow : Nat → Nat → Value → μ → World → Prop) (wr : World) (b : Nat) (rs : List (Pd n μ)) (k : Nat) (f : Nat → Pd n μ) (s : Nat → Nat) : Prop :=
 RowG n Pd.c wr b 0 rs.length f ∧ Spn s k (b + 1) wr.heap.size ∧ ∀ i (h : i < rs.length), i < k → (f i).m = rs[i].m ∧ Ow (s i) (s (i + 1)) (f i).val (f i).m wr
theorem CopD.step {Ow : Nat → Nat → Value → μ → World → Prop} (hS : SitsOf Ow) (hwd : ∀ {lo lo' hi : Nat} {v : Value} {m : μ} {w : World}, Ow lo hi v m w → lo' ≤ lo → Ow lo' hi v m w) {rs : List (Pd n μ)} {f : Nat → Pd n μ} {s : Nat → Nat} (h : CopD Ow wr b rs k f s) (hk : k < rs.length) (hb2 : Below wr.heap.size wr w2) (hbw : b < wr.heap.size) (e : Pd n μ) (he : e.m = rs[k].m) (ho : Ow wr.heap.size w2.heap.size e.val e.m w2) :
  CopD Ow (setAll b (0 + k * n) 0 e.c w2) b rs (k + 1) (putG f k e) (fun i => if i ≤ k then s i else w2.heap.size) := by
 obtain ⟨h1, h2, h3⟩ := h
 have hsz := hb2.size
 have far : ∀ {lo hi : Nat} {v : Value} {m : μ}, Ow lo hi v m w2 → hi ≤ w2.heap.size → b < lo → Ow lo hi v m (setAll b (0 + k * n) 0 e.c w2) := fun {lo hi v m} q hf hb => (hS q hf).all _ fun x h1 h2 => setAll_block b _ (by omega) _ _ _
 have hsk : s k ≤ wr.heap.size := h2.2.2
 refine ⟨RowG.putAll hk e e.c 0 w2 f (h1.below hb2) (by rw [Nat.zero_add]; exact e.l) (by simp), ⟨?_, fun i hi => ?_, ?_⟩, fun i hi hik => ?_⟩
 ·simpa using h2.1
 ·show (if i ≤ k then s i else w2.heap.size) ≤ (if i + 1 ≤ k then s (i + 1) else w2.heap.size)
  rcases Nat.lt_or_ge i k with h | h
  ·have := h2.2.1 i h
   rw [if_pos (by omega), if_pos (by omega)]
   exact this
  ·obtain rfl : i = k := by omega
   rw [if_pos (Nat.le_refl _), if_neg (by omega)]
   omega
 ·show (if k + 1 ≤ k then s (k + 1) else w2.heap.size) ≤ _
  rw [if_neg (by omega), setAll_size]
  exact Nat.le_refl _
 ·show _ ∧ Ow (if i ≤ k then s i else w2.heap.size) (if i + 1 ≤ k then s (i + 1) else w2.heap.size) _ _ _
  by_cases e1 : i = k
  ·subst e1
   rw [putG_same, if_pos (Nat.le_refl _), if_neg (by omega)]
   have hlo := h2.lo i (Nat.le_refl _)
   exact ⟨he, far (hwd ho hsk) (Nat.le_refl _) (by omega)⟩
  ·rw [putG_ne _ _ e1, if_pos (by omega), if_pos (by omega)]
   have q := h3 i hi (by omega)
   have a1 := h2.lo i (by omega)
   have a2 := h2.hi (i + 1) (by omega)
   exact ⟨q.1, far ((hS q.2 a2).below hb2).now (by omega) (by omega)⟩
theorem CopD.start {Ow : Nat → Nat → Value → μ → World → Prop} (w : World) (zc : Array Value) (rs : List (Pd n μ)) (T : TypeId) (z : Pd n μ) (hz : zc.size = n) (hc : z.c = zc.toList) : CopD Ow (w.alloc (.cells (madeCells zc (rs.length * n)) T)) w.heap.size rs 0 (fun _ => z) (fun _ => w.heap.size + 1) :=
 ⟨RowG.made w zc rs.length T z hz (fun j u hu => by rw [hc] at hu; simpa using hu), ⟨Nat.le_refl _, fun i h => Nat.le_refl _, by simp⟩, fun i h h' => by omega⟩
theorem CopD.done {Ow : Nat → Nat → Value → μ → World → Prop} (hS : SitsOf Ow) {rs : List (Pd n μ)} {f : Nat → Pd n μ} {s : Nat → Nat} (h : CopD Ow wr b rs rs.length f s) (hl : rs.length ≤ 9223372036854775807) : Sits (OwD n Ow b wr.heap.size (.slice (some ⟨b, 0, none⟩) rs.length rs.length) (rs.map Pd.m)) b wr.heap.size wr := by
 obtain ⟨h1, h2, h3⟩ := h
 have hl' : ((List.range rs.length).map f).length = rs.length := by simp
 have hq := h1.own (es := (List.range rs.length).map f) (base := b) (cap := rs.length) hl'.symm (fun i hi => by simp) (Nat.le_refl _) (by omega) (by omega)
 rw [hl'] at hq
 refine OwD.sits hS ⟨(List.range rs.length).map f, s, ?_, hq, .inr ?_, ?_, fun i hi => ?_⟩ (Nat.le_refl _)
 ·apply List.ext_getElem
  ·simp
  ·intro i q1 q2
   have q3 : i < rs.length := by simpa using q1
   simp [(h3 i q3 q3).1]
 ·exact h2.1
 ·rw [hl']
  exact ⟨by have := h2.1; omega, h2.2.1, h2.2.2⟩
 ·have q3 : i < rs.length := by simpa using hi
  have e1 : ((List.range rs.length).map f)[i] = f i := by simp
  rw [e1]
  exact (h3 i q3 q3).2
theorem Pd.eq {p : Pd n μ} {cs : Array Value} (h : p.val = .agg cs) : p.c = cs.toList := by
 unfold Pd.val at h
 simp only [Value.agg.injEq] at h
 rw [← h]
end
def RdWriterS (v : Value) (ms : List Wt) (W : World) : Prop := RdD 2 RdWriter v ms W
def OwWriterS (lo hi : Nat) (v : Value) (ms : List Wt) (W : World) : Prop := OwD 2 OwWriter lo hi v ms W
def sizWriterS (ms : List Wt) : Nat := sizD sizWriter ms
theorem RdWriterS.below {v : Value} {ms : List Wt} {W W' : World} (h : RdWriterS v ms W) (b : Below W.heap.size W W') : RdWriterS v ms W' := RdD.below (Rd := RdWriter) (fun h b => RdWriter.below h b) h b
theorem OwWriterS.rd {lo hi : Nat} {v : Value} {ms : List Wt} {W : World} (h : OwWriterS lo hi v ms W) : RdWriterS v ms W := OwD.rd (Rd := RdWriter) (Ow := OwWriter) (fun h => OwWriter.rd h) h
theorem sitsOfWriter : SitsOf OwWriter := fun h hf => OwWriter.sits h hf
theorem makeWriterS (n : Nat) (h : n ≤ 1073741824) (w : World) : (Instr.makeSlice 32 (.int .i64 (n : Int)) (.int .i64 (n : Int))).run Tryz.prog w = .ok (.slice (some ⟨w.heap.size, 0, none⟩) n n) (w.alloc (.cells (madeCells (Value.agg #[.int .i64 0, .slice none 0 0]).cells (n * 2)) 70)) := by
 obtain ⟨i0, hi, hz0, hz1, hz2⟩ := info_parts (show (Tryz.prog.info? 70).map (fun i => (i.zero, i.size, i.bytes)) = some (some (.agg #[.int .i64 0, .slice none 0 0]), 2, 32) from by kernel_rfl)
 have := run_make (P := Tryz.prog) w 32 70 i0 _ Tryz.underlying32 hi hz0 .i64 .i64 (n : Int) (n : Int) (by omega) (by omega) (by rw [hz2]; omega) (by omega)
 rw [hz1] at this
 simpa using this
def mkFW (k0 : Nat) (rs : List (Nst Wd)) (k : Nat) (i : Nat) : Nst Wd :=
 if i < k then ⟨(rs.getD i zeroWd).a, (rs.getD i zeroWd).c, mkWd (k0 + cntWordS ((rs.map Nst.m).take i)) (rs.getD i zeroWd).m⟩ else rs.getD i zeroWd
theorem mkFW_nodes (k0 : Nat) (rs : List (Nst Wd)) (k i : Nat) : (mkFW k0 rs k i).m.acks.length = (rs.getD i zeroWd).m.acks.length ∧ Sv Wd.acks (mkFW k0 rs k i) = Sv Wd.acks (rs.getD i zeroWd) := by
 unfold mkFW
 split
 ·have e : (mkWd (k0 + cntWordS ((rs.map Nst.m).take i)) (rs.getD i zeroWd).m).acks.length = (rs.getD i zeroWd).m.acks.length := marksN_len _ _
  refine ⟨e, ?_⟩
  unfold Sv
  simp only [e]
 ·exact ⟨rfl, rfl⟩
def MarkW (lo hi k0 : Nat) (w wr : World) (b off : Nat) (rs : List (Nst Wd)) (k : Nat) : Prop :=
 RowG 3 wdCl wr b off rs.length (mkFW k0 rs k) ∧ (∀ i, i < rs.length → OwN lo hi (Sv Wd.acks (mkFW k0 rs k i)) (mkFW k0 rs k i).m.acks wr) ∧ Wr lo hi w wr ∧ hi ≤ wr.heap.size
theorem MarkW.step {lo hi k0 : Nat} {w wr w1 w2 : World} {b off k : Nat} {rs : List (Nst Wd)} {v : Value} (h : MarkW lo hi k0 w wr b off rs k) (hk : k < rs.length) (hb1 : lo ≤ b) (hb2 : b < hi) (hA : Apart Wd.acks v rs) (hv : bO v = b) (hB : Below wr.heap.size wr w1)
  (hO : OwN lo hi (Sv Wd.acks rs[k]) (marksN (k0 + cntWordS ((rs.map Nst.m).take k) + 1) rs[k].m.acks.length) w2) (b1 b2 : Nat) (hW : Wr b1 b2 (w1.setCell ⟨b, off + k * 3, none⟩ (.string (markU (k0 + cntWordS ((rs.map Nst.m).take k))))) w2) (hd : (rs[k].m.acks = [] ∧ b1 = 0 ∧ b2 = 0) ∨ (rs[k].m.acks ≠ [] ∧ b1 = bO (Sv Wd.acks rs[k]) ∧ b2 = bO (Sv Wd.acks rs[k]) + 1)) (hW' : Wr lo hi (w1.setCell ⟨b, off + k * 3, none⟩ (.string (markU (k0 + cntWordS ((rs.map Nst.m).take k))))) w2) :
  RowG 3 wdCl w2 b off rs.length (putG (mkFW k0 rs k) k ⟨rs[k].a, rs[k].c, ⟨markU (k0 + cntWordS ((rs.map Nst.m).take k)), rs[k].m.acks, rs[k].m.done⟩⟩) ∧ MarkW lo hi k0 w (w2.setCell ⟨b, off + k * 3 + 2, none⟩ (.bool ((k0 + cntWordS ((rs.map Nst.m).take k) + 1 + rs[k].m.acks.length) % 3 == 0))) b off rs (k + 1) := by
 obtain ⟨h1, h2, h3, h4⟩ := h
 have ek : mkFW k0 rs k k = rs[k] := by unfold mkFW; rw [if_neg (by omega), getD_lt _ hk]
 have ek1 : mkFW k0 rs (k + 1) k = ⟨rs[k].a, rs[k].c, mkWd (k0 + cntWordS ((rs.map Nst.m).take k)) rs[k].m⟩ := by unfold mkFW; rw [if_pos (by omega), getD_lt _ hk]
 have ei : ∀ i, i ≠ k → mkFW k0 rs (k + 1) i = mkFW k0 rs k i := fun i hi => by
  unfold mkFW
  by_cases e : i < k
  ·rw [if_pos (by omega), if_pos e]
  ·rw [if_neg (by omega), if_neg e]
 generalize hK : k0 + cntWordS ((rs.map Nst.m).take k) = K at *
 have hs1 := hB.size
 have r0 := (h1.below hB).put wdCl_len hk 0 (by decide) (.string (markU K)) ⟨rs[k].a, rs[k].c, ⟨markU K, rs[k].m.acks, rs[k].m.done⟩⟩ (by rw [ek]; rfl)
 rw [Nat.add_zero] at r0
 have hR : RowG 3 wdCl w2 b off rs.length (putG (mkFW k0 rs k) k ⟨rs[k].a, rs[k].c, ⟨markU K, rs[k].m.acks, rs[k].m.done⟩⟩) := r0.wr hW (by
  rcases hd with ⟨-, rfl, rfl⟩ | ⟨hn, rfl, rfl⟩
  ·exact .inr (Nat.zero_le _)
  ·have := (hA.2 k hk).resolve_left hn
   omega)
 refine ⟨hR, ?_, fun i hil => ?_, ?_, ?_⟩
 ·have r2 := hR.put wdCl_len hk 2 (by decide) (.bool ((K + 1 + rs[k].m.acks.length) % 3 == 0)) ⟨rs[k].a, rs[k].c, mkWd K rs[k].m⟩ (by rw [putG_same]; unfold wdCl Sv mkWd; simp only [marksN_len]; rfl)
  rw [putG_twice] at r2
  refine r2.congr fun i hi => ?_
  by_cases e : i = k
  ·subst e
   rw [putG_same, ek1]
  ·rw [putG_ne _ _ e, ei i e]
 ·by_cases e : i = k
  ·subst e
   have eS := (mkFW_nodes k0 rs (i + 1) i).2
   rw [getD_lt _ hk] at eS
   rw [eS, ek1]
   refine OwN.putW hO ?_ _
   rcases hA.2 i hk with h | h
   ·left
    exact (nil_of_len (marksN_len _ _)).2 h
   ·right
    rw [← hv]; exact h
  ·rw [ei i e]
   obtain ⟨eN, eS⟩ := mkFW_nodes k0 rs k i
   rw [getD_lt _ hil] at eN eS
   have q : OwN lo hi (Sv Wd.acks (mkFW k0 rs k i)) (mkFW k0 rs k i).m.acks w1 := ⟨(h2 i hil).1.below hB, (h2 i hil).2⟩
   have hnb : (mkFW k0 rs k i).m.acks = [] ∨ bO (Sv Wd.acks (mkFW k0 rs k i)) ≠ b := by
    rcases hA.2 i hil with h | h
    ·exact .inl ((nil_of_len eN).2 h)
    ·right
     rw [eS, ← hv]; exact h
   have q1 : OwN lo hi (Sv Wd.acks (mkFW k0 rs k i)) (mkFW k0 rs k i).m.acks w2 := (q.putW hnb _).wr hW (by
    rcases hd with ⟨-, rfl, rfl⟩ | ⟨hn, rfl, rfl⟩
    ·exact .inr (.inr (Nat.zero_le _))
    ·rcases hA.1 i k hil hk e with h | h | h
     ·exact .inl ((nil_of_len eN).2 h)
     ·exact absurd h hn
     ·rw [eS]
      exact .inr (by omega))
   exact q1.putW hnb _
 ·exact ((((h3.trans (Wr.of_below hB)).setW hb1 hb2 _).trans hW').setW hb1 hb2 _)
 ·have := hW'.size
  rw [World.size_setCell] at this
  simp
  omega
end Go.Proofs.YtodfgehicpejgaaGreatDoor
