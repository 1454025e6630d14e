/- Several texts in one: SitK, UsA, SitR, SitS, MnA. -/
import Derived.Test.YtodfgehicpejgaaGreatDoorGk165
import Derived.Test.YtodfgehicpejgaaGreatDoorGk171
import Derived.Test.YtodfgehicpejgaaGreatDoorGk181
import Derived.Deep.RegionHeld3
import Derived.Deep.DeepCutAuto
namespace Go.Proofs.YtodfgehicpejgaaGreatDoor
open Go.ChangeShapes Go.WideShapes Go.ChangeAt Go.RowKit
set_option linter.unusedSimpArgs false
set_option linter.unusedVariables false
set_option maxRecDepth 100000
theorem OwK.build {α : Type} {sz : Nat} {sub : α → List Int} {cl : Nst α → List Value} {w : World} {lo hi b off n cap : Nat} {f : Nat → Nst α} (h : RowG sz cl w b off n f) (hb : lo ≤ b) (hbl : n = 0 ∨ b < hi) (hn : n ≤ cap ∧ cap ≤ 9223372036854775807)
  (hs : ∀ i, i < n → OwN lo hi (Sv sub (f i)) (sub (f i).m) w) (hd : ∀ i j, i < n → j < n → i ≠ j → sub (f i).m = [] ∨ sub (f j).m = [] ∨ bO (Sv sub (f i)) ≠ bO (Sv sub (f j))) (hr : ∀ i, i < n → sub (f i).m = [] ∨ bO (Sv sub (f i)) ≠ b) :
  OwK sz sub cl lo hi (.slice (some ⟨b, off, none⟩) n cap) ((List.range n).map fun i => (f i).m) w := by
 have hl : ((List.range n).map f).length = n := by simp
 have hq := h.own (es := (List.range n).map f) (base := lo) (cap := cap) hl.symm (fun i hi => by simp) hb (by omega) (by omega)
 rw [hl] at hq
 refine ⟨(List.range n).map f, by simp, hq, ?_, fun p hp => ?_, fun i j hi hj hij => ?_, fun i hi => ?_⟩
 ·rcases hbl with h | h
  ·left; subst h; rfl
  ·exact .inr h
 ·obtain ⟨i, hi, rfl⟩ := List.mem_map.1 hp
  exact hs i (List.mem_range.1 hi)
 ·have e1 : ((List.range n).map f)[i] = f i := by simp
  have e2 : ((List.range n).map f)[j] = f j := by simp
  rw [e1, e2]
  exact hd i j (by omega) (by omega) hij
 ·have e1 : ((List.range n).map f)[i] = f i := by simp
  rw [e1]
  exact hr i (by omega)
theorem range_map_m {α : Type} {n : Nat} {f : Nat → Nst α} {ms : List α} (hl : n = ms.length) (h : ∀ i (hi : i < ms.length), (f i).m = ms[i]) : ((List.range n).map fun i => (f i).m) = ms := by
 subst hl
 apply List.ext_getElem
 ·simp
 ·intro i h1 h2
  simp [h i h2]
theorem OwK.far {α : Type} {sz : Nat} {sub : α → List Int} {cl : Nst α → List Value} {lo hi b o : Nat} {v : Value} {ms : List α} {w : World} (h : OwK sz sub cl lo hi v ms w) (hb : b < lo) (u : Value) : OwK sz sub cl lo hi v ms (w.setCell ⟨b, o, none⟩ u) := by
 obtain ⟨rs, e1, e2, e3, e4, e5⟩ := h
 have hW : ∀ k, lo ≤ k → k < hi → (w.setCell ⟨b, o, none⟩ u).heap[k]? = w.heap[k]? := fun k h1 h2 => Below.heap_setCell _ _ _ k (fun e => by simp at e; omega)
 exact ⟨rs, e1, e2.sitsR e3 hW, e3, fun p hp => ⟨(e4 p hp).1.far hb _, (e4 p hp).2⟩, e5⟩
theorem OwN.wr {lo hi lo' hi' : Nat} {v : Value} {m : List Int} {w w' : World} (h : OwN lo hi v m w) (hw : Wr lo' hi' w w') (hne : m = [] ∨ bO v < lo' ∨ hi' ≤ bO v) : OwN lo hi v m w' := by
 have hlt := h.1.bs.lt
 obtain ⟨⟨h0, a, cap, rfl, hcap, h⟩, hl⟩ := h
 refine ⟨⟨h0, a, cap, rfl, hcap, ?_⟩, hl⟩
 rcases hne with hne | hne
 ·exact .inl hne
 ·rcases h with h | ⟨b', off, rfl, hb, hc⟩
  ·exact .inl h
  ·rcases hlt with hlt | hlt
   ·exact .inl hlt
   ·have e := hw.block b' hlt hne
    exact .inr ⟨b', off, rfl, hb, fun i hi => ⟨(World.cell?_of_block (a := ⟨b', off + i, none⟩) e).trans (hc i hi).1, (World.frozen?_of_block (a := ⟨b', off + i, none⟩) e).trans (hc i hi).2⟩⟩
theorem OwN.narrow {lo hi : Nat} {v : Value} {m : List Int} {w : World} (h : OwN lo hi v m w) (hm : m ≠ []) : OwN (bO v) (bO v + 1) v m w ∧ lo ≤ bO v ∧ bO v < hi := by
 have h1 := h.1.ge.resolve_left hm
 have h2 := h.2.resolve_left hm
 refine ⟨⟨?_, .inr (by omega)⟩, h1, h2⟩
 obtain ⟨⟨h0, a, cap, rfl, hcap, h⟩, -⟩ := h
 refine ⟨h0, a, cap, rfl, hcap, ?_⟩
 rcases h with h | ⟨b', off, rfl, hb, hc⟩
 ·exact .inl h
 ·exact .inr ⟨b', off, rfl, Nat.le_refl _, hc⟩
theorem OwN.wide {lo hi lo' hi' : Nat} {v : Value} {m : List Int} {w : World} (h : OwN lo hi v m w) (h1 : lo' ≤ lo) (h2 : hi ≤ hi') : OwN lo' hi' v m w := ⟨h.1.mono h1, by rcases h.2 with h | h; exact .inl h; exact .inr (by omega)⟩
theorem nil_of_len {l l' : List Int} (h : l.length = l'.length) : l = [] ↔ l' = [] := by
 rw [← List.length_eq_zero_iff, ← List.length_eq_zero_iff, h]
theorem getD_lt {α : Type} {l : List α} {i : Nat} (z : α) (h : i < l.length) : l.getD i z = l[i] := by
 rw [List.getD_eq_getElem?_getD, List.getElem?_eq_getElem h]
 rfl
theorem RowG.congr {β : Type} {sz : Nat} {cl : β → List Value} {w : World} {b off n : Nat} {f f' : Nat → β} (h : RowG sz cl w b off n f) (hf : ∀ i, i < n → f' i = f i) : RowG sz cl w b off n f' := fun i hi j u hu => h i hi j u (by rw [← hf i hi]; exact hu)
theorem Wr.setW {lo hi b o : Nat} {w wr : World} (h : Wr lo hi w wr) (h1 : lo ≤ b) (h2 : b < hi) (u : Value) : Wr lo hi w (wr.setCell ⟨b, o, none⟩ u) :=
 h.trans ⟨rfl, rfl, rfl, by simp, fun k hk hn => Below.heap_setCell _ _ _ k (fun e => by simp at e; omega)⟩
theorem OwN.putW {lo hi b o : Nat} {v : Value} {m : List Int} {w : World} (h : OwN lo hi v m w) (hne : m = [] ∨ bO v ≠ b) (u : Value) : OwN lo hi v m (w.setCell ⟨b, o, none⟩ u) :=
 h.wr (lo' := b) (hi' := b + 1) ⟨rfl, rfl, rfl, by simp, fun k hk hn => Below.heap_setCell _ _ _ k (fun e => by simp at e; omega)⟩ (by rcases hne with h | h; exact .inl h; exact .inr (by omega))
structure Ps where
 ka : Option Addr
 kc : Nat
 la : Option Addr
 lc : Nat
 m : St
def psCl (p : Ps) : List Value := [.slice p.ka p.m.kept.length p.kc, .slice p.la p.m.late.length p.lc, .int .i64 p.m.lock]
def psVal (p : Ps) : Value := .agg #[.slice p.ka p.m.kept.length p.kc, .slice p.la p.m.late.length p.lc, .int .i64 p.m.lock]
theorem psCl_len (p : Ps) : (psCl p).length = 3 := rfl
theorem elemS : Elem (α := Ps) 80 28 (.agg #[.slice none 0 0, .slice none 0 0, .int .i64 0]) 3 56 psCl where
 under := Tryz.underlying28
 info := by kernel_rfl
 zcells := by kernel_rfl
 pos := by decide
 len := psCl_len
 one := fun a u hu => by
  simp only [psCl, List.mem_cons, List.not_mem_nil, or_false] at hu
  rcases hu with rfl | rfl | rfl <;> rfl
def PsAt (w : World) (b o : Nat) (p : Ps) : Prop := w.cell? ⟨b, o, none⟩ = some (.slice p.ka p.m.kept.length p.kc) ∧ w.cell? ⟨b, o + 1, none⟩ = some (.slice p.la p.m.late.length p.lc) ∧ w.cell? ⟨b, o + 2, none⟩ = some (.int .i64 p.m.lock)
theorem PsAt.below {w w' : World} {b o : Nat} {p : Ps} (h : PsAt w b o p) (hb : Below w.heap.size w w') : PsAt w' b o p :=
 ⟨(hb.cell (p := ⟨b, o, none⟩) (dCell_lt h.1)).trans h.1, (hb.cell (p := ⟨b, o + 1, none⟩) (dCell_lt h.2.1)).trans h.2.1, (hb.cell (p := ⟨b, o + 2, none⟩) (dCell_lt h.2.2)).trans h.2.2⟩
theorem Rw.ps {w : World} {a : Option Addr} {n cap : Nat} {rs : List Ps} (h : Rw 3 psCl w (.slice a n cap) rs) {k : Nat} (hk : k < rs.length) : ∃ b off, a = some ⟨b, off, none⟩ ∧ ∀ i (hi : i < rs.length), PsAt w b (off + i * 3) rs[i] := by
 obtain ⟨-, a', cap', e, -, h⟩ := h
 cases e
 obtain ⟨b, off, rfl, hc⟩ := orR_of_lt h hk
 exact ⟨b, off, rfl, fun i hi => ⟨hc i hi 0 _ rfl, hc i hi 1 _ rfl, hc i hi 2 _ rfl⟩⟩
def RdStoreS (v : Value) (ms : List St) (W : World) : Prop := ∃ rs : List Ps, rs.map Ps.m = ms ∧ Rw 3 psCl W v rs ∧ ∀ p ∈ rs, RdStore (psVal p) p.m W
theorem RdStoreS.below {v : Value} {ms : List St} {W W' : World} (h : RdStoreS v ms W) (b : Below W.heap.size W W') : RdStoreS v ms W' := by
 obtain ⟨rs, h1, h2, h3⟩ := h
 exact ⟨rs, h1, h2.below b, fun p hp => (h3 p hp).below b⟩
theorem formStoreS {v : Value} {ms : List St} {W : World} (h : RdStoreS v ms W) : ∃ a cap, v = .slice a ms.length cap ∧ ms.length ≤ 9223372036854775807 := by
 obtain ⟨rs, rfl, ⟨h0, a, cap, rfl, -, -⟩, -⟩ := h
 exact ⟨a, cap, by simp, by simpa using h0⟩
def Spn (s : Nat → Nat) (n lo hi : Nat) : Prop := lo ≤ s 0 ∧ (∀ i, i < n → s i ≤ s (i + 1)) ∧ s n ≤ hi
theorem Spn.mono {s : Nat → Nat} {n lo hi : Nat} (h : Spn s n lo hi) : ∀ j i, i ≤ j → j ≤ n → s i ≤ s j := by
 intro j
 induction j with
 | zero =>
  intro i hi _
  obtain rfl : i = 0 := by omega
  exact Nat.le_refl _
 | succ k ih =>
  intro i hi hj
  rcases Nat.lt_or_ge i (k + 1) with h1 | h1
  ·have := ih i (by omega) (by omega)
   have := h.2.1 k (by omega)
   omega
  ·obtain rfl : i = k + 1 := by omega
   exact Nat.le_refl _
theorem Spn.lo {s : Nat → Nat} {n lo hi : Nat} (h : Spn s n lo hi) (i : Nat) (hi' : i ≤ n) : lo ≤ s i := Nat.le_trans h.1 (h.mono i 0 (Nat.zero_le _) hi')
theorem Spn.hi {s : Nat → Nat} {n lo hi : Nat} (h : Spn s n lo hi) (i : Nat) (hi' : i ≤ n) : s i ≤ hi := Nat.le_trans (h.mono n i hi' (Nat.le_refl _)) h.2.2
def OwStoreS (lo hi : Nat) (v : Value) (ms : List St) (W : World) : Prop :=
 ∃ (rs : List Ps) (s : Nat → Nat), rs.map Ps.m = ms ∧ OwnRw 3 psCl W lo v rs ∧ (rs = [] ∨ bO v < s 0) ∧ Spn s rs.length lo hi ∧ ∀ i (h : i < rs.length), OwStore (s i) (s (i + 1)) (psVal rs[i]) rs[i].m W
theorem OwStoreS.rd {lo hi : Nat} {v : Value} {ms : List St} {W : World} (h : OwStoreS lo hi v ms W) : RdStoreS v ms W := by
 obtain ⟨rs, s, h1, h2, -, -, h3⟩ := h
 refine ⟨rs, h1, h2.rw, fun p hp => ?_⟩
 obtain ⟨i, hi, rfl⟩ := List.getElem_of_mem hp
 exact (h3 i hi).rd
theorem OwnRw.sitsS {W W' : World} {lo hi : Nat} {v : Value} {rs : List Ps} (h : OwnRw 3 psCl W lo v rs) (hl : rs = [] ∨ bO v < hi) (hW : ∀ k, lo ≤ k → k < hi → W'.heap[k]? = W.heap[k]?) : OwnRw 3 psCl W' lo v rs := by
 obtain ⟨h0, a, cap, rfl, hcap, h⟩ := h
 refine ⟨h0, a, cap, rfl, hcap, ?_⟩
 rcases hl with hl | hl
 ·exact .inl hl
 ·rcases h with h | ⟨b, off, rfl, hb, hc⟩
  ·exact .inl h
  ·have e := hW b hb hl
   exact .inr ⟨b, off, rfl, hb, fun i hi j u hu => ⟨(World.cell?_of_block (a := ⟨b, off + i * 3 + j, none⟩) e).trans (hc i hi j u hu).1, (World.frozen?_of_block (a := ⟨b, off + i * 3 + j, none⟩) e).trans (hc i hi j u hu).2⟩⟩
theorem OwStoreS.sits {lo hi : Nat} {w : World} {v : Value} {ms : List St} (h : OwStoreS lo hi v ms w) (hf : hi ≤ w.heap.size) : Sits (OwStoreS lo hi v ms) lo hi w := by
 obtain ⟨rs, s, h1, h2, h3, h4, h5⟩ := h
 refine ⟨hf, fun W hW => ⟨rs, s, h1, h2.sitsS (hi := hi) ?_ hW, h3, h4, fun i hi' => ?_⟩⟩
 ·rcases h3 with h | h
  ·exact .inl h
  ·have := h4.hi 0 (Nat.zero_le _)
   exact .inr (by omega)
 ·have a1 := h4.lo i (by omega)
  have a2 := h4.hi (i + 1) (by omega)
  exact ((h5 i hi').sits (by omega)).all W fun k k1 k2 => hW k (by omega) (by omega)
def sumS (ms : List St) : Nat := (ms.map sizStore).sum
def sizStoreS (ms : List St) : Nat := ms.length + sumS ms
def cntStoreS (ms : List St) : Nat := (ms.map fun m => cntStore m + 1).sum
def zeroEr : Nst Er := ⟨none, 0, [], false, 0⟩
def CopK (wr : World) (b : Nat) (rs : List (Nst Er)) (k : Nat) (f : Nat → Nst Er) : Prop :=
 RowG 3 erCl wr b 0 rs.length f ∧ (∀ i (h : i < rs.length), i < k → (f i).m = rs[i].m ∧ OwnN wr (b + 1) (Sv Er.nodes (f i)) (f i).m.nodes) ∧ ∀ i j, i < k → j < k → i < j → (f i).m.nodes = [] ∨ (f j).m.nodes = [] ∨ bO (Sv Er.nodes (f i)) ≠ bO (Sv Er.nodes (f j))
theorem CopK.step {wr w2 : World} {b k : Nat} {rs : List (Nst Er)} {f : Nat → Nst Er} (h : CopK wr b rs k f) (hk : k < rs.length) (hb2 : Below wr.heap.size wr w2) (hbw : b < wr.heap.size) {qa : Option Addr} {qc : Nat} (ho : OwnN w2 wr.heap.size (.slice qa rs[k].m.nodes.length qc) rs[k].m.nodes) :
  CopK (((w2.setCell ⟨b, k * 3, none⟩ (.slice qa rs[k].m.nodes.length qc)).setCell ⟨b, k * 3 + 1, none⟩ (.bool rs[k].m.closed)).setCell ⟨b, k * 3 + 2, none⟩ (.int .i64 rs[k].m.last)) b rs (k + 1) (putG f k ⟨qa, qc, rs[k].m⟩) := by
 obtain ⟨h1, h2, h3⟩ := h
 have far : ∀ {base : Nat} {v : Value} {xs : List Int}, OwnN w2 base v xs → b < base → OwnN (((w2.setCell ⟨b, k * 3, none⟩ (.slice qa rs[k].m.nodes.length qc)).setCell ⟨b, k * 3 + 1, none⟩ (.bool rs[k].m.closed)).setCell ⟨b, k * 3 + 2, none⟩ (.int .i64 rs[k].m.last)) base v xs := fun {base v xs} q hb => ((q.far hb _).far hb _).far hb _
 refine ⟨?_, fun i hi hik => ?_, fun i j hi hj hij => ?_⟩
 ·have r1 := (h1.below hb2).put erCl_len hk 0 (by decide) (.slice qa rs[k].m.nodes.length qc) ⟨qa, qc, ⟨rs[k].m.nodes, (f k).m.closed, (f k).m.last⟩⟩ rfl
  have r2 := r1.put erCl_len hk 1 (by decide) (.bool rs[k].m.closed) ⟨qa, qc, ⟨rs[k].m.nodes, rs[k].m.closed, (f k).m.last⟩⟩ (by rw [putG_same]; rfl)
  have r3 := r2.put erCl_len hk 2 (by decide) (.int .i64 rs[k].m.last) ⟨qa, qc, rs[k].m⟩ (by rw [putG_same]; rfl)
  simpa [putG_twice] using r3
 ·by_cases e : i = k
  ·subst e
   rw [putG_same]
   exact ⟨rfl, far (ho.mono (by omega)) (by omega)⟩
  ·rw [putG_ne _ _ e]
   have q := h2 i hi (by omega)
   exact ⟨q.1, far (q.2.below hb2) (by omega)⟩
 ·by_cases e : j = k
  ·subst e
   rw [putG_same, putG_ne _ _ (by omega)]
   have q := h2 i (by omega) (by omega)
   rcases q.2.bs.lt with h | h
   ·exact .inl h
   ·rcases ho.ge with h' | h'
    ·exact .inr (.inl h')
    ·right; right
     have e1 : bO (Sv Er.nodes (⟨qa, qc, rs[j].m⟩ : Nst Er)) = bO (.slice qa rs[j].m.nodes.length qc) := rfl
     rw [e1]
     omega
  ·rw [putG_ne _ _ e, putG_ne _ _ (by omega)]
   exact h3 i j (by omega) (by omega) hij
structure Mn where
 bye : Int
 epoch : Int
 sealed : List Int
 seen : List Ent
 planned : Bool
 wrote : List (List Int)
def idL (x : List Int) : List Int := x
def lsCl (p : Nst (List Int)) : List Value := [.slice p.a p.m.length p.c]
theorem sv_id (p : Nst (List Int)) : Sv idL p = .slice p.a p.m.length p.c := rfl
theorem lsCl_len (p : Nst (List Int)) : (lsCl p).length = 1 := rfl
theorem Rw.ls {w : World} {a : Option Addr} {n cap : Nat} {rs : List (Nst (List Int))} (h : Rw 1 lsCl w (.slice a n cap) rs) {k : Nat} (hk : k < rs.length) : ∃ b off, a = some ⟨b, off, none⟩ ∧ ∀ i (hi : i < rs.length), w.cell? ⟨b, off + i, none⟩ = some (.slice rs[i].a rs[i].m.length rs[i].c) := by
 obtain ⟨b, off, e, hc⟩ := h.el hk
 exact ⟨b, off, e, fun i hi => by simpa using hc i hi 0 _ rfl⟩
def sumL (ms : List (List Int)) : Nat := (ms.map List.length).sum
theorem sumL_take (ms : List (List Int)) (k : Nat) (h : k < ms.length) : sumL (ms.take (k + 1)) = sumL (ms.take k) + ms[k].length := by
 unfold sumL
 rw [List.take_succ_eq_append_getElem h, List.map_append, List.sum_append, List.map_cons, List.map_nil, List.sum_cons, List.sum_nil, Nat.add_zero]
theorem sumL_le (ms : List (List Int)) (k : Nat) : sumL (ms.take k) ≤ sumL ms := by
 unfold sumL
 conv => rhs; rw [← List.take_append_drop k ms, List.map_append, List.sum_append]
 exact Nat.le_add_right _ _
theorem sumL_mem {ms : List (List Int)} {k : Nat} (h : k < ms.length) : ms[k].length ≤ sumL ms := by
 have h1 := sumL_take ms k h
 have h2 := sumL_le ms (k + 1)
 omega
def RdIntSS (v : Value) (ms : List (List Int)) (W : World) : Prop := RdK 1 idL lsCl v ms W
def OwL (lo hi : Nat) (v : Value) (rs : List (Nst (List Int))) (W : World) : Prop :=
 OwnRw 1 lsCl W lo v rs ∧ (rs = [] ∨ bO v < hi) ∧ (∀ p ∈ rs, OwN lo hi (Sv idL p) p.m W) ∧ Apart idL v rs
def Off (b : Nat) (v : Value) (rs : List (Nst (List Int))) : Prop := (rs = [] ∨ bO v ≠ b) ∧ ∀ p ∈ rs, p.m = [] ∨ bO (Sv idL p) ≠ b
theorem OwL.owk {lo hi : Nat} {v : Value} {rs : List (Nst (List Int))} {W : World} (h : OwL lo hi v rs W) : OwK 1 idL lsCl lo hi v (rs.map Nst.m) W := ⟨rs, rfl, h.1, h.2.1, h.2.2.1, h.2.2.2⟩
theorem OwL.rd {lo hi : Nat} {v : Value} {rs : List (Nst (List Int))} {W : World} (h : OwL lo hi v rs W) : RdIntSS v (rs.map Nst.m) W := OwK.rd h.owk
theorem OwL.sits {lo hi : Nat} {v : Value} {rs : List (Nst (List Int))} {W : World} (h : OwL lo hi v rs W) (hf : hi ≤ W.heap.size) : Sits (OwL lo hi v rs) lo hi W := by
 obtain ⟨h2, h3, h4, h5⟩ := h
 refine ⟨hf, fun w' hW => ⟨h2.sitsR h3 hW, h3, fun p hp => ((h4 p hp).sits hf).all w' hW, h5⟩⟩
theorem OwL.wide {lo hi lo' hi' : Nat} {v : Value} {rs : List (Nst (List Int))} {W : World} (h : OwL lo hi v rs W) (h1 : lo' ≤ lo) (h2 : hi ≤ hi') : OwL lo' hi' v rs W := by
 obtain ⟨e2, e3, e4, e5⟩ := h
 refine ⟨e2.mono h1, ?_, fun p hp => (e4 p hp).wide h1 h2, e5⟩
 rcases e3 with h | h
 ·exact .inl h
 ·exact .inr (by omega)
theorem OwL.far {lo hi b o : Nat} {v : Value} {rs : List (Nst (List Int))} {w : World} (h : OwL lo hi v rs w) (hb : b < lo) (u : Value) : OwL lo hi v rs (w.setCell ⟨b, o, none⟩ u) := by
 obtain ⟨e2, e3, e4, e5⟩ := h
 have hW : ∀ k, lo ≤ k → k < hi → (w.setCell ⟨b, o, none⟩ u).heap[k]? = w.heap[k]? := fun k h1 h2 => Below.heap_setCell _ _ _ k (by simp only; omega)
 exact ⟨e2.sitsR e3 hW, e3, fun p hp => (e4 p hp).putW (by
  rcases (e4 p hp).1.ge with h | h
  ·exact .inl h
  ·exact .inr (by omega)) u, e5⟩
theorem OwL.keep {lo hi : Nat} {v : Value} {rs : List (Nst (List Int))} {w w' : World} (h : OwL lo hi v rs w) (hb : ∀ k, k < w.heap.size → (¬ Off k v rs) → w'.heap[k]? = w.heap[k]?) : OwL lo hi v rs w' := by
 obtain ⟨e2, e3, e4, e5⟩ := h
 refine ⟨?_, e3, fun p hp => ?_, e5⟩
 ·have hlt := e2.ltG lsCl_len (by decide)
  obtain ⟨h0, a, cap, rfl, hcap, h⟩ := e2
  refine ⟨h0, a, cap, rfl, hcap, ?_⟩
  rcases h with h | ⟨b, off, rfl, hb', hc⟩
  ·exact .inl h
  ·rcases hlt with h | hlt
   ·exact .inl h
   ·by_cases hr : rs = []
    ·exact .inl hr
    ·have e := hb b hlt (fun q => (q.1.resolve_left hr) rfl)
     exact .inr ⟨b, off, rfl, hb', fun i hi j u hu => ⟨(World.cell?_of_block (a := ⟨b, off + i * 1 + j, none⟩) e).trans (hc i hi j u hu).1, (World.frozen?_of_block (a := ⟨b, off + i * 1 + j, none⟩) e).trans (hc i hi j u hu).2⟩⟩
 ·obtain ⟨o, hl⟩ := e4 p hp
  refine ⟨?_, hl⟩
  by_cases hm : p.m = []
  ·obtain ⟨h0, a, cap, e, hcap, h⟩ := o
   exact ⟨h0, a, cap, e, hcap, .inl hm⟩
  ·have hlt := o.bs.lt.resolve_left hm
   have e := hb _ hlt (fun q => ((q.2 p hp).resolve_left hm) rfl)
   have n1 : OwN (bO (Sv idL p)) (bO (Sv idL p) + 1) (Sv idL p) p.m w := (OwN.narrow (lo := lo) (hi := w.heap.size) ⟨o, .inr hlt⟩ hm).1
   have n2 := (n1.sits hlt).all w' (fun k h1 h2 => by
    have : k = bO (Sv idL p) := by omega
    subst this
    exact e)
   exact n2.1.mono (o.ge.resolve_left hm)
def RdMend (v : Value) (m : Mn) (W : World) : Prop := ∃ sv ev wv, v = .agg #[.int .i64 m.bye, .int .i64 m.epoch, sv, ev, .bool m.planned, wv] ∧ Ns W sv m.sealed ∧ RdEntryS ev m.seen W ∧ RdIntSS wv m.wrote W
def OwMend (lo hi : Nat) (v : Value) (m : Mn) (W : World) : Prop := ∃ sv ev wv rs, v = .agg #[.int .i64 m.bye, .int .i64 m.epoch, sv, ev, .bool m.planned, wv] ∧ rs.map Nst.m = m.wrote ∧ OwN lo hi sv m.sealed W ∧ OwEntryS lo hi ev m.seen W ∧ OwL lo hi wv rs W ∧ (m.sealed = [] ∨ m.seen = [] ∨ bO sv ≠ bO ev) ∧ (m.sealed = [] ∨ Off (bO sv) wv rs) ∧ (m.seen = [] ∨ Off (bO ev) wv rs)
def sizIntSS (m : List (List Int)) : Nat := m.length + sumL m
def sizMend (m : Mn) : Nat := m.sealed.length + (sizEntryS m.seen + sizIntSS m.wrote)
theorem OwMend.rd {lo hi : Nat} {v : Value} {m : Mn} {W : World} (h : OwMend lo hi v m W) : RdMend v m W := by
 obtain ⟨sv, ev, wv, rs, h1, h2, h3, h4, h5, -⟩ := h
 exact ⟨sv, ev, wv, h1, h3.rd, h4.rd, by rw [← h2]; exact h5.rd⟩
theorem RdMend.below {v : Value} {m : Mn} {W W' : World} (h : RdMend v m W) (b : Below W.heap.size W W') : RdMend v m W' := by
 obtain ⟨sv, ev, wv, h1, h2, h3, h4⟩ := h
 exact ⟨sv, ev, wv, h1, h2.below b, h3.below b, RdK.below h4 b⟩
theorem formMend {v : Value} {m : Mn} {W : World} (h : RdMend v m W) : ∃ sa sc ea ec wa wc, v = .agg #[.int .i64 m.bye, .int .i64 m.epoch, .slice sa m.sealed.length sc, .slice ea m.seen.length ec, .bool m.planned, .slice wa m.wrote.length wc] ∧ m.sealed.length ≤ 9223372036854775807 ∧ m.seen.length ≤ 9223372036854775807 ∧ m.wrote.length ≤ 9223372036854775807 := by
 obtain ⟨sv, ev, wv, rfl, h2, h3, h4⟩ := h
 obtain ⟨h0, a, cap, rfl, -, -⟩ := h2
 obtain ⟨ea, ec, rfl, h1⟩ := formEntryS h3
 obtain ⟨wa, wc, rfl, h5⟩ := formK h4
 exact ⟨a, cap, ea, ec, wa, wc, rfl, h0, h1, h5⟩
theorem OwMend.sits {lo hi : Nat} {w : World} {v : Value} {m : Mn} (h : OwMend lo hi v m w) (hf : hi ≤ w.heap.size) : Sits (OwMend lo hi v m) lo hi w := by
 obtain ⟨sv, ev, wv, rs, h1, h2, h3, h4, h5, h6⟩ := h
 have s3 := h3.sits hf
 have s4 := h4.sits hf
 have s5 := h5.sits hf
 exact ⟨hf, fun W hW => ⟨sv, ev, wv, rs, h1, h2, s3.all W hW, s4.all W hW, s5.all W hW, h6⟩⟩
theorem sv_mk (p : Nst (List Int)) (k : Nat) : Sv idL (⟨p.a, p.c, marksN k p.m.length⟩ : Nst (List Int)) = Sv idL p := by
 rw [sv_id, sv_id]
 simp only [marksN_len]
end Go.Proofs.YtodfgehicpejgaaGreatDoor
