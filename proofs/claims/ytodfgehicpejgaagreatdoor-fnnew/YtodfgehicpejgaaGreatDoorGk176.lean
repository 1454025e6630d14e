/- Several texts in one: MnSb, MsR, MnSc, MnSd, MpT. -/
import Derived.Test.YtodfgehicpejgaaGreatDoorGk169
import Derived.Test.YtodfgehicpejgaaGreatDoorGk163
import Derived.Deep.RegionHeld3
import Derived.Deep.DeepCutAuto
import Derived.Laws.MakeOwn
import Derived.Test.YtodfgehicpejgaaGreatDoorGk186
import Derived.Maps.RangeWalk
import Derived.Carry
namespace Go.Proofs.YtodfgehicpejgaaGreatDoor
open Go.ChangeShapes Go.WideShapes Go.ChangeAt Go.RowKit
set_option linter.unusedSimpArgs false
set_option linter.unusedVariables false
set_option maxRecDepth 100000
def zeroL : Nst (List Int) := ⟨none, 0, []⟩
def CopL (wr : World) (b : Nat) (rs : List (Nst (List Int))) (k : Nat) (f : Nat → Nst (List Int)) : Prop :=
 RowG 1 lsCl wr b 0 rs.length f ∧ (∀ i (h : i < rs.length), i < k → (f i).m = rs[i].m ∧ OwnN wr (b + 1) (Sv idL (f i)) (f i).m) ∧ ∀ i j, i < k → j < k → i < j → (f i).m = [] ∨ (f j).m = [] ∨ bO (Sv idL (f i)) ≠ bO (Sv idL (f j))
theorem CopL.step {wr w2 : World} {b k : Nat} {rs : List (Nst (List Int))} {f : Nat → Nst (List Int)} (h : CopL wr b rs k f) (hk : k < rs.length) (hb2 : Below wr.heap.size wr w2) (hbw : b < wr.heap.size) {qa : Option Addr} {qc : Nat} (ho : OwnN w2 wr.heap.size (.slice qa rs[k].m.length qc) rs[k].m) :
  CopL (w2.setCell ⟨b, k, none⟩ (.slice qa rs[k].m.length qc)) b rs (k + 1) (putG f k ⟨qa, qc, rs[k].m⟩) := by
 obtain ⟨h1, h2, h3⟩ := h
 have far : ∀ {base : Nat} {v : Value} {xs : List Int}, OwnN w2 base v xs → b < base → OwnN (w2.setCell ⟨b, k, none⟩ (.slice qa rs[k].m.length qc)) base v xs := fun {base v xs} q hb => q.far hb _
 refine ⟨?_, fun i hi hik => ?_, fun i j hi hj hij => ?_⟩
 ·have r1 := (h1.below hb2).put lsCl_len hk 0 (by decide) (.slice qa rs[k].m.length qc) ⟨qa, qc, rs[k].m⟩ rfl
  simpa using r1
 ·by_cases e : i = k
  ·subst e
   rw [putG_same]
   exact ⟨rfl, far (ho.mono (by omega)) (by omega)⟩
  ·rw [putG_ne _ _ e]
   have q := h2 i hi (by omega)
   exact ⟨q.1, far (q.2.below hb2) (by omega)⟩
 ·by_cases e : j = k
  ·subst e
   rw [putG_same, putG_ne _ _ (by omega)]
   have q := h2 i (by omega) (by omega)
   rcases q.2.bs.lt with h | h
   ·exact .inl h
   ·rcases ho.ge with h' | h'
    ·exact .inr (.inl h')
    ·right; right
     have e1 : bO (Sv idL (⟨qa, qc, rs[j].m⟩ : Nst (List Int))) = bO (.slice qa rs[j].m.length qc) := rfl
     rw [e1]
     omega
  ·rw [putG_ne _ _ e, putG_ne _ _ (by omega)]
   exact h3 i j (by omega) (by omega) hij
theorem OwL.build {w : World} {lo hi b off n cap : Nat} {f : Nat → Nst (List Int)} (h : RowG 1 lsCl w b off n f) (hb : lo ≤ b) (hbl : n = 0 ∨ b < hi) (hn : n ≤ cap ∧ cap ≤ 9223372036854775807)
  (h4 : ∀ i, i < n → OwN lo hi (Sv idL (f i)) (f i).m w) (h5 : ∀ i j, i < n → j < n → i ≠ j → (f i).m = [] ∨ (f j).m = [] ∨ bO (Sv idL (f i)) ≠ bO (Sv idL (f j))) (h6 : ∀ i, i < n → (f i).m = [] ∨ bO (Sv idL (f i)) ≠ b) :
  OwL lo hi (.slice (some ⟨b, off, none⟩) n cap) ((List.range n).map f) w := by
 have hl : ((List.range n).map f).length = n := by simp
 have hg : ∀ i (hi : i < ((List.range n).map f).length), ((List.range n).map f)[i] = f i := fun i hi => by simp
 have o := RowG.own (es := (List.range n).map f) (base := lo) (cap := cap) h (by simp) (fun i hi => (hg i hi).symm) hb (by rw [hl]; omega) (by rw [hl]; exact hn)
 rw [hl] at o
 refine ⟨o, ?_, fun p hp => ?_, fun i j hi hj hij => ?_, fun i hi => ?_⟩
 ·rcases hbl with h | h
  ·subst h; exact .inl rfl
  ·exact .inr h
 ·obtain ⟨i, hi, rfl⟩ := List.mem_map.1 hp
  exact h4 i (List.mem_range.1 hi)
 ·rw [hg, hg]
  rw [hl] at hi hj
  exact h5 i j hi hj hij
 ·rw [hg]
  rw [hl] at hi
  exact h6 i hi
theorem CopL.own {w wr : World} {rs : List (Nst (List Int))} {f : Nat → Nst (List Int)} (h : CopL wr w.heap.size rs rs.length f) (hsz : w.heap.size < wr.heap.size) (hl : rs.length ≤ 9223372036854775807) : ∃ rs', rs'.map Nst.m = rs.map Nst.m ∧ OwL w.heap.size wr.heap.size (.slice (some ⟨w.heap.size, 0, none⟩) rs.length rs.length) rs' wr := by
 obtain ⟨h1, h2, h3⟩ := h
 refine ⟨(List.range rs.length).map f, ?_, OwL.build h1 (Nat.le_refl _) (.inr hsz) ⟨Nat.le_refl _, hl⟩ (fun i hi => ?_) (fun i j hi hj hij => ?_) fun i hi => ?_⟩
 ·rw [List.map_map]
  exact range_map_m (ms := rs.map Nst.m) (by simp) (fun i hi => by
   have hi' : i < rs.length := by simpa using hi
   rw [List.getElem_map]
   exact (h2 i hi' hi').1)
 ·have q := (h2 i hi hi).2
  exact ⟨q.mono (by omega), q.bs.lt⟩
 ·rcases Nat.lt_or_gt_of_ne hij with h | h
  ·exact h3 i j hi hj h
  ·rcases h3 j i hj hi h with h | h | h
   ·exact .inr (.inl h)
   ·exact .inl h
   ·exact .inr (.inr (Ne.symm h))
 ·rcases (h2 i hi hi).2.ge with h | h
  ·exact .inl h
  ·exact .inr (by omega)
theorem OwL.off {lo hi b : Nat} {v : Value} {rs : List (Nst (List Int))} {w : World} (h : OwL lo hi v rs w) (hb : b < lo) : Off b v rs := by
 refine ⟨?_, fun p hp => ?_⟩
 ·rcases h.1.geG with h | h
  ·exact .inl h
  ·exact .inr (by omega)
 ·rcases (h.2.2.1 p hp).1.ge with h | h
  ·exact .inl h
  ·exact .inr (by omega)
theorem OwMend.made {B b1 b2 : Nat} {V : World} {m : Mn} {sv ev wv : Value} {rs : List (Nst (List Int))} (hr : rs.map Nst.m = m.wrote) (P : OwnN V B sv m.sealed) (p1 : m.sealed = [] ∨ bO sv < b1) (Q : OwnRw 4 Ent.cl V b1 ev m.seen) (q1 : m.seen = [] ∨ bO ev < b2) (R : OwL b2 V.heap.size wv rs V) (h1 : B ≤ b1) (h2 : b1 ≤ b2) : OwMend B V.heap.size (.agg #[.int .i64 m.bye, .int .i64 m.epoch, sv, ev, .bool m.planned, wv]) m V := by
 refine ⟨sv, ev, wv, rs, rfl, hr, ⟨P, P.bs.lt⟩, ⟨Q.mono h1, Q.lt⟩, R.wide (by omega) (Nat.le_refl _), ?_, ?_, ?_⟩
 ·rcases p1 with h | h
  ·exact .inl h
  ·rcases Q.ge with h' | h'
   ·exact .inr (.inl h')
   ·exact .inr (.inr (by omega))
 ·rcases p1 with h | h
  ·exact .inl h
  ·exact .inr (R.off (by omega))
 ·rcases q1 with h | h
  ·exact .inl h
  ·exact .inr (R.off h)
def RdMendS (v : Value) (ms : List Mn) (W : World) : Prop := RdD 6 RdMend v ms W
def OwMendS (lo hi : Nat) (v : Value) (ms : List Mn) (W : World) : Prop := OwD 6 OwMend lo hi v ms W
def sizMendS (ms : List Mn) : Nat := sizD sizMend ms
theorem RdMendS.below {v : Value} {ms : List Mn} {W W' : World} (h : RdMendS v ms W) (b : Below W.heap.size W W') : RdMendS v ms W' := RdD.below (Rd := RdMend) (fun h b => RdMend.below h b) h b
theorem OwMendS.rd {lo hi : Nat} {v : Value} {ms : List Mn} {W : World} (h : OwMendS lo hi v ms W) : RdMendS v ms W := OwD.rd (Rd := RdMend) (Ow := OwMend) (fun h => OwMend.rd h) h
theorem sitsOfMend : SitsOf OwMend := fun h hf => OwMend.sits h hf
theorem makeMendS (n : Nat) (h : n ≤ 1073741824) (w : World) : (Instr.makeSlice 33 (.int .i64 (n : Int)) (.int .i64 (n : Int))).run Tryz.prog w = .ok (.slice (some ⟨w.heap.size, 0, none⟩) n n) (w.alloc (.cells (madeCells (Value.agg #[.int .i64 0, .int .i64 0, .slice none 0 0, .slice none 0 0, .bool false, .slice none 0 0]).cells (n * 6)) 90)) := by
 obtain ⟨i0, hi, hz0, hz1, hz2⟩ := info_parts (show (Tryz.prog.info? 90).map (fun i => (i.zero, i.size, i.bytes)) = some (some (.agg #[.int .i64 0, .int .i64 0, .slice none 0 0, .slice none 0 0, .bool false, .slice none 0 0]), 6, 96) from by kernel_rfl)
 have := run_make (P := Tryz.prog) w 33 90 i0 _ Tryz.underlying33 hi hz0 .i64 .i64 (n : Int) (n : Int) (by omega) (by omega) (by rw [hz2]; omega) (by omega)
 rw [hz1] at this
 simpa using this
def mkL (k0 : Nat) (rs : List (Nst (List Int))) (i : Nat) : Nst (List Int) := ⟨(rs.getD i zeroL).a, (rs.getD i zeroL).c, marksN (k0 + sumL ((rs.map Nst.m).take i)) (rs.getD i zeroL).m.length⟩
def mkLs (k0 : Nat) (rs : List (Nst (List Int))) : List (Nst (List Int)) := (List.range rs.length).map (mkL k0 rs)
theorem mkLs_len (k0 : Nat) (rs : List (Nst (List Int))) : (mkLs k0 rs).length = rs.length := by simp [mkLs]
theorem mkLs_at (k0 : Nat) (rs : List (Nst (List Int))) (i : Nat) (h : i < rs.length) (h' : i < (mkLs k0 rs).length) : (mkLs k0 rs)[i] = ⟨rs[i].a, rs[i].c, marksN (k0 + sumL ((rs.map Nst.m).take i)) rs[i].m.length⟩ := by
 simp [mkLs, mkL, h]
def MarkL (lo hi k0 : Nat) (w wr : World) (rs : List (Nst (List Int))) (k : Nat) : Prop :=
 (∀ i (h : i < rs.length), OwN lo hi (Sv idL rs[i]) (if i < k then marksN (k0 + sumL ((rs.map Nst.m).take i)) rs[i].m.length else rs[i].m) wr) ∧ Wr lo hi w wr ∧ (∀ j, j < w.heap.size → (∀ p ∈ rs, p.m = [] ∨ bO (Sv idL p) ≠ j) → wr.heap[j]? = w.heap[j]?) ∧ hi ≤ wr.heap.size
theorem MarkL.step {lo hi k0 : Nat} {w wr w2 : World} {k : Nat} {rs : List (Nst (List Int))} {v : Value} (h : MarkL lo hi k0 w wr rs k) (hk : k < rs.length) (hA : Apart idL v rs)
  (hO : OwN lo hi (Sv idL rs[k]) (marksN (k0 + sumL ((rs.map Nst.m).take k)) rs[k].m.length) w2) (b1 b2 : Nat) (hW : Wr b1 b2 wr w2) (hd : (rs[k].m = [] ∧ b1 = 0 ∧ b2 = 0) ∨ (rs[k].m ≠ [] ∧ b1 = bO (Sv idL rs[k]) ∧ b2 = bO (Sv idL rs[k]) + 1)) (hW' : Wr lo hi wr w2) :
  MarkL lo hi k0 w w2 rs (k + 1) := by
 obtain ⟨h1, h2, h3, h4⟩ := h
 refine ⟨fun i hil => ?_, h2.trans hW', fun j hj hp => ?_, Nat.le_trans h4 hW'.size⟩
 ·by_cases e : i = k
  ·subst e
   rw [if_pos (by omega)]
   exact hO
  ·have ei : (if i < k + 1 then marksN (k0 + sumL ((rs.map Nst.m).take i)) rs[i].m.length else rs[i].m) = (if i < k then marksN (k0 + sumL ((rs.map Nst.m).take i)) rs[i].m.length else rs[i].m) := by
    by_cases e' : i < k
    ·rw [if_pos (by omega), if_pos e']
    ·rw [if_neg (by omega), if_neg e']
   rw [ei]
   refine (h1 i hil).wr hW ?_
   rcases hd with ⟨-, rfl, rfl⟩ | ⟨hn, rfl, rfl⟩
   ·exact .inr (.inr (Nat.zero_le _))
   ·rcases hA.1 i k hil hk e with h | h | h
    ·left
     change rs[i].m = [] at h
     rw [h]
     split
     ·rfl
     ·rfl
    ·exact absurd h hn
    ·exact .inr (by omega)
 ·rw [← h3 j hj hp]
  refine hW.block j (Nat.lt_of_lt_of_le hj h2.size) ?_
  rcases hd with ⟨-, rfl, rfl⟩ | ⟨hn, rfl, rfl⟩
  ·exact .inr (Nat.zero_le _)
  ·have := (hp _ (List.getElem_mem hk)).resolve_left hn
   omega
theorem OwL.marked {lo hi b1 b2 : Nat} {v u : Value} {rs : List (Nst (List Int))} {w w' : World} {p : Prop} (h : OwL lo hi v rs w) (hW : Wr b1 b2 w w') (hd : (p ∧ b1 = 0 ∧ b2 = 0) ∨ (¬ p ∧ b1 = bO u ∧ b2 = bO u + 1)) (ho : p ∨ Off (bO u) v rs) : OwL lo hi v rs w' :=
 h.keep fun k hk hn => hW.block k hk (by
  rcases hd with ⟨-, rfl, rfl⟩ | ⟨hp, rfl, rfl⟩
  ·exact .inr (Nat.zero_le _)
  ·have := ho.resolve_left hp
   by_cases e : k = bO u
   ·subst e; exact absurd this hn
   ·omega)
theorem Off.mk {k b : Nat} {v : Value} {rs : List (Nst (List Int))} (h : Off b v rs) : Off b v (mkLs k rs) := by
 refine ⟨?_, fun p hp => ?_⟩
 ·rcases h.1 with h | h
  ·left; subst h; rfl
  ·exact .inr h
 ·obtain ⟨i, hi, rfl⟩ := List.mem_iff_getElem.1 hp
  have hi' : i < rs.length := by rw [mkLs_len] at hi; exact hi
  rw [mkLs_at k rs i hi', sv_mk]
  rcases h.2 _ (List.getElem_mem hi') with h | h
  ·exact .inl ((nil_of_len (marksN_len _ _)).2 h)
  ·exact .inr h
def evR : Value → Option (DataW Ev × List MemPlace)
  | .agg ⟨[.int .i64 k, .int .i64 p, .string d]⟩ => some (.held ⟨k, p, d⟩, [])
  | _ => none
theorem evR_mk (e : Ev) : evR e.val = some (.held e, []) := rfl
theorem evR_inv {v : Value} {z : DataW Ev × List MemPlace} (h : evR v = some z) : ∃ e : Ev, v = e.val ∧ z = (.held e, []) := by
  unfold evR at h
  split at h
  · simp only [Option.some.injEq] at h
    exact ⟨⟨_, _, _⟩, rfl, h.symm⟩
  · cases h
theorem zeroEvRun (w : World) : (zeroValue 143).run Tryz.prog w = .ok zeroEv.val w := by kernel_rfl
def evAt (l : List Ev) (z : Int) : Option Ev := l.find? fun e => decide (e.pl = z)
theorem evAt_mem {l : List Ev} {z : Int} {e : Ev} (h : evAt l z = some e) : e ∈ l ∧ e.pl = z := ⟨List.mem_of_find?_eq_some h, by simpa using List.find?_some h⟩
theorem evAt_snoc (l : List Ev) (x : Ev) (z : Int) : evAt (l ++ [x]) z = (evAt l z).or (if x.pl = z then some x else none) := by
  unfold evAt
  rw [List.find?_append]
  congr 1
  by_cases h : x.pl = z <;> simp [h]
theorem pl_inj {l : List Ev} (h1 : (l.map Ev.pl).Nodup) {x y : Ev} (hx : x ∈ l) (hy : y ∈ l) (e : x.pl = y.pl) : x = y := by
  obtain ⟨i, hi, rfl⟩ := List.getElem_of_mem hx
  obtain ⟨j, hj, rfl⟩ := List.getElem_of_mem hy
  have hP := List.pairwise_iff_getElem.1 h1
  rcases Nat.lt_trichotomy i j with h | h | h
  · exact absurd (by rw [List.getElem_map, List.getElem_map]; exact e) (hP i j (by simpa using hi) (by simpa using hj) h)
  · subst h; rfl
  · exact absurd (by rw [List.getElem_map, List.getElem_map]; exact e.symm) (hP j i (by simpa using hj) (by simpa using hi) h)
def TaleN (w : World) (b : Nat) (l : List Ev) : Prop :=
  (l.map Ev.pl).Nodup ∧ allInt (l.map Ev.pl) ∧ ∃ D : DataW Ev, w.ownsMap Tryz.prog 3 evR b l.length D ∧ Maps.size D = l.length ∧ (∀ z, Maps.has D (.int .i64 z) = (evAt l z).isSome) ∧ ∀ z, D.atKey (.int .i64 z) (.held zeroEv) = .held ((evAt l z).getD zeroEv)
theorem TaleN.lt {w : World} {b : Nat} {l : List Ev} (h : TaleN w b l) : b < w.heap.size := by
  obtain ⟨-, -, D, h, -⟩ := h
  exact h.lt
theorem TaleN.kept {w w' : World} {b : Nat} {l : List Ev} {row : Option Nat} (h : TaleN w b l) (hg : w.grownBy w' row) (hne : some b ≠ row) : TaleN w' b l := by
  obtain ⟨h1, h2, D, h3, h4⟩ := h
  exact ⟨h1, h2, D, h3.kept hg hne, h4⟩
theorem TaleN.below {w w' : World} {b : Nat} {l : List Ev} (h : TaleN w b l) (hb : Below w.heap.size w w') : TaleN w' b l := h.kept (grownBy_of_below hb) (by simp)
theorem TaleN.made (w : World) : TaleN (w.alloc (.map #[] 0)) w.heap.size [] := ⟨List.nodup_nil, (fun x h => by cases h), .map [], World.ownsMap_made _ _ _ _, rfl, fun z => rfl, fun z => rfl⟩
def RangeT (w : World) (b r : Nat) (l ys : List Ev) : Prop :=
  (l.map Ev.pl).Nodup ∧ allInt (l.map Ev.pl) ∧ (∀ y ∈ ys, y ∈ l) ∧ ∃ (D : DataW Ev) (left : Lit → Bool) (cnt : Nat), w.ranges Tryz.prog 3 evR b r l.length D left cnt ∧ (∀ z, Maps.has D (.int .i64 z) = (evAt l z).isSome) ∧ (∀ z, D.atKey (.int .i64 z) (.held zeroEv) = .held ((evAt l z).getD zeroEv)) ∧ ∀ z, left (.int .i64 z) = ((evAt l z).isSome && !decide (z ∈ ys.map Ev.pl))
theorem RangeT.lt {w : World} {b r : Nat} {l ys : List Ev} (h : RangeT w b r l ys) : r < w.heap.size := by
  obtain ⟨-, -, -, D, left, cnt, h3, -⟩ := h
  exact h3.lt
theorem RangeT.kept {w w' : World} {b r : Nat} {l ys : List Ev} {row : Option Nat} (h : RangeT w b r l ys) (hg : w.grownBy w' row) (hb : some b ≠ row) (hr : some r ≠ row) : RangeT w' b r l ys := by
  obtain ⟨h1, h2, h3, D, left, cnt, h5, h6⟩ := h
  exact ⟨h1, h2, h3, D, left, cnt, h5.kept hg hb hr, h6⟩
theorem RangeT.below {w w' : World} {b r : Nat} {l ys : List Ev} (h : RangeT w b r l ys) (hb : Below w.heap.size w w') : RangeT w' b r l ys := h.kept (grownBy_of_below hb) (by simp) (by simp)
theorem RangeT.left_below {w w' : World} {b r : Nat} {l ys : List Ev} (h : RangeT w b r l ys) (hb : Below w.heap.size w w') : w'.rangeLeft b r = w.rangeLeft b r := by
  obtain ⟨h1, h2, h3, D, left, cnt, h5, h6⟩ := h
  rw [(h5.kept (grownBy_of_below hb) (by simp) (by simp)).left_eq, h5.left_eq]
section
variable (w : World) {ops : Array Oper} {rest : List Oper} {o : Oper} {a : Act} {Q : Exit → Act → World → Prop}
theorem wp_talePut (hg : o.guard = none) (m x v : Operand) (hop : o.op = Op.mapUpdate 264 m x v) (b : Nat) (l : List Ev) (e : Ev) (hm : a.eval m = .map (some b)) (h : TaleN w b l)
    (hx : a.eval x = .int .i64 e.pl) (hz : -9223372036854775808 ≤ e.pl ∧ e.pl ≤ 9223372036854775807) (hv : a.eval v = e.val) (hl : l.length ≤ 1099511627776) (hn : evAt l e.pl = none)
    (hK : ∀ w', TaleN w' b (l ++ [e]) → w.grownBy w' (some b) → wpList Tryz.prog ops Q rest (a.put o.dst undef) w') : wpList Tryz.prog ops Q (o :: rest) a w := by
  obtain ⟨h1, h2, D, h3, h4, h5, h6⟩ := h
  refine wpList_mapUpdate_own _ hg m x v 264 hop 3 143 keyI Tryz.underlying264 evR b l.length D hm h3 (by unfold maxLen; omega) _ _ (.int .i64 e.pl) hx hv (keyOf_z hz) (.held e) [] (evR_mk e) ?_
  intro w' o1 g1
  have hni : e.pl ∉ l.map Ev.pl := fun hh => by
    obtain ⟨y, hy, ey⟩ := List.mem_map.1 hh
    have := List.find?_eq_none.1 hn y hy
    simp [ey] at this
  refine hK w' ⟨?_, fun y hy => ?_, D.put (.int .i64 e.pl) (.held e), ?_, ?_, fun z => ?_, fun z => ?_⟩ g1
  · rw [List.map_append]
    refine List.nodup_append.2 ⟨h1, by simp, fun p hp q hq => ?_⟩
    obtain rfl : q = e.pl := by simpa using hq
    intro ee
    exact hni (ee ▸ hp)
  · rw [List.map_append] at hy
    rcases List.mem_append.1 hy with hy | hy
    · exact h2 y hy
    · obtain rfl : y = e.pl := by simpa using hy
      exact hz
  · have ee : Maps.size (D.put (.int .i64 e.pl) (.held e)) = (l ++ [e]).length := by
      rw [Maps.size_put (h3.tidy keyI), h5, h4, hn]
      simp
    rw [← ee]
    obtain ⟨es, clock, hb, F, hs, e'⟩ := o1
    rw [e']
    exact ⟨es, clock, hb, F, by simp [Maps.size, length_sorted], rfl⟩
  · rw [Maps.size_put (h3.tidy keyI), h5, h4, hn]
    simp
  · by_cases hy : z = e.pl
    · subst hy
      rw [Maps.has_put_same h3.isMap (keyI.key (keyOf_z hz)), evAt_snoc, hn]
      simp
    · rw [Maps.has_put_other (by simpa using hy), h5 z, evAt_snoc, if_neg (fun h => hy h.symm)]
      simp
  · by_cases hy : z = e.pl
    · subst hy
      rw [Maps.atKey_put_same h3.isMap (keyI.key (keyOf_z hz)), evAt_snoc, hn]
      simp
    · rw [Maps.atKey_put_other (by simpa using hy), h6 z, evAt_snoc, if_neg (fun h => hy h.symm)]
      simp
theorem wp_taleHas (hg : o.guard = none) (m x : Operand) (hop : o.op = Op.lookup 264 m x true) (b : Nat) (l : List Ev) (z : Int) (hm : a.eval m = .map (some b)) (h : TaleN w b l)
    (hx : a.eval x = .int .i64 z) (hz : -9223372036854775808 ≤ z ∧ z ≤ 9223372036854775807)
    (hK : wpList Tryz.prog ops Q rest (a.put o.dst (.tuple #[((evAt l z).getD zeroEv).val, .bool (evAt l z).isSome])) w) : wpList Tryz.prog ops Q (o :: rest) a w := by
  obtain ⟨h1, h2, D, h3, h4, h5, h6⟩ := h
  refine wpList_lookup_own_ok _ hg m x 264 hop 3 143 keyI Tryz.underlying264 evR (zeroEvRun _) (.held zeroEv) [] (evR_mk _) b l.length D hm h3 _ (.int .i64 z) hx (keyOf_z hz) ?_
  intro v ps hv
  obtain ⟨e, rfl, he⟩ := evR_inv hv
  rw [h6 z] at he
  simp only [Prod.mk.injEq, DataW.held.injEq] at he
  rw [h5 z, ← he.1]
  exact hK
theorem lookT (b : Nat) (l : List Ev) (z : Int) (h : TaleN w b l) (hz : -9223372036854775808 ≤ z ∧ z ≤ 9223372036854775807) : (Instr.lookup 264 (.map (some b)) (.int .i64 z) false).run Tryz.prog w = .ok ((evAt l z).getD zeroEv).val w := by
  obtain ⟨h1, h2, D, h3, h4, h5, h6⟩ := h
  obtain ⟨v, ps, hrun, hv⟩ := h3.lookup keyI Tryz.underlying264 (zeroEvRun _) (evR_mk _) (keyOf_z hz)
  obtain ⟨e, rfl, he⟩ := evR_inv hv
  rw [h6 z] at he
  simp only [Prod.mk.injEq, DataW.held.injEq] at he
  rw [← he.1] at hrun
  exact hrun
theorem wp_taleRange (hg : o.guard = none) (m : Operand) (hop : o.op = Op.range 264 m) (b : Nat) (l : List Ev) (hm : a.eval m = .map (some b)) (h : TaleN w b l)
    (hK : ∀ w', RangeT w' b w.heap.size l [] → w.grownBy w' none → w'.heap.size = w.heap.size + 1 → wpList Tryz.prog ops Q rest (a.put o.dst (.pointer (some ⟨w.heap.size, 0, none⟩))) w') : wpList Tryz.prog ops Q (o :: rest) a w := by
  obtain ⟨h1, h2, D, h3, h4, h5, h6⟩ := h
  refine wpList_range_own _ hg m 264 hop 3 143 keyI Tryz.underlying264 evR b l.length D hm h3 ?_
  intro w' r1 g1 s1
  exact hK w' ⟨h1, h2, (fun y h => by cases h), D, _, _, r1, h5, h6, fun z => by rw [h5 z]; simp⟩ g1 s1
theorem wp_taleNext (hg : o.guard = none) (it : Operand) (hop : o.op = Op.next it false) (b r : Nat) (l ys : List Ev) (hit : a.eval it = .pointer (some ⟨r, 0, none⟩)) (h : RangeT w b r l ys)
    (hDone : (∀ y ∈ l, y ∈ ys) → wpList Tryz.prog ops Q rest (a.put o.dst (.tuple #[.bool false])) w)
    (hMore : ∀ (x : Ev) (w' : World), x ∈ l → RangeT w' b r l (ys ++ [x]) → w'.rangeLeft b r < w.rangeLeft b r → w.grownBy w' (some r) →
      (Instr.entry (.pointer (some ⟨r, 0, none⟩))).run Tryz.prog w' = .ok (.tuple #[.int .i64 x.pl, x.val]) w' → wpList Tryz.prog ops Q rest (a.put o.dst (.tuple #[.bool true, .int .i64 x.pl, x.val])) w') : wpList Tryz.prog ops Q (o :: rest) a w := by
  obtain ⟨h1, h2, h3, D, left, cnt, h5, h6, h7, h8⟩ := h
  have inj : ∀ x ∈ l, ∀ y ∈ l, x.pl = y.pl → x = y := fun x hx y hy e => pl_inj h1 hx hy e
  have some_of : ∀ x ∈ l, evAt l x.pl = some x := fun x hx => by
    cases hq : evAt l x.pl with
    | none => have := List.find?_eq_none.1 hq x hx; simp at this
    | some y => rw [inj y (evAt_mem hq).1 x hx (evAt_mem hq).2]
  refine wpList_next_ranges (α := Int) (β := Ev) _ hg it hop 3 keyI evR (Value.int .i64) Ev.val (fun key kl hk => by obtain ⟨x, rfl, _⟩ := Maps.keyOf_int_inv Tryz.underlying3 hk; exact ⟨x, rfl⟩) (fun v y hv => by obtain ⟨e, rfl, _⟩ := evR_inv hv; exact ⟨e, rfl⟩) b r l.length D left cnt hit h5 ?_ ?_
  · intro hc hl0
    refine hDone fun y hy => ?_
    have := h8 y.pl
    rw [hl0, some_of y hy] at this
    simp at this
    obtain ⟨q, hq, e⟩ := this
    rw [← inj q (h3 q hq) y hy e]
    exact hq
  · intro x c kl y w' cnt' hkey hlk hv hat hrg hlt hgr hsz hen
    obtain ⟨x', ex, rfl, hwx⟩ := Maps.keyOf_int_inv Tryz.underlying3 hkey
    cases ex
    have hx := h8 x
    rw [hlk] at hx
    simp only [Bool.true_eq, Bool.and_eq_true, Bool.not_eq_true', decide_eq_false_iff_not] at hx
    obtain ⟨e, he⟩ := Option.isSome_iff_exists.1 hx.1
    have hy := hat (.held zeroEv)
    rw [h7 x, he] at hy
    have hv' := evR_mk c
    rw [hv'] at hv
    simp only [Option.some.injEq] at hv
    rw [← hv] at hy
    simp only [Option.getD_some, DataW.held.injEq] at hy
    subst hy
    obtain ⟨m1, m2⟩ := evAt_mem he
    subst m2
    refine hMore e w' m1 ⟨h1, h2, ?_, D, _, cnt', hrg, h6, h7, fun z => ?_⟩ (by rw [hrg.left_eq, h5.left_eq]; exact hlt) hgr hen
    · intro z hz
      rcases List.mem_append.1 hz with hz | hz
      · exact h3 z hz
      · obtain rfl : z = e := by simpa using hz
        exact m1
    · rw [h8 z]
      by_cases hzx : z = e.pl
      · subst hzx
        have : (Lit.int .i64 e.pl).sameKey (.int .i64 e.pl) = true := WideAt.sameKey_self (keyI.key hkey)
        simp [this]
      · have : (Lit.int .i64 z).sameKey (.int .i64 e.pl) = false := Maps.sameKey_ne (by simpa using hzx)
        simp [this, hzx]
end
end Go.Proofs.YtodfgehicpejgaaGreatDoor
