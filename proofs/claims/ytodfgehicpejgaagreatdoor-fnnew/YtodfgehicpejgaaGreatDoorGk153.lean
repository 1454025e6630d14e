/- Several texts in one: RndP, ImpEa. -/
import Derived.Test.YtodfgehicpejgaaGreatDoorGk186
import Derived.RangeFuncNested
import Derived.RangeFuncBound
import Derived.RangeFuncCalls
import Derived.RangeFuncLeaves
import Derived.RangeFuncBox
import Derived.RangeFuncWrites
import Derived.Shelf.Abstract
import Derived.Shelf.RegionOpen
import Derived.WalkKit
import Derived.OwnWalkIn
import Derived.TacticsInMore
import Derived.LoopNIn
import Derived.LoopIn
import Derived.Maps.OwnIn
import Derived.Maps.AppendAt
import Derived.Deep.RegionHeld3
import Derived.WideKeyEntry
namespace Go.Proofs.YtodfgehicpejgaaGreatDoor
open Go.ChangeShapes Go.WideShapes Go.ChangeAt Go.RowKit
open Go.ChangeShapes Go.WideShapes Go.ChangeAt Go.RowKit Go.Shelf
set_option linter.unusedVariables false
def OnlyN (Q : Exit → Act → World → Prop) : Exit → Act → World → Prop
 | .normal, a, w => Q .normal a w
 | _, _, _ => False
theorem OnlyN.normal {Q : Exit → Act → World → Prop} {a : Act} {w : World} (h : Q .normal a w) : OnlyN Q .normal a w := h
theorem OnlyN.imp {Q : Exit → Act → World → Prop} : ∀ (e : Exit) (a : Act) (w : World), OnlyN Q e a w → Q e a w := fun e a w h => by
 cases e <;> first | exact h | exact (h : False).elim
theorem SetN.cells {w w' : World} {b : Nat} {xs : List Int} (h : SetN w b xs) (hg : w.grownBy w' (some b)) {p : Addr} {v : Value} (hc : w.cell? p = some v) : w'.cell? p = some v := by
 obtain ⟨-, -, D, ⟨es, clock, hb, -⟩, -⟩ := h
 exact cell_kept hc hg (fun r e => by cases e; exact ⟨_, hb, rfl⟩)
theorem SetN.put {w : World} {b : Nat} {xs : List Int} {z : Int} (h : SetN w b xs) (hz : -9223372036854775808 ≤ z ∧ z ≤ 9223372036854775807) (hl : xs.length ≤ 1099511627776) :
  ∃ w', (Instr.mapUpdate 254 (.map (some b)) (.int .i64 z) (.agg #[])).run Tryz.prog w = .ok () w' ∧ SetN w' b (addD xs z) ∧ w.grownBy w' (some b) := by
 obtain ⟨h1, h2, D, h3, h4, h5⟩ := h
 obtain ⟨w', r, o1, g1⟩ := h3.update keyI Tryz.underlying254 (by unfold maxLen; omega) (keyOf_z hz) (unitElem_mk (H := Unit))
 have hsz : Maps.size (D.put (.int .i64 z) (.agg [])) = (addD xs z).length := by
  rw [Maps.size_put (h3.tidy keyI), h5 z, h4]
  unfold addD
  by_cases hzx : z ∈ xs <;> simp [hzx]
 refine ⟨w', r, ⟨nodup_addD h1, fun y hy => ?_, D.put (.int .i64 z) (.agg []), ?_, hsz, fun y => ?_⟩, g1⟩
 ·unfold addD at hy
  split at hy
  ·exact h2 y hy
  ·rcases List.mem_append.1 hy with hy | hy
   ·exact h2 y hy
   ·obtain rfl : y = z := by simpa using hy
    exact hz
 ·rw [← hsz]
  exact own_tight o1
 ·by_cases hy : y = z
  ·subst hy
   rw [Maps.has_put_same h3.isMap (keyI.key (keyOf_z hz))]
   unfold addD
   by_cases hzx : y ∈ xs <;> simp [hzx]
  ·rw [Maps.has_put_other (by simpa using hy), h5 y]
   unfold addD
   by_cases hzx : z ∈ xs <;> simp [hzx, hy]
theorem SetN.entry {w : World} {b : Nat} {xs : List Int} {z : Int} (h : SetN w b xs) (hz : -9223372036854775808 ≤ z ∧ z ≤ 9223372036854775807) (hn : z ∉ xs) (hl : xs.length ≤ 1099511627776) :
  ∃ (w1 : World) (st : Nat), (Instr.mapEntry 254 (.map (some b)) (.int .i64 z)).run Tryz.prog w = .ok (.tuple #[.agg #[], goInt st]) w1 ∧ SetN w1 b (addD xs z) ∧ w.grownBy w1 (some b) ∧
   ∃ w2, (Instr.entryStore 254 (.map (some b)) (goInt st) (.agg #[])).run Tryz.prog w1 = .ok () w2 ∧ SetN w2 b (addD xs z) ∧ w1.grownBy w2 (some b) := by
 obtain ⟨w', hrun, hset, hg⟩ := h.put hz hl
 obtain ⟨h1, h2, D, ⟨es, clock, hb, F, hs, hD⟩, h4, h5⟩ := h
 obtain ⟨s1, s2, _⟩ := F.stamped
 rcases keyI.find w (keyOf_z hz) es.toList F.keys with ⟨k1, k2⟩ | ⟨j, e0, k1, k2, k3⟩
 ·have hu : (Instr.mapUpdate 254 (.map (some b)) (.int .i64 z) (.agg #[])).run Tryz.prog w = .ok () (Go.ChangeMaps.setBlock w b (.map (es.push ⟨.int .i64 z, .agg #[], clock⟩) (clock + 1))) := by
   simp [Instr.mapUpdate, run_underlying Tryz.underlying254, MapKept.run_getObj_map hb, keyI.check w false (keyOf_z hz), k1, MapKept.run_setObj_map _ hb, Result.andThen, Go.ChangeMaps.setBlock]
  rw [hrun] at hu
  obtain rfl : w' = Go.ChangeMaps.setBlock w b (.map (es.push ⟨.int .i64 z, .agg #[], clock⟩) (clock + 1)) := by simpa using hu
  refine ⟨_, clock, ?_, hset, hg, ?_⟩
  ·simp [Instr.mapEntry, run_underlying Tryz.underlying254, MapKept.run_getObj_map hb, keyI.check w false (keyOf_z hz), k1, MapKept.run_setObj_map _ hb, Result.andThen, Go.ChangeMaps.setBlock]
  ·have hb1 := Go.ChangeMaps.heap_setBlock_same hb (.map (es.push ⟨.int .i64 z, .agg #[], clock⟩) (clock + 1))
   have hidx : (es.push ⟨.int .i64 z, .agg #[], clock⟩).findIdx? (fun e => ((e.born : Nat) : Int) == ((clock : Nat) : Int)) = some es.size := by
    rw [Go.WideElems.findIdx_arr]
    refine Go.WideElems.findIdx_born (l := (es.push ⟨.int .i64 z, .agg #[], clock⟩).toList) (j := es.size) (e0 := ⟨.int .i64 z, .agg #[], clock⟩) ?_ (by simp)
    rw [Array.toList_push, List.map_append]
    refine List.nodup_append.2 ⟨s2, by simp, fun p hp q hq e1 => ?_⟩
    obtain ⟨x, hx, rfl⟩ := List.mem_map.1 hp
    have := s1 x hx
    simp at hq
    omega
   have hmod : (es.push ⟨.int .i64 z, .agg #[], clock⟩).modify es.size (fun e => { e with val := .agg #[] }) = es.push ⟨.int .i64 z, .agg #[], clock⟩ := by
    apply Array.ext'
    rw [Array.toList_modify, Array.toList_push, ← Array.length_toList, Go.WideElems.modify_last]
   refine ⟨Go.ChangeMaps.setBlock (Go.ChangeMaps.setBlock w b (.map (es.push ⟨.int .i64 z, .agg #[], clock⟩) (clock + 1))) b (.map (es.push ⟨.int .i64 z, .agg #[], clock⟩) (clock + 1)), ?_, ?_, ?_⟩
   ·generalize Go.ChangeMaps.setBlock w b (.map (es.push ⟨.int .i64 z, .agg #[], clock⟩) (clock + 1)) = u at hb1
    simp [Instr.entryStore, MapKept.run_getObj_map hb1, asInt, asIntOf, goInt, hidx, hmod, MapKept.run_setObj_map _ hb1, Result.andThen, Go.ChangeMaps.setBlock]
   ·obtain ⟨q1, q2, D', ⟨es', clock', hb', F', hs', hD'⟩, q4, q5⟩ := hset
    rw [hb1] at hb'
    obtain ⟨rfl, rfl⟩ : es.push ⟨.int .i64 z, .agg #[], clock⟩ = es' ∧ clock + 1 = clock' := by simpa using hb'
    exact ⟨q1, q2, D', ⟨_, _, Go.ChangeMaps.heap_setBlock_same hb1 _, F', hs', hD'⟩, q4, q5⟩
   ·exact ⟨rfl, rfl, rfl, by simp [Go.ChangeMaps.setBlock], fun i _ hi => Go.ChangeMaps.heap_setBlock_other hb1 _ (fun e => hi (by rw [e]))⟩
 ·exfalso
  rcases Maps.fit_look true keyI Tryz.underlying254 (zeroU w) hb F (keyOf_z hz) with ⟨_, k, _⟩ | ⟨e1, y, m1, m2, m3, m4, m5, _⟩
  ·exact k e0 (List.mem_of_getElem? k2) k3
  ·have h6 := h5 z
   rw [decide_eq_false hn] at h6
   have hh : Maps.has D (.int .i64 z) = true := by
    obtain ⟨v, ps, r1, r2⟩ := World.ownsMap.look_ok (w := w) (b := b) (n := xs.length) (D := D) ⟨es, clock, hb, F, hs, hD⟩ keyI Tryz.underlying254 (zeroU w) (unitElem_mk (H := Unit)) (keyOf_z hz)
    rw [m3] at r1
    simp at r1
    exact r1.2
   rw [hh] at h6
   cases h6
section
variable {w : World} {ops : Array Oper} {o : Oper} {a : Act} {K : Act → World → Prop} {Q : Exit → Act → World → Prop} {E : Prop}
end
attribute [local go_sem] Oper.semAt_some
theorem ownN_none0 (w : World) (base : Nat) : OwnN w base (.slice none 0 0) [] := ⟨by simp, _, _, rfl, by simp, .inl rfl⟩
set_option maxRecDepth 100000 in
set_option maxHeartbeats 2000000 in
theorem bits1_in (F : Fence) (n : Nat) (hf : F.fn 258) (hro : F.round = none) (hn : 1 ≤ n) (l Bm n₀ : Nat) (m : Int) (J Jx : List Int → World → Prop)
  (hY : ∀ pre x W, J pre W → pre.length < 8 → YieldAt F (n - 1) Tryz.prog l #[.int .i64 x] W fun e W' =>
   (e = .returned (.bool true) ∧ J (pre ++ [x]) W' ∧ Below n₀ W W') ∨ (e = .returned (.bool false) ∧ Jx (pre ++ [x]) W'))
  (W : World) (hB : Bm < n₀) (hc : W.cell? ⟨Bm, 0, none⟩ = some (.int .i64 m)) (h0 : J [] W) :
  CallsIn F n Tryz.prog 258 #[.func (.yield l) #[] #[], .pointer (some ⟨Bm, 0, none⟩)] W fun e W' => (∃ v, e = .returned v) ∧
   ((∃ ys, ys = bitsTo m 8 ∧ J ys W') ∨ (∃ pre, True ∧ Jx pre W')) := by
 refine callsIn_of_wp Tryz.func258 rfl hf ?_ hro
 simp only [Tryz.ntmps258, List.size_toArray, List.length_cons, List.length_nil, Nat.reduceAdd, Nat.reduceSub, Array.replicate_succ, Array.replicate_zero, List.push_toArray, List.append_toArray, List.nil_append, List.cons_append]
 gi_wp2
 gi_loopw [4] (fun i wr => ∃ k : Nat, i = .int .i64 (k : Int) ∧ k ≤ 8 ∧ J (bitsTo m k) wr ∧ Below n₀ W wr) (fun i _ => 8 - (intOf i).toNat)
 case atStart => exact ⟨0, rfl, Nat.zero_le _, h0, Below.refl _ _⟩
 case round =>
  obtain ⟨k, rfl, hk, hJ, hb⟩ := hrel
  have c1 : wr.cell? ⟨Bm, 0, none⟩ = some (.int .i64 m) := (hb.cell (p := ⟨Bm, 0, none⟩) hB).trans hc
  by_cases hlt : (k : Int) < 8
  ·have hS := dH (bitsTo_succ m k)
   have hlen := bitsTo_len m k
   have hbit : Hid (bitOn m k = (bits .and .i64 (m / 2 ^ k) 1 == 1)) := by rw [i64_and1]; rfl
   generalize bitsTo m k = L at *
   cases hq : bitOn m k with
   | true =>
    rw [hq] at hbit hS
    have hbit' := (dU hbit).symm
    clear hbit hq
    obtain ⟨fn, tmps, assign, body, hy, hR⟩ := hY L (k : Int) wr hJ (by omega)
    gi_wp2
    refine hR.mono ?_
    rintro e W3 (⟨rfl, hJ3, hk3⟩ | ⟨rfl, hJx3⟩)
    ·gi_wp2
     go_roundw
     case rel => exact ⟨k + 1, by go_num, by omega, by rw [dU hS]; exact hJ3, hb.trans hk3⟩
     case measure => simp [intOf]; omega
    ·gi_wp2
     refine bodyPost_ret (results_none rfl _ _ _) rfl ?_
     exact ⟨⟨_, rfl⟩, .inr ⟨_, trivial, hJx3⟩⟩
   | false =>
    rw [hq] at hbit hS
    have hbit' := (dU hbit).symm
    clear hbit hq
    gi_wp2
    refine ⟨fun _ h => (by cases h), ?_⟩
    gi_wp2
    go_roundw
    case rel => exact ⟨k + 1, by go_num, by omega, by rw [dU hS]; exact hJ, hb⟩
    case measure => simp [intOf]; omega
  ·obtain rfl : k = 8 := by omega
   gi_wp2
   go_end0
   exact ⟨⟨_, rfl⟩, .inl hJ⟩
theorem bits_stops (F : Fence) (n : Nat) (hf : F.fn 258) (hro : F.round = none) (hn : 1 ≤ n) (Bm : Nat) (m : Int) (w : World) (hB : Bm < w.heap.size) (hc : w.cell? ⟨Bm, 0, none⟩ = some (.int .i64 m)) :
  SeqStopsK F n Tryz.prog 258 #[.pointer (some ⟨Bm, 0, none⟩)] (fun x : Int => #[Value.int .i64 x]) (Below w.heap.size) (fun ys => ys = bitsTo m 8) (fun _ => True) 8 w := fun l J Jx W hW _ _ hY h0 =>
 bits1_in F n hf hro hn l Bm w.heap.size m J Jx hY W hB ((hW.cell (p := ⟨Bm, 0, none⟩) hB).trans hc) h0
set_option maxHeartbeats 1000000 in
theorem bitsOf_in (F : Fence) (n : Nat) (hf : F.fn 182) (hro : F.round = none) (m : Int) (w : World) :
  CallsIn F n Tryz.prog 182 #[.int .i64 m] w fun e w' => e = .returned (.func (.func 258) #[] #[.pointer (some ⟨w.heap.size, 0, none⟩)]) ∧ w' = w.alloc (.cells #[.int .i64 m] 3) := by
 refine callsIn_of_wp Tryz.func182 rfl hf ?_ hro
 simp only [Tryz.ntmps182, List.size_toArray, List.length_cons, List.length_nil, Nat.reduceAdd, Nat.reduceSub, Array.replicate_succ, Array.replicate_zero, List.push_toArray, List.append_toArray, List.nil_append, List.cons_append]
 gi_wp2
 go_ret
 exact ⟨rfl, rfl⟩
set_option maxRecDepth 100000 in
set_option maxHeartbeats 2000000 in
theorem appendSeq_in (F : Fence) (n : Nat) (hf : F.fn 257) (hro : F.round = none) (hn : 2 ≤ n) (g : Nat) (lb : Array Value) (hFg : F.fn g) (eg : ∀ args w, (callFunc g args).run Tryz.prog w = .ok (.enter g args) w)
  (S Sp : List Int → Prop) (N : Nat) (hN : N ≤ 1048576) (w : World) (hseq : SeqStopsK F (n - 1) Tryz.prog g lb (fun x : Int => #[Value.int .i64 x]) (Below w.heap.size) S Sp N w) :
  CallsIn F n Tryz.prog 257 #[.slice none 0 0, .func (.func g) #[] lb] w fun e w' => ∃ (v : Value) (ss : List Int), e = .returned v ∧ S ss ∧ w'.ownsRow w.heap.size 3 1 v ss.length (ncells ss) ∧ Below w.heap.size w w' := by
 have h1 : 1 ≤ n := by omega
 obtain ⟨i0, hi, hz0, hz1, hz2⟩ := info_parts infoI
 refine callsIn_of_wp_marks Tryz.func257 rfl hf ?_ hro
 simp only [Tryz.ntmps257, List.size_toArray, List.length_cons, List.length_nil, Nat.reduceAdd, Nat.reduceSub, Array.replicate_succ, Array.replicate_zero, List.push_toArray, List.append_toArray, List.nil_append, List.cons_append]
 gi_wp2
 have bO := Boxed.new w 24 (.slice none 0 0)
 have hB0 : Below w.heap.size w (w.alloc (.cells #[.slice none 0 0] 24)) := (Below.refl _ w).alloc (Nat.le_refl _) _
 refine wpIn_rangeFunc_ownG hro h1 (gf := g) (lb := lb) rfl hFg eg hseq belowK_t (belowK_b (by simp)) hB0 (fun _ => rfl)
  (fun pre W => (∃ v, Boxed W w.heap.size 24 v ∧ W.ownsRow w.heap.size 3 1 v pre.length (pre.map (Value.int .i64)) ∧ True) ∧ Below w.heap.size w W)
  (fun _ _ _ => False)
  (OwnFrom.and (Own.from (holdsRow_own w.heap.size w.heap.size 24 3 1 (fun pre : List Int => pre.length) (fun pre : List Int => pre.map (Value.int .i64)) (fun _ _ => True)) _) (ownFrom_below (Nat.le_refl _) (by simp)))
  (fun _ _ _ _ _ hs _ _ => hs)
  ⟨⟨_, bO, World.ownsRow_nil _ _ _ _, trivial⟩, hB0⟩
  (fun x => { tmps := #[.slice none 0 0, .func (.func g) #[] lb, .pointer (some ⟨w.heap.size, 0, none⟩), undef, .slice none 0 0, .int .i64 x, .func (.func g) #[] lb, .int .i64 x, undef, undef, undef, undef, undef], defers := [] }) ?assign ?body ?done ?stop
 case assign =>
  intro l x W K hK
  gi_wp2
  exact hK
 case body =>
  rintro l pre x W ⟨⟨v, hv, hrow, -⟩, hB⟩ hlt
  have hc := hv.cell
  gi_wp2_with (gi_at_builtin; refine wpListIn_append_own _ rfl _ _ 24 rfl w.heap.size 3 i0 (.int .i64 0) 1 8 Tryz.underlying24 hi hz0 hz1 hz2 rfl (by decide) _ _ _ rfl (hrow.alloc _) ⟨W.heap.size, 0, none⟩ 1 1 [.int .i64 x] rfl rfl (cell_one_new _ _ _) (by simp [Value.oneCell']) (by unfold maxLen; omega) (by omega) (by have := hB.size; simp; omega) ?_; intro v' w1 hown' hgrow _; obtain ⟨g', cap', rfl⟩ := ownsRow_succ hown'; obtain ⟨hv1, hv2, hr2, hk2, hb2⟩ := hv.appended (by decide) hrow hB.size (Nat.le_refl _) hown' hgrow; have hc1 := hv1.cell; have hf1 := hv1.frozen)
  exact ⟨hk2.from _, hb2, ⟨_, hv2, by simpa using hr2, trivial⟩, hB.trans hb2⟩
 case done =>
  rintro D ys W hD hS ⟨⟨v, hv, hrow, -⟩, hB⟩ hK
  have hc := hv.cell
  gi_wp2
  refine ⟨by simp, .inl ⟨_, _, rfl, run_takeDeferred hK, ?_⟩⟩
  exact ⟨_, results_tmp rfl _ _ _, v, ys, rfl, hS, ownsRow_putObj hrow _ hK rfl, hB.trans (belowK_b (w := w) (Nat.le_refl _) W D _ _ (by simp at hD; omega) hK rfl rfl)⟩
 case stop =>
  rintro D c pre W _ _ h _
  exact h.elim
set_option maxHeartbeats 1000000 in
theorem collect_in (F : Fence) (n : Nat) (hf : F.fn 181) (hf2 : F.fn 257) (hro : F.round = none) (hn : 3 ≤ n) (g : Nat) (lb : Array Value) (hFg : F.fn g) (eg : ∀ args w, (callFunc g args).run Tryz.prog w = .ok (.enter g args) w)
  (S Sp : List Int → Prop) (N : Nat) (hN : N ≤ 1048576) (w : World) (hseq : SeqStopsK F (n - 1 - 1) Tryz.prog g lb (fun x : Int => #[Value.int .i64 x]) (Below w.heap.size) S Sp N w) :
  CallsIn F n Tryz.prog 181 #[.func (.func g) #[] lb] w fun e w' => ∃ (v : Value) (ss : List Int), e = .returned v ∧ S ss ∧ w'.ownsRow w.heap.size 3 1 v ss.length (ncells ss) ∧ Below w.heap.size w w' := by
 have h1 : 1 ≤ n := by omega
 refine callsIn_of_wp Tryz.func181 rfl hf ?_ hro
 simp only [Tryz.ntmps181, List.size_toArray, List.length_cons, List.length_nil, Nat.reduceAdd, Nat.reduceSub, Array.replicate_succ, Array.replicate_zero, List.push_toArray, List.append_toArray, List.nil_append, List.cons_append]
 gi_wp2_with (gi_at_call 257; refine (appendSeq_in F (n - 1) hf2 hro (by omega) g lb hFg eg S Sp N hN _ hseq).mono ?_; rintro e w' ⟨v, ss, rfl, hS, hrow, hb⟩)
 go_ret
 exact ⟨v, ss, rfl, hS, hrow, hb⟩
set_option maxHeartbeats 1000000 in
theorem implMask_any (m : Int) (w : World) (hm : -9223372036854775808 ≤ m ∧ m ≤ 9223372036854775807) :
  Calls Tryz.prog 100 #[.int .i64 m] w fun e w' => (∃ o, e = .returned o ∧ OwnN w' w.heap.size o (maskL m)) ∧ Below w.heap.size w w' := by
 by_cases h : 0 ≤ m ∧ m ≤ 255
 ·have e0 : Hid (maskL m = bitsTo m 8) := if_pos h
  obtain ⟨m0, m1⟩ := h
  refine (callsIn_wide (n := 6)).1 ?_
  have hseq : SeqStopsK Fence.wide 3 Tryz.prog 258 #[.pointer (some ⟨w.heap.size, 0, none⟩)] (fun x : Int => #[Value.int .i64 x]) (Below (w.alloc (.cells #[.int .i64 m] 3)).heap.size) (fun ys => ys = bitsTo m 8) (fun _ => True) 8 (w.alloc (.cells #[.int .i64 m] 3)) :=
   bits_stops Fence.wide _ trivial rfl (by omega) w.heap.size m _ (by simp) (by simp)
  have cB := dH fun W => bitsOf_in Fence.wide 5 trivial rfl m W
  have cC := dH (collect_in Fence.wide 5 trivial trivial rfl (by omega) 258 #[.pointer (some ⟨w.heap.size, 0, none⟩)] trivial (enters_of Tryz.func258 (by kernel_rfl) rfl) _ _ 8 (by omega) _ hseq)
  clear hseq
  have f1 : Fence.wide.fn 182 := trivial
  have f2 : Fence.wide.fn 181 := trivial
  have hd1 : decide (m < 0) = false := decide_eq_false (by omega)
  have hd2 : decide (255 < m) = false := decide_eq_false (by omega)
  refine callsIn_of_wp Tryz.func100 rfl trivial ?_ rfl
  simp only [Tryz.ntmps100, List.size_toArray, List.length_cons, List.length_nil, Nat.reduceAdd, Nat.reduceSub, Array.replicate_succ, Array.replicate_zero, List.push_toArray, List.append_toArray, List.nil_append, List.cons_append]
  gi_wp2_with (first
   | (gi_at_call 182; refine (dU cB _).mono ?_; rintro e w' ⟨rfl, rfl⟩)
   | (gi_at_call 181; refine (dU cC).mono ?_; rintro e w' ⟨v, ss, rfl, hS, hrow, hb⟩))
  go_ret
  have hb' : Below w.heap.size w w' := bT ((Below.refl _ _).alloc (Nat.le_refl _) _) hb
  refine ⟨⟨_, rfl, ?_⟩, hb'⟩
  rw [dU e0, ← hS]
  exact ownN_of_row (rowN_mono hrow (by simp))
 ·have e0 : maskL m = [] := if_neg h
  rw [e0]
  by_cases hd : m < 0
  ·have hd1 : decide (m < 0) = true := decide_eq_true hd
   go_enter Tryz.func100, Tryz.ntmps100
   go_wp2
   go_ret
   exact ⟨⟨_, rfl, ownN_none0 _ _⟩, Below.refl _ _⟩
  ·have hd1 : decide (m < 0) = false := decide_eq_false hd
   have hd2 : decide (255 < m) = true := decide_eq_true (by omega)
   go_enter Tryz.func100, Tryz.ntmps100
   go_wp2
   go_ret
   exact ⟨⟨_, rfl, ownN_none0 _ _⟩, Below.refl _ _⟩
end Go.Proofs.YtodfgehicpejgaaGreatDoor
