/- In a round of a loop over a function: a region that draws its order, walked as it is outside of rounds; sets that are written by an entry and a store. -/
import Derived.Test.YtofklfjomofijaaSetP
import Derived.RangeFuncNested
import Derived.RangeFuncBound
import Derived.RangeFuncCalls
import Derived.RangeFuncLeaves
import Derived.RangeFuncBox
import Derived.RangeFuncWrites
import Derived.Shelf.Abstract
import Derived.Shelf.RegionOpen
import Derived.WalkKit
import Derived.OwnWalkIn
import Derived.TacticsInMore
import Derived.LoopNIn
import Derived.LoopIn
import Derived.Maps.OwnIn
import Derived.Maps.AppendAt
import Derived.Deep.RegionHeld3
import Derived.WideKeyEntry
namespace Go.Proofs.Ytofklfjomofijaa
open Go.ChangeShapes Go.WideShapes Go.ChangeAt Go.RowKit
set_option linter.unusedVariables false

/-- A post that asks for a normal end. -/
def OnlyN (Q : Exit → Act → World → Prop) : Exit → Act → World → Prop
  | .normal, a, w => Q .normal a w
  | _, _, _ => False
theorem OnlyN.normal {Q : Exit → Act → World → Prop} {a : Act} {w : World} (h : Q .normal a w) : OnlyN Q .normal a w := h
theorem OnlyN.imp {Q : Exit → Act → World → Prop} : ∀ (e : Exit) (a : Act) (w : World), OnlyN Q e a w → Q e a w := fun e a w h => by
  cases e <;> first | exact h | exact (h : False).elim
theorem OnlyN.shut {Q : Exit → Act → World → Prop} : ¬ LetsOut (OnlyN Q) := fun ⟨_, _, h⟩ => h
/-- What is shown of operations outside of a round holds in a round too, where none defers. -/
theorem opsIn_of_ops {l n : Nat} {P : Program} {ops : Array Oper} {Q : Exit → Act → World → Prop} (hq : ¬ LetsOut Q) (hd : ∀ (i : Nat) (o : Oper), ops[i]? = some o → ∀ c, o.op ≠ .defer c) :
    ∀ (is : List Nat) (a : Act) (w : World), wpOps P ops Q is a w → wpOpsIn (Fence.wide.inRound l) n P ops Q is a w
  | [], a, w, h => h
  | i :: rest, a, w, h => by
    unfold wpOps at h
    unfold wpOpsIn
    cases ho : ops[i]? with
    | none =>
      simp only [ho] at h ⊢
      exact opsIn_of_ops hq hd rest a w h
    | some o =>
      simp only [ho] at h ⊢
      by_cases hw : Region.wanted o (yielded ops a.tmps) = true
      · simp only [hw, if_true] at h ⊢
        rcases h with h | ⟨-, h⟩
        · refine ⟨fun f _ => trivial, ?_⟩
          rw [Oper.semAt_eq _ _ _ (hd i o ho)]
          unfold Oper.wp at h
          revert h
          generalize (execOp a.eval o).run P w = r
          intro h
          cases r with
          | ok x w' =>
            cases x with
            | value v => exact opsIn_of_ops hq hd rest _ _ h
            | skip => exact opsIn_of_ops hq hd rest _ _ h
            | defer d => exact opsIn_of_ops hq hd rest _ _ h
            | enter f args =>
              refine ⟨fun h => (by simp [Fence.wide] at h), CallsIn.inRound l (callsIn_wide.2 (Calls.mono h fun e w'' he => ?_))⟩
              cases e with
              | returned v => exact opsIn_of_ops hq hd rest _ _ he
              | panicked c => exact he
              | outgrown => exact he
            | row rw args => exact ⟨fun h => (by simp [Fence.wide] at h), fun c cs _ => let ⟨v, w', r, s⟩ := (h : Rows P _ _ _ _) c cs; ⟨v, w', opsIn_of_ops hq hd rest _ _ r, stepsIn_wide.2 s⟩⟩
            | _ => exact (h : False).elim
          | halt x w' => cases x <;> first | exact h | exact (h : False).elim
        · exact absurd h hq
      · simp only [hw, if_false, Bool.false_eq_true] at h ⊢
        exact ⟨fun f _ => trivial, opsIn_of_ops hq hd rest _ _ h⟩
/-- A region that draws, in a round. -/
theorem wpIn_region_round {l n id : Nat} {P : Program} {ops : Array Oper} {Q : Exit → Act → World → Prop} {S : World → Prop} {a : Act} {w : World} (hm : P.follows .mixedOrders = true)
    (hd : ∀ (i : Nat) (o : Oper), ops[i]? = some o → ∀ c, o.op ≠ .defer c) (hS : S w.drew) (h : S w.drew → wpAnyH P .any ops (OnlyN Q) S ops.size (Array.replicate ops.size false) a w.drew) :
    (Code.region id ops true).wpIn (Fence.wide.inRound l) n P Q a w := by
  refine Code.wpIn_mono OnlyN.imp (wpIn_region_draw fun t => ?_)
  refine opsIn_of_ops OnlyN.shut hd _ _ _ ?_
  simp only [Region.schedule, hm, Bool.true_or, if_true]
  exact wpAny_sound ops.size t _ a _ (wpAny_of_held _ _ _ _ (h hS))
/-- No operation of these defers. -/
def calmOps (ops : Array Oper) : Bool := ops.toList.all fun o => match o.op with | .defer _ => false | _ => true
theorem calm_of {ops : Array Oper} (h : calmOps ops = true) : ∀ (i : Nat) (o : Oper), ops[i]? = some o → ∀ c, o.op ≠ .defer c := by
  intro i o hi c hc
  have h1 := List.all_eq_true.1 h o (by simpa using Array.mem_of_getElem? hi)
  rw [hc] at h1
  cases h1
/-- A cell stays where a set is written. -/
theorem SetN.cells {w w' : World} {b : Nat} {xs : List Int} (h : SetN w b xs) (hg : w.grownBy w' (some b)) {p : Addr} {v : Value} (hc : w.cell? p = some v) : w'.cell? p = some v := by
  obtain ⟨-, -, D, ⟨es, clock, hb, -⟩, -⟩ := h
  exact cell_kept hc hg (fun r e => by cases e; exact ⟨_, hb, rfl⟩)
/-- A set's block is not one of cells. -/
theorem SetN.keepsFrom {w w' : World} {b B : Nat} {xs : List Int} (h : SetN w b xs) (hb : b < B) (hg : w.grownBy w' (some b)) : KeepsFrom B w w' := KeepsFrom.of_grownBy hg (fun j e => by cases e; exact hb)
/-- What is put. -/
theorem SetN.put {w : World} {b : Nat} {xs : List Int} {z : Int} (h : SetN w b xs) (hz : -9223372036854775808 ≤ z ∧ z ≤ 9223372036854775807) (hl : xs.length ≤ 1099511627776) :
    ∃ w', (Instr.mapUpdate 63 (.map (some b)) (.int .i64 z) (.agg #[])).run Try.prog w = .ok () w' ∧ SetN w' b (addD xs z) ∧ w.grownBy w' (some b) := by
  obtain ⟨h1, h2, D, h3, h4, h5⟩ := h
  obtain ⟨w', r, o1, g1⟩ := h3.update keyI Try.underlying63 (by unfold maxLen; omega) (keyOf_z hz) (unitElem_mk (H := Unit))
  have hsz : Maps.size (D.put (.int .i64 z) (.agg [])) = (addD xs z).length := by
    rw [Maps.size_put (h3.tidy keyI), h5 z, h4]
    unfold addD
    by_cases hzx : z ∈ xs <;> simp [hzx]
  refine ⟨w', r, ⟨nodup_addD h1, fun y hy => ?_, D.put (.int .i64 z) (.agg []), ?_, hsz, fun y => ?_⟩, g1⟩
  · unfold addD at hy
    split at hy
    · exact h2 y hy
    · rcases List.mem_append.1 hy with hy | hy
      · exact h2 y hy
      · obtain rfl : y = z := by simpa using hy
        exact hz
  · rw [← hsz]
    exact own_tight o1
  · by_cases hy : y = z
    · subst hy
      rw [Maps.has_put_same h3.isMap (keyI.key (keyOf_z hz))]
      unfold addD
      by_cases hzx : y ∈ xs <;> simp [hzx]
    · rw [Maps.has_put_other (by simpa using hy), h5 y]
      unfold addD
      by_cases hzx : z ∈ xs <;> simp [hzx, hy]
/-- A number that is new to a set: its entry is made, and written. -/
theorem SetN.entry {w : World} {b : Nat} {xs : List Int} {z : Int} (h : SetN w b xs) (hz : -9223372036854775808 ≤ z ∧ z ≤ 9223372036854775807) (hn : z ∉ xs) (hl : xs.length ≤ 1099511627776) :
    ∃ (w1 : World) (st : Nat), (Instr.mapEntry 63 (.map (some b)) (.int .i64 z)).run Try.prog w = .ok (.tuple #[.agg #[], goInt st]) w1 ∧ SetN w1 b (addD xs z) ∧ w.grownBy w1 (some b) ∧
      ∃ w2, (Instr.entryStore 63 (.map (some b)) (goInt st) (.agg #[])).run Try.prog w1 = .ok () w2 ∧ SetN w2 b (addD xs z) ∧ w1.grownBy w2 (some b) := by
  obtain ⟨w', hrun, hset, hg⟩ := h.put hz hl
  obtain ⟨h1, h2, D, ⟨es, clock, hb, F, hs, hD⟩, h4, h5⟩ := h
  obtain ⟨s1, s2, _⟩ := F.stamped
  rcases keyI.find w (keyOf_z hz) es.toList F.keys with ⟨k1, k2⟩ | ⟨j, e0, k1, k2, k3⟩
  · have hu : (Instr.mapUpdate 63 (.map (some b)) (.int .i64 z) (.agg #[])).run Try.prog w = .ok () (Go.ChangeMaps.setBlock w b (.map (es.push ⟨.int .i64 z, .agg #[], clock⟩) (clock + 1))) := by
      simp [Instr.mapUpdate, run_underlying Try.underlying63, MapKept.run_getObj_map hb, keyI.check w false (keyOf_z hz), k1, MapKept.run_setObj_map _ hb, Result.andThen, Go.ChangeMaps.setBlock]
    rw [hrun] at hu
    obtain rfl : w' = Go.ChangeMaps.setBlock w b (.map (es.push ⟨.int .i64 z, .agg #[], clock⟩) (clock + 1)) := by simpa using hu
    refine ⟨_, clock, ?_, hset, hg, ?_⟩
    · simp [Instr.mapEntry, run_underlying Try.underlying63, MapKept.run_getObj_map hb, keyI.check w false (keyOf_z hz), k1, MapKept.run_setObj_map _ hb, Result.andThen, Go.ChangeMaps.setBlock]
    · have hb1 := Go.ChangeMaps.heap_setBlock_same hb (.map (es.push ⟨.int .i64 z, .agg #[], clock⟩) (clock + 1))
      have hidx : (es.push ⟨.int .i64 z, .agg #[], clock⟩).findIdx? (fun e => ((e.born : Nat) : Int) == ((clock : Nat) : Int)) = some es.size := by
        rw [Go.WideElems.findIdx_arr]
        refine Go.WideElems.findIdx_born (l := (es.push ⟨.int .i64 z, .agg #[], clock⟩).toList) (j := es.size) (e0 := ⟨.int .i64 z, .agg #[], clock⟩) ?_ (by simp)
        rw [Array.toList_push, List.map_append]
        refine List.nodup_append.2 ⟨s2, by simp, fun p hp q hq e1 => ?_⟩
        obtain ⟨x, hx, rfl⟩ := List.mem_map.1 hp
        have := s1 x hx
        simp at hq
        omega
      have hmod : (es.push ⟨.int .i64 z, .agg #[], clock⟩).modify es.size (fun e => { e with val := .agg #[] }) = es.push ⟨.int .i64 z, .agg #[], clock⟩ := by
        apply Array.ext'
        rw [Array.toList_modify, Array.toList_push, ← Array.length_toList, Go.WideElems.modify_last]
      refine ⟨Go.ChangeMaps.setBlock (Go.ChangeMaps.setBlock w b (.map (es.push ⟨.int .i64 z, .agg #[], clock⟩) (clock + 1))) b (.map (es.push ⟨.int .i64 z, .agg #[], clock⟩) (clock + 1)), ?_, ?_, ?_⟩
      · generalize Go.ChangeMaps.setBlock w b (.map (es.push ⟨.int .i64 z, .agg #[], clock⟩) (clock + 1)) = u at hb1
        simp [Instr.entryStore, MapKept.run_getObj_map hb1, asInt, asIntOf, goInt, hidx, hmod, MapKept.run_setObj_map _ hb1, Result.andThen, Go.ChangeMaps.setBlock]
      · obtain ⟨q1, q2, D', ⟨es', clock', hb', F', hs', hD'⟩, q4, q5⟩ := hset
        rw [hb1] at hb'
        obtain ⟨rfl, rfl⟩ : es.push ⟨.int .i64 z, .agg #[], clock⟩ = es' ∧ clock + 1 = clock' := by simpa using hb'
        exact ⟨q1, q2, D', ⟨_, _, Go.ChangeMaps.heap_setBlock_same hb1 _, F', hs', hD'⟩, q4, q5⟩
      · exact ⟨rfl, rfl, rfl, by simp [Go.ChangeMaps.setBlock], fun i _ hi => Go.ChangeMaps.heap_setBlock_other hb1 _ (fun e => hi (by rw [e]))⟩
  · exfalso
    rcases Maps.fit_look true keyI Try.underlying63 (zeroU w) hb F (keyOf_z hz) with ⟨_, k, _⟩ | ⟨e1, y, m1, m2, m3, m4, m5, _⟩
    · exact k e0 (List.mem_of_getElem? k2) k3
    · have h6 := h5 z
      rw [decide_eq_false hn] at h6
      have hh : Maps.has D (.int .i64 z) = true := by
        obtain ⟨v, ps, r1, r2⟩ := World.ownsMap.look_ok (w := w) (b := b) (n := xs.length) (D := D) ⟨es, clock, hb, F, hs, hD⟩ keyI Try.underlying63 (zeroU w) (unitElem_mk (H := Unit)) (keyOf_z hz)
        rw [m3] at r1
        simp at r1
        exact r1.2
      rw [hh] at h6
      cases h6
section
variable {w : World} {ops : Array Oper} {o : Oper} {a : Act} {K : Act → World → Prop} {Q : Exit → Act → World → Prop} {E : Prop}
theorem step_setPut (hg : o.guard = none) (m x v : Operand) (hop : o.op = Op.mapUpdate 63 m x v) (b : Nat) (xs : List Int) (z : Int) (hm : a.eval m = .map (some b)) (h : SetN w b xs)
    (hx : a.eval x = .int .i64 z) (hz : -9223372036854775808 ≤ z ∧ z ≤ 9223372036854775807) (hv : a.eval v = .agg #[]) (hl : xs.length ≤ 1099511627776)
    (hK : ∀ w', SetN w' b (addD xs z) → w.grownBy w' (some b) → K (a.put o.dst undef) w') : if Region.wanted o (yielded ops a.tmps) = true then Oper.wp Try.prog o a w K Q else E := by
  rw [if_pos (by simp [Region.wanted, hg])]
  obtain ⟨w', r, s, g⟩ := h.put hz hl
  unfold Oper.wp
  simp [execOp, hop, hm, hx, hv, r, Result.andThen]
  exact hK w' s g
theorem step_setEntry (hg : o.guard = none) (m x : Operand) (hop : o.op = Op.mapEntry 63 m x) (b : Nat) (xs : List Int) (z : Int) (hm : a.eval m = .map (some b)) (h : SetN w b xs)
    (hx : a.eval x = .int .i64 z) (hz : -9223372036854775808 ≤ z ∧ z ≤ 9223372036854775807) (hn : z ∉ xs) (hl : xs.length ≤ 1099511627776)
    (hK : ∀ (w1 : World) (st : Nat), SetN w1 b (addD xs z) → w.grownBy w1 (some b) → (∃ w2, (Instr.entryStore 63 (.map (some b)) (goInt st) (.agg #[])).run Try.prog w1 = .ok () w2 ∧ SetN w2 b (addD xs z) ∧ w1.grownBy w2 (some b)) → K (a.put o.dst (.tuple #[.agg #[], goInt st])) w1) :
    if Region.wanted o (yielded ops a.tmps) = true then Oper.wp Try.prog o a w K Q else E := by
  rw [if_pos (by simp [Region.wanted, hg])]
  obtain ⟨w1, st, r, s, g, h2⟩ := h.entry hz hn hl
  unfold Oper.wp
  simp [execOp, hop, hm, hx, r, Result.andThen]
  exact hK w1 st s g h2
theorem step_entryStore (hg : o.guard = none) (m s v : Operand) (hop : o.op = Op.entryStore 63 m s v) (b st : Nat) (hm : a.eval m = .map (some b)) (hs : a.eval s = goInt st) (hv : a.eval v = .agg #[]) {w2 : World}
    (hr : (Instr.entryStore 63 (.map (some b)) (goInt st) (.agg #[])).run Try.prog w = .ok () w2) (hK : K (a.put o.dst undef) w2) :
    if Region.wanted o (yielded ops a.tmps) = true then Oper.wp Try.prog o a w K Q else E := by
  rw [if_pos (by simp [Region.wanted, hg])]
  unfold Oper.wp
  simp [execOp, hop, hm, hs, hv, hr, Result.andThen]
  exact hK
end
end Go.Proofs.Ytofklfjomofijaa
