/- copy and clear on rows of elements of several cells; make of such a row. -/
import Derived.Test.YtejmfohkobhidaaGaA
import Derived.Laws.CopyOwn
namespace Go.Proofs.Ytejmfohkobhidaa
open Go.ChangeShapes Go.WideShapes Go.ChangeAt Go.RowKit
set_option linter.unusedVariables false
set_option linter.unusedSimpArgs false

section
variable {w : World} {dT sT elem t : TypeId} {sz : Nat} {dp sp : Option Addr} {dLen dCap sLen sCap g off : Nat} {cur cs : List Value}
theorem grown_row (w : World) (g : Nat) (l : Array Value) : w.grownBy (w.setRow g l) (some g) :=
  ⟨rfl, rfl, rfl, by simp [World.setRow], fun k hk hne => setRow_other w g k l (fun e => hne (by rw [e]))⟩
/-- copy: as many elements as the shorter of the two has. -/
theorem run_copyK (ty : TypeId) (hu : Try.prog.underlying dT = some (.slice elem)) (hs : (Try.prog.info? elem).map (·.size) = some sz) (hp : 0 < sz)
    (hg : w.heap[g]? = some (.cells cur.toArray t (0, 0))) (hn : cs.length = Nat.min sLen dLen * sz)
    (hpos : 0 < cs.length → dp = some ⟨g, off, none⟩ ∧ ∃ ad, sp = some ad ∧ ∀ j v, cs[j]? = some v → w.cell? (ad.add j) = some v)
    (hfit : off + cs.length ≤ cur.length) (h1 : ∀ v ∈ cs, v.oneCell' = true) :
    ∃ w', (Builtin.copy_ #[dT, sT] ty #[.slice dp dLen dCap, .slice sp sLen sCap]).run Try.prog w = .ok (goInt (Nat.min sLen dLen)) w' ∧ w'.heap[g]? = some (.cells (splice cur off cs).toArray t (0, 0)) ∧ w.grownBy w' (some g) := by
  cases hq : Try.prog.info? elem with
  | none => simp [hq] at hs
  | some i =>
    have hi : i.size = sz := by simpa [hq] using hs
    by_cases h0 : cs.length = 0
    · obtain rfl : cs = [] := List.eq_nil_of_length_eq_zero h0
      have hm : Nat.min sLen dLen = 0 := by
        rcases Nat.mul_eq_zero.1 hn.symm with h | h
        · exact h
        · omega
      have hl : ∀ (x : Addr), (loadCells x 0).run Try.prog w = .ok #[] w := fun x => by simpa using run_loadCells_list (P := Try.prog) w x [] (by simp)
      refine ⟨w, ?_, by simpa [splice] using hg, ⟨rfl, rfl, rfl, Nat.le_refl _, fun _ _ _ => rfl⟩⟩
      cases dp <;> cases sp <;> simp [Builtin.copy_, run_underlying hu, Builtin.lenOf, Builtin.firstCells, sizeOf, typeInfo, hq, hm, storeCells, hl]
    · obtain ⟨rfl, ad, rfl, hsrc⟩ := hpos (by omega)
      have hl := run_loadCells_list (P := Try.prog) w ad cs hsrc
      have hst := run_storeCells_at Try.prog g off t cs 0 cur.toArray w hg (by simpa using hfit) h1
      refine ⟨_, ?_, setRow_heap w g _ (splice cur off cs).toArray t _ hg, grown_row w g _⟩
      simp [Builtin.copy_, run_underlying hu, Builtin.lenOf, Builtin.firstCells, sizeOf, typeInfo, hq, hi, ← hn, hl, hst, splice]
variable {ops : Array Oper} {rest : List Oper} {o : Oper} {a : Act} {Q : Exit → Act → World → Prop}
theorem wp_copyK (hgd : o.guard = none) (d s : Operand) (dT sT : TypeId) (ho : o.op = .call { callee := .builtin .copy, args := #[d, s], argTypes := #[dT, sT] })
    (elem : TypeId) (sz : Nat) (hu : Try.prog.underlying dT = some (.slice elem)) (hs : (Try.prog.info? elem).map (·.size) = some sz) (hp : 0 < sz)
    (dp sp : Option Addr) (dLen dCap sLen sCap : Nat) (hd : a.eval d = .slice dp dLen dCap) (hsv : a.eval s = .slice sp sLen sCap)
    (g off : Nat) (cur : List Value) (t : TypeId) (hg : w.heap[g]? = some (.cells cur.toArray t (0, 0))) (cs : List Value) (hn : cs.length = Nat.min sLen dLen * sz)
    (hpos : 0 < cs.length → dp = some ⟨g, off, none⟩ ∧ ∃ ad, sp = some ad ∧ ∀ j v, cs[j]? = some v → w.cell? (ad.add j) = some v)
    (hfit : off + cs.length ≤ cur.length) (h1 : ∀ v ∈ cs, v.oneCell' = true)
    (h : ∀ w', Hid (w'.heap[g]? = some (.cells (splice cur off cs).toArray t (0, 0))) → Hid (w.grownBy w' (some g)) → wpList Try.prog ops Q rest (a.put o.dst (goInt (Nat.min sLen dLen))) w') :
    wpList Try.prog ops Q (o :: rest) a w := by
  refine wpList_plain hgd fun K hK => ?_
  obtain ⟨w', hrun, h2, h3⟩ := run_copyK (dCap := dCap) (sCap := sCap) (sT := sT) o.type hu hs hp hg hn hpos hfit h1
  unfold Oper.wp
  simp [execOp, ho, resolve, invoke, builtin, hd, hsv, hrun, Result.andThen]
  exact hK _ _ (h w' h2 h3)
theorem step_copyK {K : Act → World → Prop} {F : Prop} (hgd : o.guard = none) (d s : Operand) (dT sT : TypeId) (ho : o.op = .call { callee := .builtin .copy, args := #[d, s], argTypes := #[dT, sT] })
    (elem : TypeId) (sz : Nat) (hu : Try.prog.underlying dT = some (.slice elem)) (hs : (Try.prog.info? elem).map (·.size) = some sz) (hp : 0 < sz)
    (dp sp : Option Addr) (dLen dCap sLen sCap : Nat) (hd : a.eval d = .slice dp dLen dCap) (hsv : a.eval s = .slice sp sLen sCap)
    (g off : Nat) (cur : List Value) (t : TypeId) (hg : w.heap[g]? = some (.cells cur.toArray t (0, 0))) (cs : List Value) (hn : cs.length = Nat.min sLen dLen * sz)
    (hpos : 0 < cs.length → dp = some ⟨g, off, none⟩ ∧ ∃ ad, sp = some ad ∧ ∀ j v, cs[j]? = some v → w.cell? (ad.add j) = some v)
    (hfit : off + cs.length ≤ cur.length) (h1 : ∀ v ∈ cs, v.oneCell' = true)
    (h : ∀ w', Hid (w'.heap[g]? = some (.cells (splice cur off cs).toArray t (0, 0))) → Hid (w.grownBy w' (some g)) → K (a.put o.dst (goInt (Nat.min sLen dLen))) w') :
    if Region.wanted o (yielded ops a.tmps) = true then Oper.wp Try.prog o a w K Q else F := by
  have hw : Region.wanted o (yielded ops a.tmps) = true := by simp [Region.wanted, hgd]
  rw [if_pos hw]
  obtain ⟨w', hrun, h2, h3⟩ := run_copyK (dCap := dCap) (sCap := sCap) (sT := sT) o.type hu hs hp hg hn hpos hfit h1
  have h4 := h w' h2 h3
  unfold Oper.wp
  simp [execOp, ho, resolve, invoke, builtin, hd, hsv, hrun, Result.andThen]
  exact h4
end
section
variable {α : Type} {T TS : TypeId} {z : Value} {sz bytes : Nat} {cl : α → List Value} {w w' : World} {base : Nat} {v : Value} {ms : List α}
theorem zeroCells_size (z : Array Value) (n : Nat) : (Builtin.zeroCells z n).size = n * z.size := by simp [Builtin.zeroCells]
theorem zeroCells_mem (z : Array Value) (n : Nat) : ∀ v ∈ (Builtin.zeroCells z n).toList, v ∈ z.toList := by
  intro v hv
  have hz : 0 < z.size := by
    rcases Nat.eq_zero_or_pos z.size with h | h
    · simp [Builtin.zeroCells, h] at hv
    · exact h
  simp only [Builtin.zeroCells, Array.toList_map, List.mem_map] at hv
  obtain ⟨i, -, rfl⟩ := hv
  have := Nat.mod_lt i hz
  rw [getElem!_pos z (i % z.size) this]
  exact Array.getElem_mem_toList this
/-- clear, and what was cleared cut to nothing: a row of nothing. -/
theorem run_clearK (E : Elem T TS z sz bytes cl) (ty : TypeId) (hz1 : ∀ u ∈ z.cells.toList, u.oneCell' = true) (h : ApR T sz cl w base v ms) :
    ∃ w', (Builtin.clear_ #[TS] ty #[v]).run Try.prog w = .ok (.tuple #[]) w' ∧ w.grownBy w' (touch v) ∧ ∃ a n c, v = .slice a n c ∧ ApR T sz cl w' base (.slice a 0 c) ([] : List α) := by
  obtain ⟨i0, hi, hz0, hzs, hzb⟩ := info_parts E.info
  have rf : w.grownBy w (touch v) := ⟨rfl, rfl, rfl, Nat.le_refl _, fun _ _ _ => rfl⟩
  rcases h with ⟨rfl, a, rfl⟩ | h
  · refine ⟨w, ?_, rf, a, 0, 0, rfl, .inl ⟨rfl, a, rfl⟩⟩
    cases a <;> simp [Builtin.clear_, run_underlying E.under]
  · rcases h.2 with ⟨rfl, h0⟩ | ⟨g, cap, cur, rfl, hb, hg, hnc, hcm, hcs, htk⟩
    · refine ⟨w, ?_, rf, none, 0, 0, rfl, .inl ⟨rfl, none, rfl⟩⟩
      simp [Builtin.clear_, run_underlying E.under]
    · by_cases h0 : ms.length = 0
      · refine ⟨w, ?_, rf, _, _, _, rfl, .inr ⟨by simp [fcells], .inr ⟨g, cap, cur, rfl, hb, hg, Nat.zero_le _, hcm, hcs, by simp [fcells]⟩⟩⟩
        rw [h0]
        simp [Builtin.clear_, run_underlying E.under]
      · have hsz : (Builtin.zeroCells z.cells ms.length).size = ms.length * sz := by rw [zeroCells_size, E.zcells]
        have hfit : 0 + 0 + (Builtin.zeroCells z.cells ms.length).toList.length ≤ cur.size := by
          rw [Array.length_toList, hsz, hcs]
          have := Nat.mul_le_mul_right sz hnc
          omega
        have hst := run_storeCells_at Try.prog g 0 T (Builtin.zeroCells z.cells ms.length).toList 0 cur w hg hfit (fun u hu => hz1 u (zeroCells_mem _ _ u hu))
        have hc0 : cap ≠ 0 := by omega
        have hgr := grown_row w g (cur.toList.take (0 + 0) ++ (Builtin.zeroCells z.cells ms.length).toList ++ cur.toList.drop (0 + 0 + (Builtin.zeroCells z.cells ms.length).toList.length)).toArray
        refine ⟨_, ?_, by simpa [touch, hc0] using hgr, _, _, _, rfl, .inr ⟨by simp [fcells], .inr ⟨g, cap, _, rfl, hb, setRow_heap w g cur _ T _ hg, Nat.zero_le _, hcm, ?_, by simp [fcells]⟩⟩⟩
        · cases hl : ms.length with
          | zero => exact absurd hl h0
          | succ n =>
            rw [hl] at hst
            simp [Builtin.clear_, run_underlying E.under, zeroValue, typeInfo, hi, hz0, hst]
        · simp only [List.size_toArray, List.length_append, List.length_take, List.length_drop, Array.length_toList] at hfit ⊢
          omega
variable {ops : Array Oper} {rest : List Oper} {o : Oper} {a : Act} {Q : Exit → Act → World → Prop}
theorem wp_clearK (E : Elem T TS z sz bytes cl) (hz1 : ∀ u ∈ z.cells.toList, u.oneCell' = true) (hgd : o.guard = none) (x : Operand) (ho : o.op = .call { callee := .builtin .clear, args := #[x], argTypes := #[TS] })
    (base : Nat) (v : Value) (ms : List α) (hx : a.eval x = v) (h : ApR T sz cl w base v ms)
    (hh : ∀ w', w.grownBy w' (touch v) → (∃ a n c, v = .slice a n c ∧ ApR T sz cl w' base (.slice a 0 c) ([] : List α)) → wpList Try.prog ops Q rest (a.put o.dst (.tuple #[])) w') : wpList Try.prog ops Q (o :: rest) a w := by
  refine wpList_plain hgd fun K' hK' => ?_
  obtain ⟨w', hrun, h1, h2⟩ := run_clearK E o.type hz1 h
  unfold Oper.wp
  simp [execOp, ho, resolve, invoke, builtin, hx, hrun, Result.andThen]
  exact hK' _ _ (hh w' h1 h2)
end
end Go.Proofs.Ytejmfohkobhidaa
