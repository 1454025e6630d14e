/- Slices that may be appended to: of no capacity, or rows of new memory ('ApR'); which block an append may write ('touch'). -/
import Derived.Test.YtmgomacmaidmlaaGreatDoorAppR
import Derived.ArgAppend
import Derived.Maps.RangeWalk
namespace Go.Proofs.YtmgomacmaidmlaaGreatDoor
open Go.ChangeShapes Go.WideShapes Go.ChangeAt Go.RowKit
set_option linter.unusedVariables false
set_option linter.unusedSimpArgs false

/-- The block that an append to v may write. -/
def touch : Value → Option Nat
  | .slice (some ad) _ cap => if cap = 0 then none else some ad.block
  | _ => none
section
variable {α : Type}
/-- v reads as ms, and may be appended to; what an append may write lies from base on. -/
def ApR (T : TypeId) (sz : Nat) (cl : α → List Value) (w : World) (base : Nat) (v : Value) (ms : List α) : Prop :=
  (ms = [] ∧ ∃ a, v = .slice a 0 0) ∨ w.ownsRow base T sz v ms.length (fcells cl ms)
variable {T TS : TypeId} {z : Value} {sz bytes : Nat} {cl : α → List Value} {w w' : World} {base base' : Nat} {v : Value} {ms ns : List α}
theorem ApR.own (E : Elem T TS z sz bytes cl) (h : ApR T sz cl w base v ms) : OwnRw sz cl w base v ms := by
  rcases h with ⟨rfl, a, rfl⟩ | h
  · exact OwnRw.nil _ _ _ _ (by omega)
  · exact ownRw_of_row E.len E.pos h
theorem ApR.mono (h : ApR T sz cl w base v ms) (hb : base' ≤ base) : ApR T sz cl w base' v ms := by
  rcases h with h | h
  · exact .inl h
  · exact .inr (rowR_mono h hb)
theorem ApR.below (h : ApR T sz cl w base v ms) (hb : Below w.heap.size w w') : ApR T sz cl w' base v ms := by
  rcases h with h | h
  · exact .inl h
  · exact .inr (rowR_below h hb)
theorem ApR.slice (E : Elem T TS z sz bytes cl) (h : ApR T sz cl w base v ms) : ∃ a c, v = .slice a ms.length c := by
  rcases h with ⟨rfl, a, rfl⟩ | h
  · exact ⟨a, 0, rfl⟩
  · exact rowR_slice h
/-- What touches is from base on, and in the world. -/
theorem ApR.touched (E : Elem T TS z sz bytes cl) (h : ApR T sz cl w base v ms) {k : Nat} (hk : touch v = some k) : base ≤ k ∧ k < w.heap.size := by
  rcases h with ⟨rfl, a, rfl⟩ | h
  · cases a <;> simp [touch] at hk
  · rcases h.2 with ⟨rfl, h0⟩ | ⟨g, cap, cur, rfl, hb, hg, -⟩
    · simp [touch] at hk
    · by_cases hc : cap = 0
      · simp [touch, hc] at hk
      · simp [touch, hc] at hk
        subst hk
        exact ⟨hb, (Array.getElem?_eq_some_iff.1 hg).1⟩
theorem ApR.kept (E : Elem T TS z sz bytes cl) (h : ApR T sz cl w base v ms) {row : Option Nat} (hg : w.grownBy w' row) (hne : row = none ∨ touch v ≠ row) : ApR T sz cl w' base v ms := by
  rcases h with h | h
  · exact .inl h
  · by_cases ht : touch v = none
    · rcases h.2 with ⟨rfl, h0⟩ | ⟨g, cap, cur, rfl, hb, hgg, hnc, hcm, hcs, htk⟩
      · have : ms = [] := List.length_eq_zero_iff.1 h0
        exact .inl ⟨this, none, rfl⟩
      · have hc : cap = 0 := by
          rcases Nat.eq_zero_or_pos cap with h1 | h1
          · exact h1
          · have : cap ≠ 0 := by omega
            simp [touch, this] at ht
        subst hc
        have h0 : ms.length = 0 := by omega
        exact .inl ⟨List.length_eq_zero_iff.1 h0, some ⟨g, 0, none⟩, by rw [h0]⟩
    · refine .inr (h.kept hg ?_)
      rcases h.2 with ⟨rfl, h0⟩ | ⟨g, cap, cur, rfl, hb, hgg, hnc, hcm, hcs, htk⟩
      · exact .inl rfl
      · right
        have hc : cap ≠ 0 := fun e => ht (by simp [touch, e])
        rcases hne with rfl | hne
        · simp [Value.ownBlock]
        · simpa [touch, hc, Value.ownBlock] using hne
/-- The cells of what is appended. -/
theorem rw_news (E : Elem T TS z sz bytes cl) {b off : Nat} (hc : ∀ i (h : i < ns.length) j u, (cl ns[i])[j]? = some u → w.cell? ⟨b, off + i * sz + j, none⟩ = some u) : ∀ j u, (fcells cl ns)[j]? = some u → w.cell? ((⟨b, off, none⟩ : Addr).add j) = some u := by
  intro j u hu
  have hj : j < ns.length * sz := by
    rcases Nat.lt_or_ge j (ns.length * sz) with h | h
    · exact h
    · rw [List.getElem?_eq_none (by rw [fcells_len E.len]; exact h)] at hu
      cases hu
  have hp := E.pos
  have hi' : j / sz < ns.length := Nat.div_lt_of_lt_mul (by rw [Nat.mul_comm]; exact hj)
  have hjm : j % sz < (cl ns[j / sz]).length := by rw [E.len]; exact Nat.mod_lt _ hp
  obtain ⟨u', hu'⟩ : ∃ u', (cl ns[j / sz])[j % sz]? = some u' := ⟨_, List.getElem?_eq_getElem hjm⟩
  have e1 := fcells_at E.len ns (j / sz) hi' (j % sz) u' hu'
  have e2 : j / sz * sz + j % sz = j := by rw [Nat.mul_comm]; exact Nat.div_add_mod j sz
  rw [e2, hu] at e1
  cases e1
  have := hc (j / sz) hi' (j % sz) u hu'
  rw [addr_add]
  rw [Nat.add_assoc, e2] at this
  exact this
/-- append, whatever is appended to what may be appended to. -/
theorem run_apR (E : Elem T TS z sz bytes cl) (ty : TypeId) (h : ApR T sz cl w base v ms) (sv : Value) (hsrc : Rw sz cl w sv ns)
    (hb : (ms.length + ns.length) * bytes ≤ 140737488355328) (hl : ms.length + ns.length ≤ 9223372036854775807) (hbase : base ≤ w.heap.size) :
    ∃ v' w', (Builtin.append_ #[TS, TS] ty #[v, sv]).run Tryz.prog w = .ok v' w' ∧ ApR T sz cl w' base v' (ms ++ ns) ∧ w.grownBy w' (touch v) ∧ (touch v' = touch v ∨ ∀ k, touch v' = some k → w.heap.size ≤ k) := by
  obtain ⟨i0, hi, hz0, hz1, hz2⟩ := info_parts E.info
  have hm : maxLen = 9223372036854775807 := rfl
  have hsrc' := hsrc
  obtain ⟨h0, a, cap, rfl, hcap, hs⟩ := hsrc'
  by_cases hns : ns = []
  · subst hns
    refine ⟨v, w, ?_, by simpa using h, ⟨rfl, rfl, rfl, Nat.le_refl _, fun _ _ _ => rfl⟩, .inl rfl⟩
    have hf : ∀ w : World, (Builtin.firstCells i0.size 0 (.slice a 0 cap)).run Tryz.prog w = .ok #[] w := fun w => by
      cases a <;> simp [Builtin.firstCells, loadCells, loadCellsFrom]
    rcases h with ⟨rfl, a0, rfl⟩ | h
    · cases a0 <;> cases a <;> simp [Builtin.append_, run_underlying E.under, sizeOf, typeInfo, hi, Builtin.lenOf, Builtin.firstCells, storeCells, loadCells, loadCellsFrom]
    · rcases h.2 with ⟨rfl, h1⟩ | ⟨g, cap', cur, rfl, _, _, hnc, _⟩
      · cases a <;> simp [Builtin.append_, run_underlying E.under, sizeOf, typeInfo, hi, Builtin.lenOf, Builtin.firstCells, storeCells, loadCells, loadCellsFrom]
      · cases a <;> simp [Builtin.append_, run_underlying E.under, sizeOf, typeInfo, hi, Builtin.lenOf, Builtin.firstCells, hnc, storeCells, loadCells, loadCellsFrom]
  · obtain ⟨b, off, rfl, hc⟩ : ∃ b off, a = some ⟨b, off, none⟩ ∧ ∀ i (h : i < ns.length) j u, (cl ns[i])[j]? = some u → w.cell? ⟨b, off + i * sz + j, none⟩ = some u := by
      rcases hs with h | h
      · exact absurd h hns
      · exact h
    have hnews := rw_news E hc
    have hpos : 0 < ns.length := List.length_pos_iff.2 hns
    -- the world grows: a new row
    have fin : ∀ v' w', (Builtin.append_ #[TS, TS] ty #[v, .slice (some ⟨b, off, none⟩) ns.length cap]).run Tryz.prog w = .ok v' w' → w'.ownsRow w.heap.size T sz v' (ms ++ ns).length (fcells cl (ms ++ ns)) → w.grownBy w' none → _ := fun v' w' hrun h1 h2 =>
      (show ∃ v' w', (Builtin.append_ #[TS, TS] ty #[v, .slice (some ⟨b, off, none⟩) ns.length cap]).run Tryz.prog w = .ok v' w' ∧ ApR T sz cl w' base v' (ms ++ ns) ∧ w.grownBy w' (touch v) ∧ (touch v' = touch v ∨ ∀ k, touch v' = some k → w.heap.size ≤ k) from
        ⟨v', w', hrun, (ApR.mono (.inr h1) hbase), h2.but _, .inr fun k hk => (ApR.touched E (.inr h1) hk).1⟩)
    have nilc : v = .slice none 0 0 → ms = [] → ∃ v' w', (Builtin.append_ #[TS, TS] ty #[v, .slice (some ⟨b, off, none⟩) ns.length cap]).run Tryz.prog w = .ok v' w' ∧ ApR T sz cl w' base v' (ms ++ ns) ∧ w.grownBy w' (touch v) ∧ (touch v' = touch v ∨ ∀ k, touch v' = some k → w.heap.size ≤ k) := by
      rintro rfl rfl
      obtain ⟨v', w', hrun, h1, h2⟩ := run_appR E (ms := []) (base := w.heap.size) ty (rowR_none E w w.heap.size) _ hsrc hb hl (Nat.le_refl _)
      exact fin v' w' hrun h1 (by simpa [Value.ownBlock] using h2)
    have growc : ∀ (g : Addr) (c0 : Nat), v = .slice (some g) ms.length c0 → c0 < ms.length + ns.length → (∀ j u, (fcells cl ms)[j]? = some u → w.cell? (g.add j) = some u) → ∃ v' w', (Builtin.append_ #[TS, TS] ty #[v, .slice (some ⟨b, off, none⟩) ns.length cap]).run Tryz.prog w = .ok v' w' ∧ ApR T sz cl w' base v' (ms ++ ns) ∧ w.grownBy w' (touch v) ∧ (touch v' = touch v ∨ ∀ k, touch v' = some k → w.heap.size ≤ k) := by
      rintro g c0 rfl hg hold
      obtain ⟨v', w', hrun, r1, r2⟩ := run_append_arg_grows (P := Tryz.prog) w TS ty T i0 z sz bytes E.under hi hz0 hz1 hz2 E.zcells E.pos g ms.length c0 (fcells cl ms) (fcells_len E.len ms) hold ⟨b, off, none⟩ ns.length cap (fcells cl ns) (fcells_len E.len ns) hnews hg (by omega) hb
      exact fin v' w' hrun (by rw [fcells_app, List.length_append]; exact r1) r2
    rcases h with ⟨rfl, a0, rfl⟩ | h
    · cases a0 with
      | none => exact nilc rfl rfl
      | some g => exact growc g 0 rfl (by simpa using hpos) (fun j u hu => by simp [fcells] at hu)
    · rcases h.2 with ⟨rfl, hn0⟩ | ⟨g, c0, cur, rfl, hbg, hg, hnc, hcm, hcs, htake⟩
      · exact nilc rfl (List.length_eq_zero_iff.1 hn0)
      · by_cases hroom : ms.length + ns.length ≤ c0
        · obtain ⟨v', w', hrun, h1, h2⟩ := run_appR E ty h _ hsrc hb hl hbase
          have hfit : ms.length * i0.size + (fcells cl ns).length ≤ cur.size := by rw [fcells_len E.len, hz1, hcs, ← Nat.add_mul]; exact Nat.mul_le_mul_right _ hroom
          have hr := run_append_room (P := Tryz.prog) w TS ty T i0 E.under hi g ms.length c0 cur hg ⟨b, off, none⟩ ns.length cap (fcells cl ns) (by rw [hz1]; exact fcells_len E.len ns) hnews (fcells_one E ns) hroom hfit
          have hc0 : ¬ c0 = 0 := by omega
          have hv : v' = .slice (some ⟨g, 0, none⟩) (ms.length + ns.length) c0 := by
            rw [hr] at hrun
            cases hrun
            rfl
          subst hv
          exact ⟨_, w', hrun, .inr h1, by simpa [touch, hc0, Value.ownBlock] using h2, .inl (by simp [touch, hc0])⟩
        · exact growc ⟨g, 0, none⟩ c0 rfl (by omega) (h.cells (g := g) rfl)
variable {ops : Array Oper} {rest : List Oper} {o : Oper} {a : Act} {Q : Exit → Act → World → Prop}
/-- append at the operation. -/
theorem wp_apR (E : Elem T TS z sz bytes cl) (hgd : o.guard = none) (s x : Operand) (ho : o.op = .call { callee := .builtin .append, args := #[s, x], argTypes := #[TS, TS] })
    (base : Nat) (v : Value) (ms : List α) (hs : a.eval s = v) (hown : ApR T sz cl w base v ms) (sv : Value) (ns : List α) (hx : a.eval x = sv) (hsrc : Rw sz cl w sv ns)
    (hb : (ms.length + ns.length) * bytes ≤ 140737488355328) (hl : ms.length + ns.length ≤ 9223372036854775807) (hbase : base ≤ w.heap.size)
    (h : ∀ v' w', ApR T sz cl w' base v' (ms ++ ns) → w.grownBy w' (touch v) → (touch v' = touch v ∨ ∀ k, touch v' = some k → w.heap.size ≤ k) → wpList Tryz.prog ops Q rest (a.put o.dst v') w') : wpList Tryz.prog ops Q (o :: rest) a w := by
  refine wpList_plain hgd fun K' hK' => ?_
  obtain ⟨v', w', hrun, h1, h2, h3⟩ := run_apR E o.type hown sv hsrc hb hl hbase
  unfold Oper.wp
  simp [execOp, ho, resolve, invoke, builtin, hs, hx, hrun, Result.andThen]
  exact hK' _ _ (h v' w' h1 h2 h3)
/-- append as one step of a region that draws. -/
theorem step_apR {K : Act → World → Prop} {F : Prop} (E : Elem T TS z sz bytes cl) (hg : o.guard = none) (s x : Operand) (hop : o.op = .call { callee := .builtin .append, args := #[s, x], argTypes := #[TS, TS] })
    (base : Nat) (v : Value) (ms : List α) (hs : a.eval s = v) (hown : ApR T sz cl w base v ms) (sv : Value) (ns : List α) (hx : a.eval x = sv) (hsrc : Rw sz cl w sv ns)
    (hb : (ms.length + ns.length) * bytes ≤ 140737488355328) (hl : ms.length + ns.length ≤ 9223372036854775807) (hbase : base ≤ w.heap.size)
    (h : ∀ v' w', ApR T sz cl w' base v' (ms ++ ns) → w.grownBy w' (touch v) → (touch v' = touch v ∨ ∀ k, touch v' = some k → w.heap.size ≤ k) → K (a.put o.dst v') w') :
    if Region.wanted o (yielded ops a.tmps) = true then Oper.wp Tryz.prog o a w K Q else F := by
  have hw : Region.wanted o (yielded ops a.tmps) = true := by simp [Region.wanted, hg]
  rw [if_pos hw]
  obtain ⟨v', w', hrun, h1, h2, h3⟩ := run_apR E o.type hown sv hsrc hb hl hbase
  have h4 := h v' w' h1 h2 h3
  unfold Oper.wp
  simp [execOp, hop, resolve, invoke, builtin, hs, hx, hrun, Result.andThen]
  exact h4
/-- append to a slice of no capacity: a copy in new memory. -/
theorem run_cpR (E : Elem T TS z sz bytes cl) (ty : TypeId) (a0 : Option Addr) (sv : Value) (hsrc : Rw sz cl w sv ns) (hb : ns.length * bytes ≤ 140737488355328) :
    ∃ v' w', (Builtin.append_ #[TS, TS] ty #[.slice a0 0 0, sv]).run Tryz.prog w = .ok v' w' ∧ ApR T sz cl w' w.heap.size v' ns ∧ Below w.heap.size w w' := by
  obtain ⟨v', w', h1, h2, h3, -⟩ := run_apR E (ms := []) (base := w.heap.size) ty (.inl ⟨rfl, a0, rfl⟩) sv hsrc (by simpa using hb) (by have := hsrc.1; simpa using this) (Nat.le_refl _)
  have ht : touch (.slice a0 0 0) = none := by cases a0 <;> simp [touch]
  rw [ht] at h3
  exact ⟨v', w', h1, by simpa using h2, ⟨h3.os, h3.tape, h3.output, h3.size, fun k hk => h3.block k hk (by simp)⟩⟩
theorem step_cpR {K : Act → World → Prop} {F : Prop} (E : Elem T TS z sz bytes cl) (hg : o.guard = none) (s x : Operand) (hop : o.op = .call { callee := .builtin .append, args := #[s, x], argTypes := #[TS, TS] })
    (a0 : Option Addr) (hs : a.eval s = .slice a0 0 0) (sv : Value) (ns : List α) (hx : a.eval x = sv) (hsrc : Rw sz cl w sv ns) (hb : ns.length * bytes ≤ 140737488355328)
    (h : ∀ v' w', ApR T sz cl w' w.heap.size v' ns → Below w.heap.size w w' → K (a.put o.dst v') w') :
    if Region.wanted o (yielded ops a.tmps) = true then Oper.wp Tryz.prog o a w K Q else F := by
  have hw : Region.wanted o (yielded ops a.tmps) = true := by simp [Region.wanted, hg]
  rw [if_pos hw]
  obtain ⟨v', w', hrun, h1, h2⟩ := run_cpR E o.type a0 sv hsrc hb
  have h4 := h v' w' h1 h2
  unfold Oper.wp
  simp [execOp, hop, resolve, invoke, builtin, hs, hx, hrun, Result.andThen]
  exact h4
theorem wp_cpR (E : Elem T TS z sz bytes cl) (hgd : o.guard = none) (s x : Operand) (ho : o.op = .call { callee := .builtin .append, args := #[s, x], argTypes := #[TS, TS] })
    (a0 : Option Addr) (hs : a.eval s = .slice a0 0 0) (sv : Value) (ns : List α) (hx : a.eval x = sv) (hsrc : Rw sz cl w sv ns) (hb : ns.length * bytes ≤ 140737488355328)
    (h : ∀ v' w', ApR T sz cl w' w.heap.size v' ns → Below w.heap.size w w' → wpList Tryz.prog ops Q rest (a.put o.dst v') w') : wpList Tryz.prog ops Q (o :: rest) a w := by
  refine wpList_plain hgd fun K' hK' => ?_
  obtain ⟨v', w', hrun, h1, h2⟩ := run_cpR E o.type a0 sv hsrc hb
  unfold Oper.wp
  simp [execOp, ho, resolve, invoke, builtin, hs, hx, hrun, Result.andThen]
  exact hK' _ _ (h v' w' h1 h2)
/-- Two rows that were made one behind the other touch different blocks. -/
theorem touch_ne (E : Elem T TS z sz bytes cl) {u : Value} {ls : List α} {w1 : World} {base1 : Nat} (h : ApR T sz cl w1 base1 u ls) (k : ApR T sz cl w base v ms) (hb : w1.heap.size ≤ base) : touch u = none ∨ touch u ≠ touch v := by
  cases hu : touch u with
  | none => exact .inl rfl
  | some i =>
    right
    intro e
    have h1 := (h.touched E hu).2
    have h2 := (k.touched E e.symm).1
    omega
/-- What is written elsewhere. -/
theorem ApR.far (E : Elem T TS z sz bytes cl) (h : ApR T sz cl w base v ms) {b o' : Nat} (hb : b < base) (u : Value) : ApR T sz cl (w.setCell ⟨b, o', none⟩ u) base v ms := by
  refine h.kept E (grown_set w b o' u) (.inr fun e => ?_)
  have := (h.touched E e).1
  omega
theorem ApR.put (E : Elem T TS z sz bytes cl) (h : ApR T sz cl w base v ms) {b o' : Nat} (hb : touch v ≠ some b) (u : Value) : ApR T sz cl (w.setCell ⟨b, o', none⟩ u) base v ms := h.kept E (grown_set w b o' u) (.inr hb)
/-- What an append leaves of a world w0 that it stands behind: the row, the frame from B on, and a block of a record below base. -/
theorem apR_after (E : Elem T TS z sz bytes cl) {w0 W : World} {B : Nat} {wB : World} {ls : List α} (h : ApR T sz cl W base v ms) (hbW : Below B wB W) (hB : B ≤ W.heap.size) (hBb : B ≤ base) (hg : W.grownBy w' (touch v)) : Below B wB w' :=
  hbW.grown hg hB (fun k hk => by have := (h.touched E hk).1; omega)
end
end Go.Proofs.YtmgomacmaidmlaaGreatDoor
