/- Several texts in one: ApP, StD, ImFa, StE, SitF, SitG, StH, StI. -/
import Derived.Test.YtodfgehicpejgaaGreatDoorGk171
import Derived.ArgAppend
import Derived.Maps.RangeWalk
import Derived.Test.YtodfgehicpejgaaGreatDoorGk162
import Derived.Deep.RegionHeld3
import Derived.Deep.DeepCutAuto
import Derived.Deep.LoopGhost
import Derived.BigQuiet
import Derived.Test.YtodfgehicpejgaaGreatDoorGk177
namespace Go.Proofs.YtodfgehicpejgaaGreatDoor
open Go.ChangeShapes Go.WideShapes Go.ChangeAt Go.RowKit
set_option linter.unusedSimpArgs false
set_option linter.unusedVariables false
set_option maxRecDepth 100000
def touch : Value → Option Nat
  | .slice (some ad) _ cap => if cap = 0 then none else some ad.block
  | _ => none
section
variable {α : Type}
def ApR (T : TypeId) (sz : Nat) (cl : α → List Value) (w : World) (base : Nat) (v : Value) (ms : List α) : Prop :=
  (ms = [] ∧ ∃ a, v = .slice a 0 0) ∨ w.ownsRow base T sz v ms.length (fcells cl ms)
variable {T TS : TypeId} {z : Value} {sz bytes : Nat} {cl : α → List Value} {w w' : World} {base base' : Nat} {v : Value} {ms ns : List α}
theorem ApR.own (E : Elem T TS z sz bytes cl) (h : ApR T sz cl w base v ms) : OwnRw sz cl w base v ms := by
  rcases h with ⟨rfl, a, rfl⟩ | h
  · exact OwnRw.nil _ _ _ _ (by omega)
  · exact ownRw_of_row E.len E.pos h
theorem ApR.mono (h : ApR T sz cl w base v ms) (hb : base' ≤ base) : ApR T sz cl w base' v ms := by
  rcases h with h | h
  · exact .inl h
  · exact .inr (rowR_mono h hb)
theorem ApR.below (h : ApR T sz cl w base v ms) (hb : Below w.heap.size w w') : ApR T sz cl w' base v ms := by
  rcases h with h | h
  · exact .inl h
  · exact .inr (rowR_below h hb)
theorem ApR.slice (E : Elem T TS z sz bytes cl) (h : ApR T sz cl w base v ms) : ∃ a c, v = .slice a ms.length c := by
  rcases h with ⟨rfl, a, rfl⟩ | h
  · exact ⟨a, 0, rfl⟩
  · exact rowR_slice h
theorem ApR.touched (E : Elem T TS z sz bytes cl) (h : ApR T sz cl w base v ms) {k : Nat} (hk : touch v = some k) : base ≤ k ∧ k < w.heap.size := by
  rcases h with ⟨rfl, a, rfl⟩ | h
  · cases a <;> simp [touch] at hk
  · rcases h.2 with ⟨rfl, h0⟩ | ⟨g, cap, cur, rfl, hb, hg, -⟩
    · simp [touch] at hk
    · by_cases hc : cap = 0
      · simp [touch, hc] at hk
      · simp [touch, hc] at hk
        subst hk
        exact ⟨hb, (Array.getElem?_eq_some_iff.1 hg).1⟩
theorem ApR.kept (E : Elem T TS z sz bytes cl) (h : ApR T sz cl w base v ms) {row : Option Nat} (hg : w.grownBy w' row) (hne : row = none ∨ touch v ≠ row) : ApR T sz cl w' base v ms := by
  rcases h with h | h
  · exact .inl h
  · by_cases ht : touch v = none
    · rcases h.2 with ⟨rfl, h0⟩ | ⟨g, cap, cur, rfl, hb, hgg, hnc, hcm, hcs, htk⟩
      · have : ms = [] := List.length_eq_zero_iff.1 h0
        exact .inl ⟨this, none, rfl⟩
      · have hc : cap = 0 := by
          rcases Nat.eq_zero_or_pos cap with h1 | h1
          · exact h1
          · have : cap ≠ 0 := by omega
            simp [touch, this] at ht
        subst hc
        have h0 : ms.length = 0 := by omega
        exact .inl ⟨List.length_eq_zero_iff.1 h0, some ⟨g, 0, none⟩, by rw [h0]⟩
    · refine .inr (h.kept hg ?_)
      rcases h.2 with ⟨rfl, h0⟩ | ⟨g, cap, cur, rfl, hb, hgg, hnc, hcm, hcs, htk⟩
      · exact .inl rfl
      · right
        have hc : cap ≠ 0 := fun e => ht (by simp [touch, e])
        rcases hne with rfl | hne
        · simp [Value.ownBlock]
        · simpa [touch, hc, Value.ownBlock] using hne
theorem rw_news (E : Elem T TS z sz bytes cl) {b off : Nat} (hc : ∀ i (h : i < ns.length) j u, (cl ns[i])[j]? = some u → w.cell? ⟨b, off + i * sz + j, none⟩ = some u) : ∀ j u, (fcells cl ns)[j]? = some u → w.cell? ((⟨b, off, none⟩ : Addr).add j) = some u := by
  intro j u hu
  have hj : j < ns.length * sz := by
    rcases Nat.lt_or_ge j (ns.length * sz) with h | h
    · exact h
    · rw [List.getElem?_eq_none (by rw [fcells_len E.len]; exact h)] at hu
      cases hu
  have hp := E.pos
  have hi' : j / sz < ns.length := Nat.div_lt_of_lt_mul (by rw [Nat.mul_comm]; exact hj)
  have hjm : j % sz < (cl ns[j / sz]).length := by rw [E.len]; exact Nat.mod_lt _ hp
  obtain ⟨u', hu'⟩ : ∃ u', (cl ns[j / sz])[j % sz]? = some u' := ⟨_, List.getElem?_eq_getElem hjm⟩
  have e1 := fcells_at E.len ns (j / sz) hi' (j % sz) u' hu'
  have e2 : j / sz * sz + j % sz = j := by rw [Nat.mul_comm]; exact Nat.div_add_mod j sz
  rw [e2, hu] at e1
  cases e1
  have := hc (j / sz) hi' (j % sz) u hu'
  rw [addr_add]
  rw [Nat.add_assoc, e2] at this
  exact this
theorem run_apR (E : Elem T TS z sz bytes cl) (ty : TypeId) (h : ApR T sz cl w base v ms) (sv : Value) (hsrc : Rw sz cl w sv ns)
    (hb : (ms.length + ns.length) * bytes ≤ 140737488355328) (hl : ms.length + ns.length ≤ 9223372036854775807) (hbase : base ≤ w.heap.size) :
    ∃ v' w', (Builtin.append_ #[TS, TS] ty #[v, sv]).run Tryz.prog w = .ok v' w' ∧ ApR T sz cl w' base v' (ms ++ ns) ∧ w.grownBy w' (touch v) ∧ (touch v' = touch v ∨ ∀ k, touch v' = some k → w.heap.size ≤ k) := by
  obtain ⟨i0, hi, hz0, hz1, hz2⟩ := info_parts E.info
  have hm : maxLen = 9223372036854775807 := rfl
  have hsrc' := hsrc
  obtain ⟨h0, a, cap, rfl, hcap, hs⟩ := hsrc'
  by_cases hns : ns = []
  · subst hns
    refine ⟨v, w, ?_, by simpa using h, ⟨rfl, rfl, rfl, Nat.le_refl _, fun _ _ _ => rfl⟩, .inl rfl⟩
    have hf : ∀ w : World, (Builtin.firstCells i0.size 0 (.slice a 0 cap)).run Tryz.prog w = .ok #[] w := fun w => by
      cases a <;> simp [Builtin.firstCells, loadCells, loadCellsFrom]
    rcases h with ⟨rfl, a0, rfl⟩ | h
    · cases a0 <;> cases a <;> simp [Builtin.append_, run_underlying E.under, sizeOf, typeInfo, hi, Builtin.lenOf, Builtin.firstCells, storeCells, loadCells, loadCellsFrom]
    · rcases h.2 with ⟨rfl, h1⟩ | ⟨g, cap', cur, rfl, _, _, hnc, _⟩
      · cases a <;> simp [Builtin.append_, run_underlying E.under, sizeOf, typeInfo, hi, Builtin.lenOf, Builtin.firstCells, storeCells, loadCells, loadCellsFrom]
      · cases a <;> simp [Builtin.append_, run_underlying E.under, sizeOf, typeInfo, hi, Builtin.lenOf, Builtin.firstCells, hnc, storeCells, loadCells, loadCellsFrom]
  · obtain ⟨b, off, rfl, hc⟩ : ∃ b off, a = some ⟨b, off, none⟩ ∧ ∀ i (h : i < ns.length) j u, (cl ns[i])[j]? = some u → w.cell? ⟨b, off + i * sz + j, none⟩ = some u := by
      rcases hs with h | h
      · exact absurd h hns
      · exact h
    have hnews := rw_news E hc
    have hpos : 0 < ns.length := List.length_pos_iff.2 hns
    -- the world grows: a new row
    have fin : ∀ v' w', (Builtin.append_ #[TS, TS] ty #[v, .slice (some ⟨b, off, none⟩) ns.length cap]).run Tryz.prog w = .ok v' w' → w'.ownsRow w.heap.size T sz v' (ms ++ ns).length (fcells cl (ms ++ ns)) → w.grownBy w' none → _ := fun v' w' hrun h1 h2 =>
      (show ∃ v' w', (Builtin.append_ #[TS, TS] ty #[v, .slice (some ⟨b, off, none⟩) ns.length cap]).run Tryz.prog w = .ok v' w' ∧ ApR T sz cl w' base v' (ms ++ ns) ∧ w.grownBy w' (touch v) ∧ (touch v' = touch v ∨ ∀ k, touch v' = some k → w.heap.size ≤ k) from
        ⟨v', w', hrun, (ApR.mono (.inr h1) hbase), h2.but _, .inr fun k hk => (ApR.touched E (.inr h1) hk).1⟩)
    have nilc : v = .slice none 0 0 → ms = [] → ∃ v' w', (Builtin.append_ #[TS, TS] ty #[v, .slice (some ⟨b, off, none⟩) ns.length cap]).run Tryz.prog w = .ok v' w' ∧ ApR T sz cl w' base v' (ms ++ ns) ∧ w.grownBy w' (touch v) ∧ (touch v' = touch v ∨ ∀ k, touch v' = some k → w.heap.size ≤ k) := by
      rintro rfl rfl
      obtain ⟨v', w', hrun, h1, h2⟩ := run_appR E (ms := []) (base := w.heap.size) ty (rowR_none E w w.heap.size) _ hsrc hb hl (Nat.le_refl _)
      exact fin v' w' hrun h1 (by simpa [Value.ownBlock] using h2)
    have growc : ∀ (g : Addr) (c0 : Nat), v = .slice (some g) ms.length c0 → c0 < ms.length + ns.length → (∀ j u, (fcells cl ms)[j]? = some u → w.cell? (g.add j) = some u) → ∃ v' w', (Builtin.append_ #[TS, TS] ty #[v, .slice (some ⟨b, off, none⟩) ns.length cap]).run Tryz.prog w = .ok v' w' ∧ ApR T sz cl w' base v' (ms ++ ns) ∧ w.grownBy w' (touch v) ∧ (touch v' = touch v ∨ ∀ k, touch v' = some k → w.heap.size ≤ k) := by
      rintro g c0 rfl hg hold
      obtain ⟨v', w', hrun, r1, r2⟩ := run_append_arg_grows (P := Tryz.prog) w TS ty T i0 z sz bytes E.under hi hz0 hz1 hz2 E.zcells E.pos g ms.length c0 (fcells cl ms) (fcells_len E.len ms) hold ⟨b, off, none⟩ ns.length cap (fcells cl ns) (fcells_len E.len ns) hnews hg (by omega) hb
      exact fin v' w' hrun (by rw [fcells_app, List.length_append]; exact r1) r2
    rcases h with ⟨rfl, a0, rfl⟩ | h
    · cases a0 with
      | none => exact nilc rfl rfl
      | some g => exact growc g 0 rfl (by simpa using hpos) (fun j u hu => by simp [fcells] at hu)
    · rcases h.2 with ⟨rfl, hn0⟩ | ⟨g, c0, cur, rfl, hbg, hg, hnc, hcm, hcs, htake⟩
      · exact nilc rfl (List.length_eq_zero_iff.1 hn0)
      · by_cases hroom : ms.length + ns.length ≤ c0
        · obtain ⟨v', w', hrun, h1, h2⟩ := run_appR E ty h _ hsrc hb hl hbase
          have hfit : ms.length * i0.size + (fcells cl ns).length ≤ cur.size := by rw [fcells_len E.len, hz1, hcs, ← Nat.add_mul]; exact Nat.mul_le_mul_right _ hroom
          have hr := run_append_room (P := Tryz.prog) w TS ty T i0 E.under hi g ms.length c0 cur hg ⟨b, off, none⟩ ns.length cap (fcells cl ns) (by rw [hz1]; exact fcells_len E.len ns) hnews (fcells_one E ns) hroom hfit
          have hc0 : ¬ c0 = 0 := by omega
          have hv : v' = .slice (some ⟨g, 0, none⟩) (ms.length + ns.length) c0 := by
            rw [hr] at hrun
            cases hrun
            rfl
          subst hv
          exact ⟨_, w', hrun, .inr h1, by simpa [touch, hc0, Value.ownBlock] using h2, .inl (by simp [touch, hc0])⟩
        · exact growc ⟨g, 0, none⟩ c0 rfl (by omega) (h.cells (g := g) rfl)
variable {ops : Array Oper} {rest : List Oper} {o : Oper} {a : Act} {Q : Exit → Act → World → Prop}
theorem wp_apR (E : Elem T TS z sz bytes cl) (hgd : o.guard = none) (s x : Operand) (ho : o.op = .call { callee := .builtin .append, args := #[s, x], argTypes := #[TS, TS] })
    (base : Nat) (v : Value) (ms : List α) (hs : a.eval s = v) (hown : ApR T sz cl w base v ms) (sv : Value) (ns : List α) (hx : a.eval x = sv) (hsrc : Rw sz cl w sv ns)
    (hb : (ms.length + ns.length) * bytes ≤ 140737488355328) (hl : ms.length + ns.length ≤ 9223372036854775807) (hbase : base ≤ w.heap.size)
    (h : ∀ v' w', ApR T sz cl w' base v' (ms ++ ns) → w.grownBy w' (touch v) → (touch v' = touch v ∨ ∀ k, touch v' = some k → w.heap.size ≤ k) → wpList Tryz.prog ops Q rest (a.put o.dst v') w') : wpList Tryz.prog ops Q (o :: rest) a w := by
  refine wpList_plain hgd fun K' hK' => ?_
  obtain ⟨v', w', hrun, h1, h2, h3⟩ := run_apR E o.type hown sv hsrc hb hl hbase
  unfold Oper.wp
  simp [execOp, ho, resolve, invoke, builtin, hs, hx, hrun, Result.andThen]
  exact hK' _ _ (h v' w' h1 h2 h3)
theorem run_cpR (E : Elem T TS z sz bytes cl) (ty : TypeId) (a0 : Option Addr) (sv : Value) (hsrc : Rw sz cl w sv ns) (hb : ns.length * bytes ≤ 140737488355328) :
    ∃ v' w', (Builtin.append_ #[TS, TS] ty #[.slice a0 0 0, sv]).run Tryz.prog w = .ok v' w' ∧ ApR T sz cl w' w.heap.size v' ns ∧ Below w.heap.size w w' := by
  obtain ⟨v', w', h1, h2, h3, -⟩ := run_apR E (ms := []) (base := w.heap.size) ty (.inl ⟨rfl, a0, rfl⟩) sv hsrc (by simpa using hb) (by have := hsrc.1; simpa using this) (Nat.le_refl _)
  have ht : touch (.slice a0 0 0) = none := by cases a0 <;> simp [touch]
  rw [ht] at h3
  exact ⟨v', w', h1, by simpa using h2, ⟨h3.os, h3.tape, h3.output, h3.size, fun k hk => h3.block k hk (by simp)⟩⟩
theorem wp_cpR (E : Elem T TS z sz bytes cl) (hgd : o.guard = none) (s x : Operand) (ho : o.op = .call { callee := .builtin .append, args := #[s, x], argTypes := #[TS, TS] })
    (a0 : Option Addr) (hs : a.eval s = .slice a0 0 0) (sv : Value) (ns : List α) (hx : a.eval x = sv) (hsrc : Rw sz cl w sv ns) (hb : ns.length * bytes ≤ 140737488355328)
    (h : ∀ v' w', ApR T sz cl w' w.heap.size v' ns → Below w.heap.size w w' → wpList Tryz.prog ops Q rest (a.put o.dst v') w') : wpList Tryz.prog ops Q (o :: rest) a w := by
  refine wpList_plain hgd fun K' hK' => ?_
  obtain ⟨v', w', hrun, h1, h2⟩ := run_cpR E o.type a0 sv hsrc hb
  unfold Oper.wp
  simp [execOp, ho, resolve, invoke, builtin, hs, hx, hrun, Result.andThen]
  exact hK' _ _ (h v' w' h1 h2)
theorem touch_ne (E : Elem T TS z sz bytes cl) {u : Value} {ls : List α} {w1 : World} {base1 : Nat} (h : ApR T sz cl w1 base1 u ls) (k : ApR T sz cl w base v ms) (hb : w1.heap.size ≤ base) : touch u = none ∨ touch u ≠ touch v := by
  cases hu : touch u with
  | none => exact .inl rfl
  | some i =>
    right
    intro e
    have h1 := (h.touched E hu).2
    have h2 := (k.touched E e.symm).1
    omega
theorem ApR.far (E : Elem T TS z sz bytes cl) (h : ApR T sz cl w base v ms) {b o' : Nat} (hb : b < base) (u : Value) : ApR T sz cl (w.setCell ⟨b, o', none⟩ u) base v ms := by
  refine h.kept E (grown_set w b o' u) (.inr fun e => ?_)
  have := (h.touched E e).1
  omega
theorem ApR.put (E : Elem T TS z sz bytes cl) (h : ApR T sz cl w base v ms) {b o' : Nat} (hb : touch v ≠ some b) (u : Value) : ApR T sz cl (w.setCell ⟨b, o', none⟩ u) base v ms := h.kept E (grown_set w b o' u) (.inr hb)
theorem apR_after (E : Elem T TS z sz bytes cl) {w0 W : World} {B : Nat} {wB : World} {ls : List α} (h : ApR T sz cl W base v ms) (hbW : Below B wB W) (hB : B ≤ W.heap.size) (hBb : B ≤ base) (hg : W.grownBy w' (touch v)) : Below B wB w' :=
  hbW.grown hg hB (fun k hk => by have := (h.touched E hk).1; omega)
end
abbrev ApE (w : World) (base : Nat) (v : Value) (es : List Ent) : Prop := ApR 156 4 Ent.cl w base v es
def OwS (w : World) (base : Nat) (v : Value) (s : St) : Prop := ∃ kv lv, v = .agg #[kv, lv, .int .i64 s.lock] ∧ ApE w base kv s.kept ∧ ApE w base lv s.late ∧ (touch kv = none ∨ touch kv ≠ touch lv)
theorem OwS.rs {w : World} {base : Nat} {v : Value} {s : St} (h : OwS w base v s) : Rs w v s := by
 obtain ⟨kv, lv, h1, h2, h3, -⟩ := h
 exact ⟨kv, lv, h1, (ApR.own elemE h2).rw, (ApR.own elemE h3).rw⟩
theorem OwS.below {w w' : World} {base : Nat} {v : Value} {s : St} (h : OwS w base v s) (hb : Below w.heap.size w w') : OwS w' base v s := by
 obtain ⟨kv, lv, h1, h2, h3, h4⟩ := h
 exact ⟨kv, lv, h1, h2.below hb, h3.below hb, h4⟩
theorem OwS.mono {w : World} {base base' : Nat} {v : Value} {s : St} (h : OwS w base v s) (hb : base' ≤ base) : OwS w base' v s := by
 obtain ⟨kv, lv, h1, h2, h3, h4⟩ := h
 exact ⟨kv, lv, h1, h2.mono hb, h3.mono hb, h4⟩
theorem place_any (e : Ent) (w : World) : Calls Tryz.prog 369 #[e.val] w fun r w' => r = .returned (.int .i64 e.pl) ∧ Below w.heap.size w w' := by
  obtain ⟨x, wv, ho, d⟩ := e
  unfold Ent.val
  simp only
  go_enter Tryz.func369, Tryz.ntmps369
  go_wp2
  go_ret
  exact ⟨rfl, (Below.refl _ _).alloc (Nat.le_refl _) _⟩
theorem isNaN_any (x : Int) (w : World) : Calls Tryz.prog 261 #[.int .i64 x] w fun r w' => r = .returned (.bool false) ∧ w' = w := by
  go_enter Tryz.func261, Tryz.ntmps261
  go_wp2
  go_ret
  exact ⟨by simp, rfl⟩
def cmpI (x y : Int) : Int := if x < y then -1 else if y < x then 1 else 0
theorem cmpI_neg (x y : Int) : cmpI x y < 0 ↔ x < y := by unfold cmpI; split <;> (try split) <;> omega
theorem cmpI_zero (x y : Int) : cmpI x y = 0 ↔ x = y := by unfold cmpI; split <;> (try split) <;> omega
theorem compare_any (x y : Int) (w : World) : Calls Tryz.prog 191 #[.int .i64 x, .int .i64 y] w fun r w' => r = .returned (.int .i64 (cmpI x y)) ∧ w' = w := by
  by_cases h : x < y
  · have e : cmpI x y = -1 := if_pos h
    rw [e]
    clear e
    have hd : decide (x < y) = true := decide_eq_true h
    go_enter Tryz.func191, Tryz.ntmps191
    go_wp2_with (go_at_call 261; refine (isNaN_any _ _).mono ?_; rintro e w' ⟨rfl, rfl⟩)
    go_ret
    exact ⟨rfl, rfl⟩
  · by_cases h2 : y < x
    · have e : cmpI x y = 1 := (if_neg h).trans (if_pos h2)
      rw [e]
      clear e
      have hd : decide (x < y) = false := decide_eq_false h
      have hd2 : decide (y < x) = true := decide_eq_true h2
      go_enter Tryz.func191, Tryz.ntmps191
      go_wp2_with (go_at_call 261; refine (isNaN_any _ _).mono ?_; rintro e w' ⟨rfl, rfl⟩)
      go_ret
      exact ⟨rfl, rfl⟩
    · have e : cmpI x y = 0 := (if_neg h).trans (if_neg h2)
      rw [e]
      clear e
      have hd : decide (x < y) = false := decide_eq_false h
      have hd2 : decide (y < x) = false := decide_eq_false h2
      go_enter Tryz.func191, Tryz.ntmps191
      go_wp2_with (go_at_call 261; refine (isNaN_any _ _).mono ?_; rintro e w' ⟨rfl, rfl⟩)
      go_ret
      exact ⟨rfl, rfl⟩
theorem against_any (e : Ent) (y : Int) (w : World) : Calls Tryz.prog 302 #[e.val, .int .i64 y] w fun r w' => r = .returned (.int .i64 (cmpI e.pl y)) ∧ Below w.heap.size w w' := by
  obtain ⟨x, wv, ho, d⟩ := e
  have PA := fun W => place_any ⟨x, wv, ho, d⟩ W
  have CA := fun W => compare_any x y W
  generalize cmpI x y = c at *
  unfold Ent.val at *
  simp only at *
  go_enter Tryz.func302, Tryz.ntmps302
  go_wp2_with fail
  refine (PA _).mono ?_
  rintro r w1 ⟨rfl, b1⟩
  have BB := bT ((Below.refl w.heap.size w).alloc (Nat.le_refl _) (.cells #[.int .i64 x, .int .i64 wv, .bool ho, .string d] 156)) b1
  clear b1 PA
  go_wp2_with (go_at_call 191; refine (CA _).mono ?_; rintro e w' ⟨rfl, rfl⟩)
  go_ret
  exact ⟨rfl, BB⟩
def foundP (es : List Ent) (y : Int) (i : Nat) : Prop := ∃ h : i < es.length, es[i].pl = y
set_option maxHeartbeats 4000000 in
theorem search_any (v : Value) (es : List Ent) (y : Int) (w : World) (hv : Rw 4 Ent.cl w v es) (ha : ascE es) (hl : es.length ≤ 1048576) :
    Calls Tryz.prog 301 #[v, .int .i64 y, .func (.func 302) #[] #[]] w fun r w' => (∃ (i : Nat) (b : Bool), r = .returned (.tuple #[.int .i64 (i : Int), .bool b]) ∧ posP es y i ∧ (b = true ↔ foundP es y i)) ∧ Below w.heap.size w w' := by
  have HV := dH fun W (hb : Below w.heap.size w W) => hv.below hb
  obtain ⟨-, va, vc, rfl, hcap, -⟩ := hv
  have HA := dH ha
  generalize hn : es.length = n at *
  have HN := dH hn
  clear hn ha
  go_enter Tryz.func301, Tryz.ntmps301
  go_wp2
  go_loopg [9, 10] n (fun kx s9 s10 wr => ∃ lo hi : Nat, s9 = .int .i64 lo ∧ s10 = .int .i64 hi ∧ lo ≤ hi ∧ hi ≤ n ∧ hi - lo ≤ kx ∧ Hid (Below w.heap.size w wr) ∧
    Hid ((∀ t (h : t < es.length), t < lo → es[t].pl < y) ∧ (∀ t (h : t < es.length), hi ≤ t → y ≤ es[t].pl)))
  case atStart => exact ⟨0, n, rfl, rfl, Nat.zero_le _, Nat.le_refl _, by omega, dH (Below.refl _ _), dH ⟨fun t h1 h2 => absurd h2 (Nat.not_lt_zero _), fun t h1 h2 => by have := dU HN; omega⟩⟩
  case round =>
    obtain ⟨lo, hi, rfl, rfl, hlh, hin, hg, B1, I⟩ := hrel
    by_cases hlt : lo < hi
    · have hm : (lo + hi) / 2 < es.length := by rw [dU HN]; omega
      have R := dU HV wr (dU B1)
      rw [show n = es.length from (dU HN).symm] at R
      obtain ⟨b, off, rfl, hc⟩ := Rw.ent R hm
      obtain ⟨c0, c1, c2, c3⟩ := hc _ hm
      clear R hc
      have hc := fun W => against_any es[(lo + hi) / 2] y W
      have hneg := cmpI_neg es[(lo + hi) / 2].pl y
      generalize he : es[(lo + hi) / 2] = e at *
      have HE := dH he
      obtain ⟨x, wv, ho, d⟩ := e
      unfold Ent.val at hc
      simp only at hc c0 c1 c2 c3 hneg
      generalize cmpI x y = c at *
      clear he
      by_cases hyx : c < 0
      · have hxy := hneg.1 hyx
        clear hneg
        have hd : decide (c < 0) = true := decide_eq_true hyx
        go_wp2_with (go_at_call 302; refine (hc _).mono ?_; rintro e w' ⟨rfl, b1⟩)
        go_roundg (hi - ((lo + hi) / 2 + 1))
        case measure => omega
        case rel =>
          have AL := dU HA
          have HEo := dU HE
          refine ⟨(lo + hi) / 2 + 1, hi, by rw [show ((lo : Int) + (hi : Int)) / 2 + 1 = (((lo + hi) / 2 + 1 : Nat) : Int) by omega], rfl, by omega, hin, Nat.le_refl _, dH (bT (dU B1) b1), dH ⟨fun t ht htl => ?_, (dU I).2⟩⟩
          rcases Nat.lt_or_ge t ((lo + hi) / 2) with h1 | h1
          · have := ascE_lt AL ((lo + hi) / 2) t hm h1
            rw [HEo] at this
            dsimp only at this
            omega
          · obtain rfl : t = (lo + hi) / 2 := by omega
            rw [HEo]
            exact hxy
      · have hxy : ¬ x < y := fun h => hyx (hneg.2 h)
        clear hneg
        have hd : decide (c < 0) = false := decide_eq_false hyx
        go_wp2_with (go_at_call 302; refine (hc _).mono ?_; rintro e w' ⟨rfl, b1⟩)
        go_roundg ((lo + hi) / 2 - lo)
        case measure => omega
        case rel =>
          have AL := dU HA
          have HEo := dU HE
          refine ⟨lo, (lo + hi) / 2, rfl, by rw [show ((lo : Int) + (hi : Int)) / 2 = (((lo + hi) / 2 : Nat) : Int) by omega], by omega, by omega, Nat.le_refl _, dH (bT (dU B1) b1), dH ⟨(dU I).1, fun t ht htl => ?_⟩⟩
          rcases Nat.eq_or_lt_of_le htl with h1 | h1
          · subst h1
            rw [HEo]
            dsimp only
            omega
          · have := ascE_lt AL t ((lo + hi) / 2) ht h1
            rw [HEo] at this
            dsimp only at this
            omega
    · obtain rfl : hi = lo := by omega
      have IP : posP es y hi := ⟨by rw [dU HN]; exact hin, (dU I).1, (dU I).2⟩
      have HP := dH IP
      clear IP I
      by_cases hn : hi < n
      · have hm : hi < es.length := by rw [dU HN]; exact hn
        have R := dU HV wr (dU B1)
        rw [show n = es.length from (dU HN).symm] at R
        obtain ⟨b, off, rfl, hc⟩ := Rw.ent R hm
        obtain ⟨c0, c1, c2, c3⟩ := hc _ hm
        clear R hc
        have hc := fun W => against_any es[hi] y W
        have hz := cmpI_zero es[hi].pl y
        have FP : Hid (foundP es y hi ↔ es[hi].pl = y) := ⟨fun h => h.2, fun h => ⟨hm, h⟩⟩
        generalize he : es[hi] = e at *
        obtain ⟨x, wv, ho, d⟩ := e
        unfold Ent.val at hc
        simp only at hc c0 c1 c2 c3 hz FP
        generalize cmpI x y = c at *
        clear he
        by_cases hyx : c = 0
        · have hxy := (dU FP).2 (hz.1 hyx)
          clear hz FP
          go_wp2_with (go_at_call 302; refine (hc _).mono ?_; rintro e w' ⟨rfl, b1⟩)
          go_ret2
          exact ⟨⟨hi, true, by simp [hyx], dU HP, fun _ => hxy, fun _ => rfl⟩, bT (dU B1) b1⟩
        · have hxy : ¬ foundP es y hi := fun h => hyx (hz.2 ((dU FP).1 h))
          clear hz FP
          go_wp2_with (go_at_call 302; refine (hc _).mono ?_; rintro e w' ⟨rfl, b1⟩)
          go_ret2
          exact ⟨⟨hi, false, by simp [hyx], dU HP, fun h => (by cases h), fun h => absurd h hxy⟩, bT (dU B1) b1⟩
      · have hxy : ¬ foundP es y hi := fun h => by have := h.1; rw [dU HN] at this; exact hn this
        go_wp2
        go_ret2
        exact ⟨⟨hi, false, by simp [hn], dU HP, fun h => (by cases h), fun h => absurd h hxy⟩, dU B1⟩
theorem find_any (v : Value) (es : List Ent) (y : Int) (w : World) (hv : Rw 4 Ent.cl w v es) (ha : ascE es) (hl : es.length ≤ 1048576) :
    Calls Tryz.prog 265 #[v, .int .i64 y] w fun r w' => (∃ (i : Nat) (b : Bool), r = .returned (.tuple #[.int .i64 (i : Int), .bool b]) ∧ posP es y i ∧ (b = true ↔ foundP es y i)) ∧ Below w.heap.size w w' := by
  have C := search_any v es y w hv ha hl
  obtain ⟨-, va, vc, rfl, hcap, -⟩ := hv
  go_enter Tryz.func265, Tryz.ntmps265
  go_wp2_with fail
  refine C.mono ?_
  rintro r w1 ⟨⟨i, b, rfl, h1, h2⟩, b1⟩
  go_wp2
  go_ret2
  exact ⟨⟨i, b, rfl, h1, h2⟩, b1⟩
def zeroSt : St := ⟨[], [], 0⟩
theorem OwS.zero (w : World) (base : Nat) : OwS w base (.agg #[.slice none 0 0, .slice none 0 0, .int .i64 0]) zeroSt := ⟨_, _, rfl, .inl ⟨rfl, none, rfl⟩, .inl ⟨rfl, none, rfl⟩, .inl rfl⟩
theorem OwS.far {w : World} {base : Nat} {v : Value} {s : St} (h : OwS w base v s) {b o : Nat} (hb : b < base) (u : Value) : OwS (w.setCell ⟨b, o, none⟩ u) base v s := by
 obtain ⟨kv, lv, h1, h2, h3, h4⟩ := h
 exact ⟨kv, lv, h1, ApR.far elemE h2 hb u, ApR.far elemE h3 hb u, h4⟩
theorem OwS.shape {w : World} {base : Nat} {v : Value} {s : St} (h : OwS w base v s) : ∃ ka kc la lc, v = .agg #[.slice ka s.kept.length kc, .slice la s.late.length lc, .int .i64 s.lock] := by
 obtain ⟨kv, lv, h1, h2, h3, h4⟩ := h
 obtain ⟨ka, kc, rfl⟩ := ApR.slice elemE h2
 obtain ⟨la, lc, rfl⟩ := ApR.slice elemE h3
 exact ⟨ka, kc, la, lc, h1⟩
def RdStore (v : Value) (m : St) (W : World) : Prop := Rs W v m
def OwStore (lo hi : Nat) (v : Value) (m : St) (W : World) : Prop := ∃ kv lv, v = .agg #[kv, lv, .int .i64 m.lock] ∧ OwEntryS lo hi kv m.kept W ∧ OwEntryS lo hi lv m.late W ∧ (m.kept = [] ∨ m.late = [] ∨ bO kv ≠ bO lv)
def sizStore (m : St) : Nat := sizEntryS m.kept + sizEntryS m.late
def cntStore (m : St) : Nat := cntEntryS m.kept + cntEntryS m.late
theorem OwStore.rd {lo hi : Nat} {v : Value} {m : St} {W : World} (h : OwStore lo hi v m W) : RdStore v m W := by
 obtain ⟨kv, lv, h1, h2, h3, -⟩ := h
 exact ⟨kv, lv, h1, h2.rd, h3.rd⟩
theorem RdStore.below {v : Value} {m : St} {W W' : World} (h : RdStore v m W) (b : Below W.heap.size W W') : RdStore v m W' := Rs.below h b
theorem formStore {v : Value} {m : St} {W : World} (h : RdStore v m W) : ∃ ka kc la lc, v = .agg #[.slice ka m.kept.length kc, .slice la m.late.length lc, .int .i64 m.lock] ∧ m.kept.length ≤ 9223372036854775807 ∧ m.late.length ≤ 9223372036854775807 := by
 obtain ⟨kv, lv, rfl, h2, h3⟩ := h
 obtain ⟨ka, kc, rfl, e1⟩ := formEntryS h2
 obtain ⟨la, lc, rfl, e2⟩ := formEntryS h3
 exact ⟨ka, kc, la, lc, rfl, e1, e2⟩
theorem OwStore.sits {lo hi : Nat} {w : World} {v : Value} {m : St} (h : OwStore lo hi v m w) (hf : hi ≤ w.heap.size) : Sits (OwStore lo hi v m) lo hi w := by
 obtain ⟨kv, lv, h1, h2, h3, h4⟩ := h
 have s2 := h2.sits hf
 have s3 := h3.sits hf
 exact ⟨hf, fun W hW => ⟨kv, lv, h1, s2.all W hW, s3.all W hW, h4⟩⟩
theorem OwS.sits {w : World} {base : Nat} {v : Value} {s : St} (h : OwS w base v s) : Sits (OwStore base w.heap.size v s) base w.heap.size w := by
 obtain ⟨kv, lv, h1, h2, h3, h4⟩ := h
 have o2 := ApR.own elemE h2
 have o3 := ApR.own elemE h3
 refine OwStore.sits ⟨kv, lv, h1, ⟨o2, o2.lt⟩, ⟨o3, o3.lt⟩, ?_⟩ (Nat.le_refl _)
 by_cases hk : s.kept = []
 ·exact .inl hk
 ·by_cases hl : s.late = []
  ·exact .inr (.inl hl)
  ·right; right
   have tb : ∀ {u : Value} {ms : List Ent}, ApE w base u ms → ms ≠ [] → touch u = some (bO u) := fun {u ms} hu hm => by
    rcases hu with ⟨h, -⟩ | hu
    ·exact absurd h hm
    ·rcases hu.2 with ⟨-, h0⟩ | ⟨g, cap, cur, rfl, -, -, hnc, -⟩
     ·exact absurd (List.length_eq_zero_iff.1 h0) hm
     ·have : ms.length ≠ 0 := fun e => hm (List.length_eq_zero_iff.1 e)
      have hc : cap ≠ 0 := by omega
      simp [touch, hc, bO]
   have t1 := tb h2 hk
   have t2 := tb h3 hl
   intro e
   rcases h4 with h4 | h4
   ·rw [t1] at h4; cases h4
   ·exact h4 (by rw [t1, t2, e])
theorem OwEntryS.wr {lo hi lo' hi' : Nat} {v : Value} {m : List Ent} {w w' : World} (h : OwEntryS lo hi v m w) (hw : Wr lo' hi' w w') (hne : m = [] ∨ bO v < lo' ∨ hi' ≤ bO v) : OwEntryS lo hi v m w' := by
 have hlt := h.1.lt
 obtain ⟨⟨h0, a, cap, rfl, hcap, h⟩, hl⟩ := h
 refine ⟨⟨h0, a, cap, rfl, hcap, ?_⟩, hl⟩
 rcases hne with hne | hne
 ·exact .inl hne
 ·rcases h with h | ⟨b', off, rfl, hb, hc⟩
  ·exact .inl h
  ·rcases hlt with hlt | hlt
   ·exact .inl hlt
   ·have e := hw.block b' hlt hne
    exact .inr ⟨b', off, rfl, hb, fun i hi j u hu => ⟨(World.cell?_of_block (a := ⟨b', off + i * 4 + j, none⟩) e).trans (hc i hi j u hu).1, (World.frozen?_of_block (a := ⟨b', off + i * 4 + j, none⟩) e).trans (hc i hi j u hu).2⟩⟩
theorem OwEntryS.narrow {lo hi : Nat} {v : Value} {m : List Ent} {w : World} (h : OwEntryS lo hi v m w) (hm : m ≠ []) : OwEntryS (bO v) (bO v + 1) v m w ∧ lo ≤ bO v ∧ bO v < hi := by
 have h1 := h.1.ge.resolve_left hm
 have h2 := h.2.resolve_left hm
 refine ⟨⟨?_, .inr (by omega)⟩, h1, h2⟩
 obtain ⟨⟨h0, a, cap, rfl, hcap, h⟩, -⟩ := h
 refine ⟨h0, a, cap, rfl, hcap, ?_⟩
 rcases h with h | ⟨b', off, rfl, hb, hc⟩
 ·exact .inl h
 ·exact .inr ⟨b', off, rfl, Nat.le_refl _, hc⟩
theorem OwEntryS.wide {lo hi lo' hi' : Nat} {v : Value} {m : List Ent} {w : World} (h : OwEntryS lo hi v m w) (h1 : lo' ≤ lo) (h2 : hi ≤ hi') : OwEntryS lo' hi' v m w := ⟨h.1.mono h1, by rcases h.2 with h | h; exact .inl h; exact .inr (by omega)⟩
theorem mkEntryS_nil {k : Nat} {m : List Ent} : mkEntryS k m = [] ↔ m = [] := by
 rw [← List.length_eq_zero_iff, ← List.length_eq_zero_iff, mkEntryS_len]
def noEnt : Ent := ⟨0, 0, false, ⟨#[]⟩⟩
def findT (o : Option Ent) : Value := match o with
 | some e => .tuple #[e.val, .bool true]
 | none => .tuple #[noEnt.val, .bool false]
open Classical in
noncomputable def getM (s : St) (x : Int) : Option Ent := if stP s then getL s.kept x else none
end Go.Proofs.YtodfgehicpejgaaGreatDoor
