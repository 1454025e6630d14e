/- append on slices of elements of several cells, whatever is appended. -/
import Derived.Test.YtmgomacmaidmlaaGreatDoorRwP
namespace Go.Proofs.YtmgomacmaidmlaaGreatDoor
open Go.ChangeShapes Go.WideShapes Go.ChangeAt Go.RowKit
set_option linter.unusedVariables false

section
variable {α : Type}
/-- What a type of elements is: T its number, TS that of its slices, z its zero value, sz its cells, by its bytes, cl the cells of a model. -/
structure Elem (T TS : TypeId) (z : Value) (sz bytes : Nat) (cl : α → List Value) : Prop where
  under : Tryz.prog.underlying TS = some (.slice T)
  info : (Tryz.prog.info? T).map (fun i => (i.zero, i.size, i.bytes)) = some (some z, sz, bytes)
  zcells : z.cells.size = sz
  pos : 0 < sz
  len : ∀ a, (cl a).length = sz
  one : ∀ a, ∀ u ∈ cl a, u.oneCell' = true
variable {T TS : TypeId} {z : Value} {sz bytes : Nat} {cl : α → List Value} {w w' : World} {base : Nat} {v : Value} {ms ns : List α}
theorem fcells_one (E : Elem T TS z sz bytes cl) (ms : List α) : ∀ u ∈ fcells cl ms, u.oneCell' = true := by
  intro u hu
  obtain ⟨a, -, h⟩ := List.mem_flatMap.1 hu
  exact E.one a u h
theorem addr_add (b o j : Nat) : (⟨b, o, none⟩ : Addr).add j = ⟨b, o + j, none⟩ := by unfold Addr.add; split <;> simp_all
theorem run_appR (E : Elem T TS z sz bytes cl) (ty : TypeId) (hown : w.ownsRow base T sz v ms.length (fcells cl ms)) (sv : Value) (hsrc : Rw sz cl w sv ns)
    (hb : (ms.length + ns.length) * bytes ≤ 140737488355328) (hl : ms.length + ns.length ≤ 9223372036854775807) (hbase : base ≤ w.heap.size) :
    ∃ v' w', (Builtin.append_ #[TS, TS] ty #[v, sv]).run Tryz.prog w = .ok v' w' ∧ w'.ownsRow base T sz v' (ms ++ ns).length (fcells cl (ms ++ ns)) ∧ w.grownBy w' v.ownBlock := by
  obtain ⟨i0, hi, hz0, hz1, hz2⟩ := info_parts E.info
  have hm : maxLen = 9223372036854775807 := rfl
  obtain ⟨h0, a, cap, rfl, hcap, h⟩ := hsrc
  have go : ∀ ad : Addr, a = some ad → (∀ j u, (fcells cl ns)[j]? = some u → w.cell? (ad.add j) = some u) → ∃ v' w', (Builtin.append_ #[TS, TS] ty #[v, .slice a ns.length cap]).run Tryz.prog w = .ok v' w' ∧ w'.ownsRow base T sz v' (ms ++ ns).length (fcells cl (ms ++ ns)) ∧ w.grownBy w' v.ownBlock := by
    rintro ad rfl hn
    obtain ⟨v', w', hrun, h1, h2, _⟩ := run_append_own (P := Tryz.prog) w base TS ty T i0 z sz bytes E.under hi hz0 hz1 hz2 E.zcells E.pos v ms.length (fcells cl ms) hown ad ns.length cap (fcells cl ns) (fcells_len E.len ns) hn (fcells_one E ns) (by omega) hb hbase
    exact ⟨v', w', hrun, by rw [fcells_app, List.length_append]; exact h1, h2⟩
  rcases h with h | ⟨b, off, rfl, hc⟩
  · subst h
    cases a with
    | none =>
      refine ⟨v, w, ?_, by simpa using hown, ⟨rfl, rfl, rfl, Nat.le_refl _, fun _ _ _ => rfl⟩⟩
      rcases hown.2 with ⟨rfl, h1⟩ | ⟨g, cap', cur, rfl, _, _, hnc, _⟩
      · simp [Builtin.append_, run_underlying E.under, sizeOf, typeInfo, hi, Builtin.lenOf, Builtin.firstCells]
      · simp [Builtin.append_, run_underlying E.under, sizeOf, typeInfo, hi, Builtin.lenOf, Builtin.firstCells, hnc, storeCells]
    | some ad => exact go ad rfl (fun j u hu => by simp [fcells] at hu)
  · refine go _ rfl fun j u hu => ?_
    have hj : j < ns.length * sz := by
      rcases Nat.lt_or_ge j (ns.length * sz) with h | h
      · exact h
      · rw [List.getElem?_eq_none (by rw [fcells_len E.len]; exact h)] at hu
        cases hu
    have hp := E.pos
    have hi' : j / sz < ns.length := Nat.div_lt_of_lt_mul (by rw [Nat.mul_comm]; exact hj)
    have hjm : j % sz < (cl ns[j / sz]).length := by rw [E.len]; exact Nat.mod_lt _ hp
    obtain ⟨u', hu'⟩ : ∃ u', (cl ns[j / sz])[j % sz]? = some u' := ⟨_, List.getElem?_eq_getElem hjm⟩
    have e1 := fcells_at E.len ns (j / sz) hi' (j % sz) u' hu'
    have e2 : j / sz * sz + j % sz = j := by rw [Nat.mul_comm]; exact Nat.div_add_mod j sz
    rw [e2, hu] at e1
    cases e1
    have := hc (j / sz) hi' (j % sz) u hu'
    rw [addr_add]
    rw [Nat.add_assoc, e2] at this
    exact this
variable {ops : Array Oper} {rest : List Oper} {o : Oper} {a : Act} {Q : Exit → Act → World → Prop}
/-- append at the operation. -/
theorem wp_appR (E : Elem T TS z sz bytes cl) (hgd : o.guard = none) (s x : Operand) (ho : o.op = .call { callee := .builtin .append, args := #[s, x], argTypes := #[TS, TS] })
    (base : Nat) (v : Value) (ms : List α) (hs : a.eval s = v) (hown : w.ownsRow base T sz v ms.length (fcells cl ms)) (sv : Value) (ns : List α) (hx : a.eval x = sv) (hsrc : Rw sz cl w sv ns)
    (hb : (ms.length + ns.length) * bytes ≤ 140737488355328) (hl : ms.length + ns.length ≤ 9223372036854775807) (hbase : base ≤ w.heap.size)
    (h : ∀ v' w', w'.ownsRow base T sz v' (ms ++ ns).length (fcells cl (ms ++ ns)) → w.grownBy w' v.ownBlock → wpList Tryz.prog ops Q rest (a.put o.dst v') w') : wpList Tryz.prog ops Q (o :: rest) a w := by
  refine wpList_plain hgd fun K' hK' => ?_
  obtain ⟨v', w', hrun, h1, h2⟩ := run_appR E o.type hown sv hsrc hb hl hbase
  unfold Oper.wp
  simp [execOp, ho, resolve, invoke, builtin, hs, hx, hrun, Result.andThen]
  exact hK' _ _ (h v' w' h1 h2)
/-- append as one step of a region that draws. -/
theorem step_appR {K : Act → World → Prop} {F : Prop} (E : Elem T TS z sz bytes cl) (hg : o.guard = none) (s x : Operand) (hop : o.op = .call { callee := .builtin .append, args := #[s, x], argTypes := #[TS, TS] })
    (base : Nat) (v : Value) (ms : List α) (hs : a.eval s = v) (hown : w.ownsRow base T sz v ms.length (fcells cl ms)) (sv : Value) (ns : List α) (hx : a.eval x = sv) (hsrc : Rw sz cl w sv ns)
    (hb : (ms.length + ns.length) * bytes ≤ 140737488355328) (hl : ms.length + ns.length ≤ 9223372036854775807) (hbase : base ≤ w.heap.size)
    (h : ∀ v' w', w'.ownsRow base T sz v' (ms ++ ns).length (fcells cl (ms ++ ns)) → w.grownBy w' v.ownBlock → K (a.put o.dst v') w') :
    if Region.wanted o (yielded ops a.tmps) = true then Oper.wp Tryz.prog o a w K Q else F := by
  have hw : Region.wanted o (yielded ops a.tmps) = true := by simp [Region.wanted, hg]
  rw [if_pos hw]
  obtain ⟨v', w', hrun, h1, h2⟩ := run_appR E o.type hown sv hsrc hb hl hbase
  have h3 := h v' w' h1 h2
  unfold Oper.wp
  simp [execOp, hop, resolve, invoke, builtin, hs, hx, hrun, Result.andThen]
  exact h3
theorem rowR_below {T : TypeId} {n : Nat} {l : List Value} (h : w.ownsRow base T sz v n l) (hb : Below w.heap.size w w') : w'.ownsRow base T sz v n l :=
  h.kept (row := none) ⟨hb.os, hb.tape, hb.output, hb.size, fun k hk _ => hb.block k hk⟩ (by cases v.ownBlock <;> simp)
theorem rowR_mono {T : TypeId} {n base' : Nat} {l : List Value} (h : w.ownsRow base T sz v n l) (hB : base' ≤ base) : w.ownsRow base' T sz v n l := by
  refine ⟨h.1, ?_⟩
  rcases h.2 with h0 | ⟨g, cap, cur, h1, h2, h3⟩
  · exact .inl h0
  · exact .inr ⟨g, cap, cur, h1, by omega, h3⟩
theorem rowR_slice {T : TypeId} {n : Nat} {l : List Value} (h : w.ownsRow base T sz v n l) : ∃ a c, v = .slice a n c := by
  rcases h.2 with ⟨rfl, h0⟩ | ⟨g, cap, cur, rfl, _⟩
  · exact ⟨none, 0, by rw [h0]⟩
  · exact ⟨_, _, rfl⟩
theorem rowR_len (E : Elem T TS z sz bytes cl) {n : Nat} (h : w.ownsRow base T sz v n (fcells cl ms)) : w.ownsRow base T sz v ms.length (fcells cl ms) := by
  have hl : ms.length = n := by
    have := h.1
    rw [fcells_len E.len] at this
    exact Nat.eq_of_mul_eq_mul_right E.pos this
  rw [hl]; exact h
theorem rowR_none (E : Elem T TS z sz bytes cl) (w : World) (base : Nat) : w.ownsRow base T sz (.slice none 0 0) ([] : List α).length (fcells cl []) := World.ownsRow_nil _ _ _ _
theorem rowR_made (E : Elem T TS z sz bytes cl) (w : World) (base : Nat) (h : base ≤ w.heap.size) : (w.alloc (.cells #[] T)).ownsRow base T sz (.slice (some ⟨w.heap.size, 0, none⟩) 0 0) ([] : List α).length (fcells cl []) := World.ownsRow_made w #[] 0 h (by decide) (by simp)
end
end Go.Proofs.YtmgomacmaidmlaaGreatDoor
