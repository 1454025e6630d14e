/- append of a slice of ints, whatever it is, to a row of the call's own. -/
import Derived.Test.YtofklfjomofijaaDrwB
import Derived.Laws.OwnMore
namespace Go.Proofs.Ytofklfjomofijaa
open Go.ChangeShapes Go.WideShapes Go.ChangeAt Go.RowKit
set_option linter.unusedVariables false

theorem run_appNs (w : World) (base : Nat) (ty : TypeId) (v : Value) (bs : List Int) (hown : w.ownsRow base 3 1 v bs.length (ncells bs)) (sv : Value) (cs : List Int) (hsrc : Ns w sv cs)
    (hb : bs.length + cs.length ≤ 1099511627776) (hbase : base ≤ w.heap.size) :
    ∃ v' w', (Builtin.append_ #[25, 25] ty #[v, sv]).run Try.prog w = .ok v' w' ∧ w'.ownsRow base 3 1 v' (bs ++ cs).length (ncells (bs ++ cs)) ∧ w.grownBy w' v.ownBlock := by
  obtain ⟨i0, hi, hz0, hz1, hz2⟩ := info_parts infoI
  have hm : maxLen = 9223372036854775807 := rfl
  have e : ncells (bs ++ cs) = ncells bs ++ ncells cs := by simp [ncells]
  obtain ⟨h0, a, cap, rfl, hcap, h⟩ := hsrc
  have go : ∀ ad : Addr, a = some ad → (∀ j u, (ncells cs)[j]? = some u → w.cell? (ad.add j) = some u) → ∃ v' w', (Builtin.append_ #[25, 25] ty #[v, .slice a cs.length cap]).run Try.prog w = .ok v' w' ∧ w'.ownsRow base 3 1 v' (bs ++ cs).length (ncells (bs ++ cs)) ∧ w.grownBy w' v.ownBlock := by
    rintro ad rfl hn
    obtain ⟨v', w', hrun, h1, h2, _⟩ := run_append_own (P := Try.prog) w base 25 ty 3 i0 (.int .i64 0) 1 8 Try.underlying25 hi hz0 hz1 hz2 rfl (by decide) v bs.length (ncells bs) hown ad cs.length cap (ncells cs) (by simp [ncells]) hn (ncells_one _) (by omega) (by omega) hbase
    exact ⟨v', w', hrun, by rw [e, List.length_append]; exact h1, h2⟩
  rcases h with h | ⟨b, off, rfl, hc⟩
  · subst h
    cases a with
    | none =>
      refine ⟨v, w, ?_, by simpa using hown, ⟨rfl, rfl, rfl, Nat.le_refl _, fun _ _ _ => rfl⟩⟩
      rcases hown.2 with ⟨rfl, h1⟩ | ⟨g, cap', cur, rfl, _, _, hnc, _⟩
      · simp [Builtin.append_, run_underlying Try.underlying25, sizeOf, typeInfo, hi, Builtin.lenOf, Builtin.firstCells]
      · simp [Builtin.append_, run_underlying Try.underlying25, sizeOf, typeInfo, hi, Builtin.lenOf, Builtin.firstCells, hnc, storeCells]
    | some ad => exact go ad rfl (fun j u hu => by simp [ncells] at hu)
  · refine go _ rfl fun j u hu => ?_
    have hj : j < cs.length := by
      rcases Nat.lt_or_ge j cs.length with h | h
      · exact h
      · simp [ncells, h] at hu
    have hu' : u = .int .i64 cs[j] := by simp [ncells, hj] at hu; exact hu.symm
    have ea : (⟨b, off, none⟩ : Addr).add j = ⟨b, off + j, none⟩ := by unfold Addr.add; split <;> simp_all
    rw [ea, hu']
    exact hc j hj
/-- The same, as one step of a region that draws. -/
theorem step_appNs {ops : Array Oper} {o : Oper} {a : Act} {w : World} {K : Act → World → Prop} {Q : Exit → Act → World → Prop} {E : Prop}
    (hg : o.guard = none) (s x : Operand) (hop : o.op = .call { callee := .builtin .append, args := #[s, x], argTypes := #[25, 25] })
    (base : Nat) (v : Value) (bs : List Int) (hs : a.eval s = v) (hown : w.ownsRow base 3 1 v bs.length (ncells bs))
    (sv : Value) (cs : List Int) (hx : a.eval x = sv) (hsrc : Ns w sv cs) (hb : bs.length + cs.length ≤ 1099511627776) (hbase : base ≤ w.heap.size)
    (h : ∀ v' w', w'.ownsRow base 3 1 v' (bs ++ cs).length (ncells (bs ++ cs)) → w.grownBy w' v.ownBlock → K (a.put o.dst v') w') :
    if Region.wanted o (yielded ops a.tmps) = true then Oper.wp Try.prog o a w K Q else E := by
  have hw : Region.wanted o (yielded ops a.tmps) = true := by simp [Region.wanted, hg]
  rw [if_pos hw]
  obtain ⟨v', w', hrun, h1, h2⟩ := run_appNs w base o.type v bs hown sv cs hsrc hb hbase
  have h3 := h v' w' h1 h2
  unfold Oper.wp
  simp [execOp, hop, resolve, invoke, builtin, hs, hx, hrun, Result.andThen]
  exact h3
theorem src_grown {w w' : World} {g : Nat} {l : List Value} {row : Option Nat} (h : ∀ j u, l[j]? = some u → w.cell? ((⟨g, 0, none⟩ : Addr).add j) = some u) (hg : w.grownBy w' row) (hn : some g ≠ row) : ∀ j u, l[j]? = some u → w'.cell? ((⟨g, 0, none⟩ : Addr).add j) = some u := fun j u hu => by
  have ea : (⟨g, 0, none⟩ : Addr).add j = ⟨g, j, none⟩ := by unfold Addr.add; split <;> simp_all
  have h1 := h j u hu
  rw [ea] at h1 ⊢
  exact hg.cell h1 hn
theorem src_alloc {w : World} {g : Nat} {l : List Value} (h : ∀ j u, l[j]? = some u → w.cell? ((⟨g, 0, none⟩ : Addr).add j) = some u) (o : Obj) : ∀ j u, l[j]? = some u → (w.alloc o).cell? ((⟨g, 0, none⟩ : Addr).add j) = some u := src_grown (row := none) h (World.grownBy_alloc w o none) (by simp)
theorem rowN_below {w w' : World} {B n : Nat} {v : Value} {l : List Value} (h : w.ownsRow B 3 1 v n l) (hb : Below w.heap.size w w') : w'.ownsRow B 3 1 v n l :=
  h.kept (row := none) ⟨hb.os, hb.tape, hb.output, hb.size, fun k hk _ => hb.block k hk⟩ (by cases v.ownBlock <;> simp)
end Go.Proofs.Ytofklfjomofijaa
