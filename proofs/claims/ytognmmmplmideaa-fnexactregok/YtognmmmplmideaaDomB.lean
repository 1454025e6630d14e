/- spec's NodesOk, l4Has, l4Span. -/
import Derived.Test.YtognmmmplmideaaDomA
import Derived.Test.YtognmmmplmideaaFourP
import Derived.Laws.MakeOwn
import Derived.Laws.AppendOwn
import Derived.OwnWalk
namespace Go.Proofs.Ytognmmmplmideaa
open Go.ChangeShapes Go.WideShapes Go.ChangeAt Go.RowKit
set_option linter.unusedVariables false

/-- Nodes that are right. -/
def nodesP (ds : List Int) (cop : Int) (xs : List Int) : Prop := cfgP ds cop ∧ ascP xs 0 ((ds.length : Int) - 1)
set_option maxHeartbeats 2000000 in
theorem specNodes_any (sv v : Value) (ds xs : List Int) (cop : Int) (w : World) (hd : Ns w sv ds) (hv : Ns w v xs) :
    Calls Try.prog 90 #[.agg #[sv, .int .i64 cop], v] w fun e w' => RetB (nodesP ds cop xs) e ∧ Below w.heap.size w w' := by
  have hb0 : ∀ o, Below w.heap.size w (w.alloc o) := fun o => (Below.refl _ _).alloc (Nat.le_refl _) o
  have C1 := dHide fun o => specCfg_any sv ds cop (w.alloc o) (hd.below (hb0 o))
  have C2 := dHide fun W (hb : Below w.heap.size w W) => l4Asc_any v xs 0 ((ds.length : Int) - 1) W (hv.below hb)
  obtain ⟨h0, a, cap, rfl, -, -⟩ := hd
  obtain ⟨h0', a', cap', rfl, -, -⟩ := hv
  go_enter Try.func90, Try.ntmps90
  go_wp2_with fail
  refine (dUnhide C1 _).mono ?_
  rintro e w1 ⟨⟨b, rfl, hbb⟩, b1⟩
  have B1 := belowThen (hb0 _) b1
  have c0 : w1.cell? ⟨w.heap.size, 0, none⟩ = some (.slice a ds.length cap) := (b1.cell (p := ⟨w.heap.size, 0, none⟩) (by simp)).trans (by simp)
  have c1 : w1.cell? ⟨w.heap.size, 1, none⟩ = some (.int .i64 cop) := (b1.cell (p := ⟨w.heap.size, 1, none⟩) (by simp)).trans (by simp)
  clear b1 hb0 C1
  cases b
  · have hno : Hid (¬ nodesP ds cop xs) := fun h => by have := hbb.2 h.1; cases this
    clear hbb
    go_wp2
    go_ret
    exact ⟨RetB.no (dUnhide hno), B1⟩
  · have hyes := hbb.1 rfl
    have HY := dHide hyes
    clear hbb hyes
    go_wp2_with fail
    refine (dUnhide C2 _ B1).mono ?_
    rintro e w2 ⟨⟨b, rfl, hbb⟩, hdr⟩
    have B2 := belowThen B1 hdr.below
    have R : RetB (nodesP ds cop xs) (.returned (.bool b)) := ⟨b, rfl, fun h => ⟨dUnhide HY, hbb.1 h⟩, fun h => hbb.2 h.2⟩
    clear hbb hdr C2 c0 c1 HY
    cases b
    · go_wp2
      go_ret
      exact ⟨R, B2⟩
    · go_wp2
      go_ret
      exact ⟨R, B2⟩
theorem infoI : (Try.prog.info? 3).map (fun i => (i.zero, i.size, i.bytes)) = some (some (.int .i64 0), 1, 8) := by kernel_rfl
theorem ncells_one (l : List Int) : ∀ u ∈ ncells l, u.oneCell' = true := by
  intro u hu
  simp only [ncells, List.mem_map] at hu
  obtain ⟨c, -, rfl⟩ := hu
  rfl
/-- The kit's law on append, for ints. -/
theorem appN {ops : Array Oper} {rest : List Oper} {o : Oper} {a : Act} {Q : Exit → Act → World → Prop} (w : World) (hgd : o.guard = none) (s x : Operand)
    (ho : o.op = .call { callee := .builtin .append, args := #[s, x], argTypes := #[34, 34] })
    (base : Nat) (v : Value) (bs : List Int) (hs : a.eval s = v) (hown : w.ownsRow base 3 1 v bs.length (ncells bs))
    (ad : Addr) (m c : Nat) (cs : List Int) (hx : a.eval x = .slice (some ad) m c) (hl : cs.length = m) (hnews : ∀ j u, (ncells cs)[j]? = some u → w.cell? (ad.add j) = some u)
    (hb : bs.length + cs.length ≤ 1099511627776) (hbase : base ≤ w.heap.size)
    (h : ∀ v' w', w'.ownsRow base 3 1 v' (bs ++ cs).length (ncells (bs ++ cs)) → w.grownBy w' v.ownBlock → wpList Try.prog ops Q rest (a.put o.dst v') w') : wpList Try.prog ops Q (o :: rest) a w := by
  obtain ⟨i0, hi, hz0, hz1, hz2⟩ := info_parts infoI
  subst hl
  have hm : maxLen = 9223372036854775807 := rfl
  refine wpList_append_own _ hgd s x 34 ho base 3 i0 (.int .i64 0) 1 8 Try.underlying34 hi hz0 hz1 hz2 rfl (by decide) v bs.length (ncells bs) hs hown ad cs.length c (ncells cs) hx (by simp [ncells]) hnews (ncells_one _) (by omega) (by omega) hbase ?_
  intro v' w' h1 h2 _
  refine h v' w' ?_ h2
  have e : ncells (bs ++ cs) = ncells bs ++ ncells cs := by simp [ncells]
  rw [e, List.length_append]; exact h1
/-- A block of one int. -/
theorem one_int (w : World) (c : Int) (T : TypeId) : ∀ j u, (ncells [c])[j]? = some u → (w.alloc (.cells #[.int .i64 c] T)).cell? ((⟨w.heap.size, 0, none⟩ : Addr).add j) = some u := by
  intro j u hj
  match j, hj with
  | 0, hj => simp [ncells] at hj; subst hj; simp [Addr.add]
end Go.Proofs.Ytognmmmplmideaa
