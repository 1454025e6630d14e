/- Several texts in one: CpN, NxV, SmV. -/
import Derived.Test.YthndkkjgjhgdnaaDoorGaB
import Derived.Test.YthndkkjgjhgdnaaDoorEvS
import Derived.BigQuiet
import Derived.Deep.RegionHeld3
import Derived.Deep.DeepCutAuto
namespace Go.Proofs.YthndkkjgjhgdnaaDoor
open Go.ChangeShapes Go.WideShapes Go.ChangeAt Go.RowKit
set_option linter.unnecessarySimpa false
set_option linter.unusedVariables false
set_option linter.unusedSimpArgs false
set_option maxRecDepth 100000

theorem elemN : Elem (α := Int) 3 24 (.int .i64 0) 1 8 (fun x => [.int .i64 x]) where
  under := Tryd.underlying24
  info := by kernel_rfl
  zcells := by kernel_rfl
  pos := by decide
  len := fun _ => rfl
  one := fun a u hu => by simp at hu; subst hu; rfl
theorem Ns.rw1 {w : World} {v : Value} {xs : List Int} (h : Ns w v xs) : Rw 1 (fun x => [.int .i64 x]) w v xs := by
  obtain ⟨h0, a, cap, rfl, hcap, h⟩ := h
  refine ⟨h0, a, cap, rfl, hcap, ?_⟩
  rcases h with h | ⟨b, off, rfl, hc⟩
  · exact .inl h
  · refine .inr ⟨b, off, rfl, fun i hi j u hu => ?_⟩
    cases j with
    | zero => simp at hu; subst hu; simpa using hc i hi
    | succ j => simp at hu
theorem OwnRw.n1 {w : World} {base : Nat} {v : Value} {xs : List Int} (h : OwnRw 1 (fun x => [.int .i64 x]) w base v xs) : OwnN w base v xs := by
  obtain ⟨h0, a, cap, rfl, hcap, h⟩ := h
  refine ⟨h0, a, cap, rfl, hcap, ?_⟩
  rcases h with h | ⟨b, off, rfl, hb, hc⟩
  · exact .inl h
  · exact .inr ⟨b, off, rfl, hb, fun i hi => by simpa using hc i hi 0 _ rfl⟩
/-- A copy of ints by append. -/
theorem run_cpN {w : World} (ty : TypeId) (a0 : Option Addr) (sv : Value) (xs : List Int) (hsrc : Ns w sv xs) (hb : xs.length ≤ 1099511627776) :
    ∃ v' w', (Builtin.append_ #[24, 24] ty #[.slice a0 0 0, sv]).run Tryd.prog w = .ok v' w' ∧ OwnN w' w.heap.size v' xs ∧ Below w.heap.size w w' := by
  obtain ⟨v', w', h1, h2, h3⟩ := run_cpR elemN ty a0 sv hsrc.rw1 (by omega)
  exact ⟨v', w', h1, (ApR.own elemN h2).n1, h3⟩
theorem wp_cpN {w : World} {ops : Array Oper} {rest : List Oper} {o : Oper} {a : Act} {Q : Exit → Act → World → Prop} (hgd : o.guard = none) (s x : Operand) (ho : o.op = .call { callee := .builtin .append, args := #[s, x], argTypes := #[24, 24] })
    (a0 : Option Addr) (hs : a.eval s = .slice a0 0 0) (sv : Value) (xs : List Int) (hx : a.eval x = sv) (hsrc : Ns w sv xs) (hb : xs.length ≤ 1099511627776)
    (h : ∀ v' w', OwnN w' w.heap.size v' xs → Below w.heap.size w w' → wpList Tryd.prog ops Q rest (a.put o.dst v') w') : wpList Tryd.prog ops Q (o :: rest) a w := by
  refine wpList_plain hgd fun K' hK' => ?_
  obtain ⟨v', w', hrun, h1, h2⟩ := run_cpN o.type a0 sv xs hsrc hb
  unfold Oper.wp
  simp [execOp, ho, resolve, invoke, builtin, hs, hx, hrun, Result.andThen]
  exact hK' _ _ (h v' w' h1 h2)
theorem step_cpN {w : World} {ops : Array Oper} {o : Oper} {a : Act} {Q : Exit → Act → World → Prop} {K : Act → World → Prop} {F : Prop} (hg : o.guard = none) (s x : Operand) (hop : o.op = .call { callee := .builtin .append, args := #[s, x], argTypes := #[24, 24] })
    (a0 : Option Addr) (hs : a.eval s = .slice a0 0 0) (sv : Value) (xs : List Int) (hx : a.eval x = sv) (hsrc : Ns w sv xs) (hb : xs.length ≤ 1099511627776)
    (h : ∀ v' w', OwnN w' w.heap.size v' xs → Below w.heap.size w w' → K (a.put o.dst v') w') :
    if Region.wanted o (yielded ops a.tmps) = true then Oper.wp Tryd.prog o a w K Q else F :=
  step_cpR elemN hg s x hop a0 hs sv xs hx hsrc.rw1 (by omega) fun v' w' h1 h2 => h v' w' (ApR.own elemN h1).n1 h2
theorem OwnN.grown {w w' : World} {base : Nat} {v : Value} {xs : List Int} {row : Option Nat} (h : OwnN w base v xs) (g : w.grownBy w' row) (hn : xs = [] ∨ row ≠ some (blockOf v)) : OwnN w' base v xs := by
  have hlt := h.bs.lt
  obtain ⟨h0, a, cap, rfl, hcap, h⟩ := h
  refine ⟨h0, a, cap, rfl, hcap, ?_⟩
  rcases hn with hn | hn
  · exact .inl hn
  · rcases h with h | ⟨b, off, rfl, hb, hc⟩
    · exact .inl h
    · rcases hlt with hlt | hlt
      · exact .inl hlt
      · have e := g.block b hlt (fun e => hn e.symm)
        exact .inr ⟨b, off, rfl, hb, fun i hi => ⟨(World.cell?_of_block (a := ⟨b, off + i, none⟩) e).trans (hc i hi).1, (World.frozen?_of_block (a := ⟨b, off + i, none⟩) e).trans (hc i hi).2⟩⟩
end Go.Proofs.YthndkkjgjhgdnaaDoor
namespace Go.Proofs.YthndkkjgjhgdnaaDoor
open Go.ChangeShapes Go.WideShapes Go.ChangeAt Go.RowKit
set_option linter.unusedVariables false
set_option maxRecDepth 100000

/-- Events that may be appended to. -/
def ApV (w : World) (base : Nat) (v : Value) (ms : List Ev) : Prop := ApR 68 3 Ev.cl w base v ms
/-- A new block of one event. -/
theorem rwV_one (w : World) (e : Ev) (T : TypeId) (c : Nat) (hc : 1 ≤ c ∧ c ≤ 9223372036854775807) : Rw 3 Ev.cl (w.alloc (.cells #[.int .i64 e.kind, .int .i64 e.pl, .string e.data] T)) (.slice (some ⟨w.heap.size, 0, none⟩) 1 c) [e] := by
  refine ⟨by simp, _, _, rfl, by simpa using hc, .inr ⟨w.heap.size, 0, rfl, fun i hi j u hu => ?_⟩⟩
  obtain rfl : i = 0 := by simp at hi; omega
  simp only [List.getElem_cons_zero, Ev.cl] at hu
  simpa using hu
end Go.Proofs.YthndkkjgjhgdnaaDoor
namespace Go.Proofs.YthndkkjgjhgdnaaDoor
open Go.ChangeShapes Go.WideShapes Go.ChangeAt Go.RowKit
set_option linter.unusedVariables false
set_option linter.unusedSimpArgs false
set_option maxRecDepth 100000

theorem sameEvents_any (u v : Value) (es : List Ev) (w : World) (hu : RdEventS u es w) (hv : RdEventS v es w) :
    Calls Tryd.prog 17 #[u, v] w fun e w' => e = .returned (.bool true) ∧ Below w.heap.size w w' := by
  obtain ⟨ua, uc, rfl, hl⟩ := formEventS hu
  obtain ⟨va, vc, rfl, -⟩ := formEventS hv
  have HU := dHide fun W (hb : Below w.heap.size w W) => hu.below hb
  have HV := dHide fun W (hb : Below w.heap.size w W) => hv.below hb
  have hne : ((es.length : Int) != (es.length : Int)) = false := by simp
  clear hu hv
  go_enter Tryd.func17, Tryd.ntmps17
  go_wp2
  go_loopw [5] (fun xv wr => ∃ k : Nat, xv = .int .i64 (k : Int) ∧ k ≤ es.length ∧ Below w.heap.size w wr) (fun xv _ => es.length - (intOf xv).toNat)
  case atStart => exact ⟨0, rfl, Nat.zero_le _, Below.refl _ _⟩
  case round =>
    obtain ⟨k, rfl, hk, hb⟩ := hrel
    by_cases hlt : (k : Int) < (es.length : Int)
    · have hkl : k < es.length := by omega
      obtain ⟨b1, o1, rfl, h1⟩ := Rw.atEv (dUnhide HU wr hb) hkl
      obtain ⟨b2, o2, rfl, h2⟩ := Rw.atEv (dUnhide HV wr hb) hkl
      obtain ⟨s0, s1, s2⟩ := h1 k hkl
      obtain ⟨t0, t1, t2⟩ := h2 k hkl
      clear h1 h2
      generalize es[k] = y at *
      obtain ⟨y0, y1, y2⟩ := y
      simp only at s0 s1 s2 t0 t1 t2
      go_wp2
      go_quiet (fail)
      go_wp2
      go_roundw
      case rel => exact ⟨k + 1, by go_num, by omega, below_drewN hb _⟩
      case measure => simp [intOf]; omega
    · go_wp2
      go_ret
      exact ⟨rfl, hb⟩
end Go.Proofs.YthndkkjgjhgdnaaDoor
