/- Registers among a law's arguments. -/
import Derived.Test.YthndkkjgjhgdnaaDoorGaD
import Derived.Test.YthndkkjgjhgdnaaDoorRgA
import Derived.Deep.Strs
namespace Go.Proofs.YthndkkjgjhgdnaaDoor
open Go.ChangeShapes Go.WideShapes Go.ChangeAt Go.RowKit
set_option linter.unusedVariables false
set_option maxRecDepth 100000
variable {H : Type} {enc : TypeId × Value → H} {W : World} {r : Reach} {b0 base : Nat} {held : Bool} {v : Value} {d : DataW H} {p : List MemPlace}

/-- An era of ints. -/
def fitEr (e : Er) : Prop := allInt e.nodes ∧ -9223372036854775808 ≤ e.last ∧ e.last ≤ 9223372036854775807
def okRegister (m : Rg) : Prop := (∀ e ∈ m.eras, fitEr e) ∧ -9223372036854775808 ≤ m.trim ∧ m.trim ≤ 9223372036854775807
def IsRegister (v : Value) (m : Rg) (w : World) : Prop := RdRegister v m w ∧ okRegister m
theorem era_cells {T : TypeId} {n : Nat} {cs : List Value} {x : DataW H × List MemPlace} {f0 f1 f2 : Field} (hu : Tryd.prog.underlying T = some (.struct #[f0, f1, f2])) (hC : Tryd.prog.cellsOf T = 3)
    (q0 : f0.type = 24 ∧ f0.offset = 0) (q1 : f1.type = 4 ∧ f1.offset = 1) (q2 : f2.type = 3 ∧ f2.offset = 2)
    (h : DataW.trod enc Tryd.prog W base (fun _ => true) held n T cs = some x) : ∃ e : Nst Er, cs = erCl e ∧ Ns W (Sv Er.nodes e) e.m.nodes ∧ fitEr e.m := by
  obtain ⟨y0, y1, y2, n', -, hl, h0, h1, h2⟩ := Go.Deep.trod_struct3 hu h
  rw [hC] at hl
  match cs, hl with
  | [c0, c1, c2], _ =>
    rw [q0.1, q0.2, show Tryd.prog.cellsOf 24 = 1 from by kernel_rfl] at h0
    rw [q1.1, q1.2, show Tryd.prog.cellsOf 4 = 1 from by kernel_rfl] at h1
    rw [q2.1, q2.2, show Tryd.prog.cellsOf 3 = 1 from by kernel_rfl] at h2
    obtain ⟨sv, bs, e0, k1, k2⟩ := ints_read h0
    obtain ⟨b1, e1, -⟩ := DataW.trod_bool Tryd.underlying4 h1
    obtain ⟨n2, e2, -, w2⟩ := DataW.trod_int Tryd.underlying3 h2
    simp at e0 e1 e2
    subst e0 e1 e2
    have k1' := k1
    obtain ⟨-, a, c, rfl, -, -⟩ := k1'
    exact ⟨⟨a, c, bs, b1, n2⟩, rfl, k1, k2, (bounds_i64 w2).1, (bounds_i64 w2).2⟩
end Go.Proofs.YthndkkjgjhgdnaaDoor
