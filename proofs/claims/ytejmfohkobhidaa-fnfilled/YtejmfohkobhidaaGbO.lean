/- Several texts in one: EntO, OpenE. -/
import Derived.Test.YtejmfohkobhidaaGaD
import Derived.Test.YtejmfohkobhidaaGbE
import Derived.Test.YtejmfohkobhidaaGbF
namespace Go.Proofs.Ytejmfohkobhidaa
open Go.ChangeShapes Go.WideShapes Go.ChangeAt Go.RowKit
set_option maxRecDepth 100000
variable {H : Type} {enc : TypeId × Value → H} {W : World} {r : Reach} {b0 base : Nat} {sp : Nat → Bool} {held : Bool} {v : Value} {d : DataW H} {p : List MemPlace}

end Go.Proofs.Ytejmfohkobhidaa
namespace Go.Proofs.Ytejmfohkobhidaa
open Go.ChangeShapes Go.WideShapes Go.ChangeAt Go.RowKit
set_option linter.unusedVariables false
set_option maxRecDepth 100000
variable {H : Type} {enc : TypeId × Value → H} {W : World} {r : Reach} {b0 base : Nat} {sp : Nat → Bool} {held : Bool} {v : Value} {d : DataW H} {p : List MemPlace}

/-- Entries as the frame tells them. -/
theorem ent_cells {T : TypeId} {n : Nat} {cs : List Value} {x : DataW H × List MemPlace} {f0 f1 f2 f3 : Field} (hu : Try.prog.underlying T = some (.struct #[f0, f1, f2, f3])) (hC : Try.prog.cellsOf T = 4)
    (q0 : f0.type = 3 ∧ f0.offset = 0) (q1 : f1.type = 3 ∧ f1.offset = 1) (q2 : f2.type = 4 ∧ f2.offset = 2) (q3 : f3.type = 9 ∧ f3.offset = 3)
    (h : DataW.trod enc Try.prog W base sp held n T cs = some x) : ∃ e : Ent, cs = e.cl ∧ e.fits := by
  obtain ⟨y0, y1, y2, y3, n', -, hl, h0, h1, h2, h3⟩ := Go.Joins.trod_struct4 hu h
  rw [hC] at hl
  match cs, hl with
  | [c0, c1, c2, c3], _ =>
    rw [q0.1, q0.2, show Try.prog.cellsOf 3 = 1 from by kernel_rfl] at h0
    rw [q1.1, q1.2, show Try.prog.cellsOf 3 = 1 from by kernel_rfl] at h1
    rw [q2.1, q2.2, show Try.prog.cellsOf 4 = 1 from by kernel_rfl] at h2
    rw [q3.1, q3.2, show Try.prog.cellsOf 9 = 1 from by kernel_rfl] at h3
    obtain ⟨n0, e0, -, w0⟩ := DataW.trod_int Try.underlying3 h0
    obtain ⟨n1, e1, -, w1⟩ := DataW.trod_int Try.underlying3 h1
    obtain ⟨b2, e2, -⟩ := DataW.trod_bool Try.underlying4 h2
    obtain ⟨s3, e3, -, w3⟩ := DataW.trod_string Try.underlying9 h3
    simp at e0 e1 e2 e3
    subst e0 e1 e2 e3
    exact ⟨⟨n0, n1, b2, s3⟩, rfl, (bounds_i64 w0).1, (bounds_i64 w0).2, (bounds_i64 w1).1, (bounds_i64 w1).2, w3⟩
end Go.Proofs.Ytejmfohkobhidaa
