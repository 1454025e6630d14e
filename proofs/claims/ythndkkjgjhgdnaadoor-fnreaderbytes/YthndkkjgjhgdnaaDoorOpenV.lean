/- Readers among a law's arguments. -/
import Derived.Test.YthndkkjgjhgdnaaDoorGaD
import Derived.Test.YthndkkjgjhgdnaaDoorRdS
namespace Go.Proofs.YthndkkjgjhgdnaaDoor
open Go.ChangeShapes Go.WideShapes Go.ChangeAt Go.RowKit
set_option linter.unusedVariables false
set_option linter.unusedSimpArgs false
set_option maxRecDepth 100000
variable {H : Type} {enc : TypeId × Value → H} {W : World} {r : Reach} {b0 base : Nat} {held : Bool} {v : Value} {d : DataW H} {p : List MemPlace}

/-- An event of ints. -/
def fitEv (e : Ev) : Prop := (-9223372036854775808 ≤ e.kind ∧ e.kind ≤ 9223372036854775807) ∧ (-9223372036854775808 ≤ e.pl ∧ e.pl ≤ 9223372036854775807) ∧ e.data.size ≤ 9223372036854775807
def okReader (m : Rr) : Prop := okInt m.epoch ∧ okInt m.off ∧ ∀ e ∈ m.out, fitEv e
def IsReader (v : Value) (m : Rr) (w : World) : Prop := RdReader v m w ∧ okReader m
theorem txtR_of {m : Rr} (h : okReader m) : txtEv m.out := fun e he => (h.2.2 e he).2.2
theorem ev_cells {T : TypeId} {n : Nat} {cs : List Value} {x : DataW H × List MemPlace} {f0 f1 f2 : Field} (hu : Tryd.prog.underlying T = some (.struct #[f0, f1, f2])) (hC : Tryd.prog.cellsOf T = 3)
    (q0 : f0.type = 3 ∧ f0.offset = 0) (q1 : f1.type = 3 ∧ f1.offset = 1) (q2 : f2.type = 9 ∧ f2.offset = 2)
    (h : DataW.trod enc Tryd.prog W base (fun _ => true) held n T cs = some x) : ∃ e : Ev, cs = e.cl ∧ fitEv e := by
  obtain ⟨xs, n', _, rfl, hl, hlen, hf⟩ := DataW.trod_struct hu h
  rw [hC] at hl
  match cs, hl, xs, hlen with
  | [c0, c1, c2], _, [y0, y1, y2], _ =>
    have h0 := hf 0 f0 rfl
    have h1 := hf 1 f1 rfl
    have h2 := hf 2 f2 rfl
    rw [q0.1, q0.2, show Tryd.prog.cellsOf 3 = 1 from by kernel_rfl] at h0
    rw [q1.1, q1.2, show Tryd.prog.cellsOf 3 = 1 from by kernel_rfl] at h1
    rw [q2.1, q2.2, show Tryd.prog.cellsOf 9 = 1 from by kernel_rfl] at h2
    simp at h0 h1 h2
    obtain ⟨n0, e0, -, w0⟩ := DataW.trod_int Tryd.underlying3 h0
    obtain ⟨n1, e1, -, w1⟩ := DataW.trod_int Tryd.underlying3 h1
    obtain ⟨s2, e2, -, w2⟩ := DataW.trod_string Tryd.underlying9 h2
    simp at e0 e1 e2
    subst e0 e1 e2
    exact ⟨⟨n0, n1, s2⟩, rfl, bounds_i64 w0, bounds_i64 w1, w2⟩
end Go.Proofs.YthndkkjgjhgdnaaDoor
