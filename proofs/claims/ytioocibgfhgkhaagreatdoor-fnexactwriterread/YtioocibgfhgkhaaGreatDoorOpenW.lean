/- Writers among a law's arguments. -/
import Derived.Test.YtioocibgfhgkhaaGreatDoorGaD
import Derived.Test.YtioocibgfhgkhaaGreatDoorGw2
import Derived.Deep.Strs
namespace Go.Proofs.YtioocibgfhgkhaaGreatDoor
open Go.ChangeShapes Go.WideShapes Go.ChangeAt Go.RowKit
set_option linter.unusedVariables false
set_option maxRecDepth 100000
variable {H : Type} {enc : TypeId × Value → H} {W : World} {r : Reach} {b0 base : Nat} {held : Bool} {v : Value} {d : DataW H} {p : List MemPlace}

/-- A word of ints. -/
def fitWd (e : Wd) : Prop := allInt e.acks ∧ e.data.size ≤ 9223372036854775807
def okWriter (m : Wt) : Prop := (∀ e ∈ m.words, fitWd e) ∧ -9223372036854775808 ≤ m.epoch ∧ m.epoch ≤ 9223372036854775807
def IsWriter (v : Value) (m : Wt) (w : World) : Prop := RdWriter v m w ∧ okWriter m
theorem txtW_of {m : Wt} (h : okWriter m) : txtW m.words := fun e he => (h.1 e he).2
theorem word_cells {T : TypeId} {n : Nat} {cs : List Value} {x : DataW H × List MemPlace} {f0 f1 f2 : Field} (hu : Tryz.prog.underlying T = some (.struct #[f0, f1, f2])) (hC : Tryz.prog.cellsOf T = 3)
    (q0 : f0.type = 9 ∧ f0.offset = 0) (q1 : f1.type = 22 ∧ f1.offset = 1) (q2 : f2.type = 4 ∧ f2.offset = 2)
    (h : DataW.trod enc Tryz.prog W base (fun _ => true) held n T cs = some x) : ∃ e : Nst Wd, cs = wdCl e ∧ Ns W (Sv Wd.acks e) e.m.acks ∧ fitWd e.m := by
  obtain ⟨y0, y1, y2, n', -, hl, h0, h1, h2⟩ := Go.Deep.trod_struct3 hu h
  rw [hC] at hl
  match cs, hl with
  | [c0, c1, c2], _ =>
    rw [q0.1, q0.2, show Tryz.prog.cellsOf 9 = 1 from by kernel_rfl] at h0
    rw [q1.1, q1.2, show Tryz.prog.cellsOf 22 = 1 from by kernel_rfl] at h1
    rw [q2.1, q2.2, show Tryz.prog.cellsOf 4 = 1 from by kernel_rfl] at h2
    obtain ⟨s0, e0, -, w0⟩ := DataW.trod_string Tryz.underlying9 h0
    obtain ⟨sv, bs, e1, k1, k2⟩ := ints_read h1
    obtain ⟨b2, e2, -⟩ := DataW.trod_bool Tryz.underlying4 h2
    simp at e0 e1 e2
    subst e0 e1 e2
    have k1' := k1
    obtain ⟨-, a, c, rfl, -, -⟩ := k1'
    exact ⟨⟨a, c, s0, bs, b2⟩, rfl, k1, k2, w0⟩
end Go.Proofs.YtioocibgfhgkhaaGreatDoor
