/- Several texts in one: OpenV, RdO. -/
import Derived.Test.YthndkkjgjhgdnaaDoorGaD
import Derived.Test.YthndkkjgjhgdnaaDoorRdS
import Derived.Test.YthndkkjgjhgdnaaDoorGk12
namespace Go.Proofs.YthndkkjgjhgdnaaDoor
open Go.ChangeShapes Go.WideShapes Go.ChangeAt Go.RowKit
set_option linter.unusedVariables false
set_option linter.unusedSimpArgs false
set_option maxRecDepth 100000
variable {H : Type} {enc : TypeId × Value → H} {W : World} {r : Reach} {b0 base : Nat} {held : Bool} {v : Value} {d : DataW H} {p : List MemPlace}

/-- An event of ints. -/
def fitEv (e : Ev) : Prop := (-9223372036854775808 ≤ e.kind ∧ e.kind ≤ 9223372036854775807) ∧ (-9223372036854775808 ≤ e.pl ∧ e.pl ≤ 9223372036854775807) ∧ e.data.size ≤ 9223372036854775807
def okReader (m : Rr) : Prop := okInt m.epoch ∧ okInt m.off ∧ ∀ e ∈ m.out, fitEv e
def IsReader (v : Value) (m : Rr) (w : World) : Prop := RdReader v m w ∧ okReader m
theorem txtR_of {m : Rr} (h : okReader m) : txtEv m.out := fun e he => (h.2.2 e he).2.2
theorem ev_cells {T : TypeId} {n : Nat} {cs : List Value} {x : DataW H × List MemPlace} {f0 f1 f2 : Field} (hu : Tryd.prog.underlying T = some (.struct #[f0, f1, f2])) (hC : Tryd.prog.cellsOf T = 3)
    (q0 : f0.type = 3 ∧ f0.offset = 0) (q1 : f1.type = 3 ∧ f1.offset = 1) (q2 : f2.type = 9 ∧ f2.offset = 2)
    (h : DataW.trod enc Tryd.prog W base (fun _ => true) held n T cs = some x) : ∃ e : Ev, cs = e.cl ∧ fitEv e := by
  obtain ⟨xs, n', _, rfl, hl, hlen, hf⟩ := DataW.trod_struct hu h
  rw [hC] at hl
  match cs, hl, xs, hlen with
  | [c0, c1, c2], _, [y0, y1, y2], _ =>
    have h0 := hf 0 f0 rfl
    have h1 := hf 1 f1 rfl
    have h2 := hf 2 f2 rfl
    rw [q0.1, q0.2, show Tryd.prog.cellsOf 3 = 1 from by kernel_rfl] at h0
    rw [q1.1, q1.2, show Tryd.prog.cellsOf 3 = 1 from by kernel_rfl] at h1
    rw [q2.1, q2.2, show Tryd.prog.cellsOf 9 = 1 from by kernel_rfl] at h2
    simp at h0 h1 h2
    obtain ⟨n0, e0, -, w0⟩ := DataW.trod_int Tryd.underlying3 h0
    obtain ⟨n1, e1, -, w1⟩ := DataW.trod_int Tryd.underlying3 h1
    obtain ⟨s2, e2, -, w2⟩ := DataW.trod_string Tryd.underlying9 h2
    simp at e0 e1 e2
    subst e0 e1 e2
    exact ⟨⟨n0, n1, s2⟩, rfl, bounds_i64 w0, bounds_i64 w1, w2⟩
end Go.Proofs.YthndkkjgjhgdnaaDoor
namespace Go.Proofs.YthndkkjgjhgdnaaDoor
open Go.ChangeShapes Go.WideShapes Go.ChangeAt Go.RowKit
set_option linter.unusedVariables false
set_option linter.unusedSimpArgs false
set_option maxRecDepth 100000

/-- A reader that is right. -/
def rrP (r : Rr) : Prop := (1 ≤ r.epoch ∧ r.epoch ≤ 31) ∧ (1 ≤ r.off ∧ r.off ≤ 61) ∧ r.out.length ≤ 120
theorem specReaderOk_any (v : Value) (m : Rr) (w : World) (hv : RdReader v m w) :
    Calls Tryd.prog 60 #[v] w fun e w' => RetB (rrP m) e ∧ Below w.heap.size w w' := by
  have ba : ∀ (w : World) o, Below w.heap.size w (w.alloc o) := fun w o => (Below.refl _ _).alloc (Nat.le_refl _) o
  obtain ⟨a, cap, rfl, hle⟩ := formReader hv
  have C1 := dHide fun W => l1In_any m.epoch 1 31 W
  have C2 := dHide fun W => l1In_any m.off 1 61 W
  have PD : Hid (rrP m ↔ (1 ≤ m.epoch ∧ m.epoch ≤ 31) ∧ (1 ≤ m.off ∧ m.off ≤ 61) ∧ m.out.length ≤ 120) := Iff.rfl
  generalize rrP m = P at *
  generalize m.epoch = y0 at *
  generalize m.off = y1 at *
  generalize m.out.length = n at *
  clear hv
  go_enter Tryd.func60, Tryd.ntmps60
  go_wp2_with fail
  refine (dUnhide C1 _).mono ?_
  rintro e w1 ⟨⟨b1, rfl, h1⟩, rfl⟩
  clear C1
  cases b1
  · have R : RetB P (.returned (.bool false)) := RetB.no fun h => by have := h1.2 ((dUnhide PD).1 h).1; cases this
    clear h1
    go_wp2
    go_ret
    exact ⟨R, ba _ _⟩
  have H1 := dHide (h1.1 rfl)
  clear h1
  go_wp2_with fail
  refine (dUnhide C2 _).mono ?_
  rintro e w1 ⟨⟨b1, rfl, h1⟩, rfl⟩
  clear C2
  cases b1
  · have R : RetB P (.returned (.bool false)) := RetB.no fun h => by have := h1.2 ((dUnhide PD).1 h).2.1; cases this
    clear h1
    go_wp2
    go_ret
    exact ⟨R, ba _ _⟩
  have H2 := dHide (h1.1 rfl)
  clear h1
  by_cases hn : (n : Int) ≤ 120
  · have R : RetB P (.returned (.bool true)) := RetB.yes ((dUnhide PD).2 ⟨dUnhide H1, dUnhide H2, by omega⟩)
    clear PD H1 H2
    go_wp2
    go_ret
    exact ⟨by simpa [hn] using R, ba _ _⟩
  · have R : RetB P (.returned (.bool false)) := RetB.no fun h => by have := ((dUnhide PD).1 h).2.2; omega
    clear PD H1 H2
    go_wp2
    go_ret
    refine ⟨?_, ba _ _⟩
    show RetB P (.returned (.bool (decide ((n : Int) ≤ 120))))
    rw [decide_eq_false (by omega)]
    exact R
set_option maxHeartbeats 2000000 in
theorem implReaderOk_any (v : Value) (m : Rr) (w : World) (hv : RdReader v m w) :
    Calls Tryd.prog 54 #[v] w fun e w' => RetB (rrP m) e ∧ Below w.heap.size w w' := by
  have ba : ∀ (w : World) o, Below w.heap.size w (w.alloc o) := fun w o => (Below.refl _ _).alloc (Nat.le_refl _) o
  obtain ⟨a, cap, rfl, hle⟩ := formReader hv
  have PD : Hid (rrP m ↔ (1 ≤ m.epoch ∧ m.epoch ≤ 31) ∧ (1 ≤ m.off ∧ m.off ≤ 61) ∧ m.out.length ≤ 120) := Iff.rfl
  generalize rrP m = P at *
  generalize m.epoch = y0 at *
  generalize m.off = y1 at *
  generalize m.out.length = n at *
  clear hv
  by_cases h1 : y0 < 1
  · have R : RetB P (.returned (.bool false)) := RetB.no fun h => by have := (dUnhide PD).1 h; omega
    clear PD
    go_enter Tryd.func54, Tryd.ntmps54
    go_wp2
    go_ret
    exact ⟨R, ba _ _⟩
  by_cases h2 : 31 < y0
  · have R : RetB P (.returned (.bool false)) := RetB.no fun h => by have := (dUnhide PD).1 h; omega
    clear PD
    go_enter Tryd.func54, Tryd.ntmps54
    go_wp2
    go_ret
    exact ⟨R, ba _ _⟩
  by_cases h3 : y1 < 1
  · have R : RetB P (.returned (.bool false)) := RetB.no fun h => by have := (dUnhide PD).1 h; omega
    clear PD
    go_enter Tryd.func54, Tryd.ntmps54
    go_wp2
    go_ret
    exact ⟨R, ba _ _⟩
  by_cases h4 : 61 < y1
  · have R : RetB P (.returned (.bool false)) := RetB.no fun h => by have := (dUnhide PD).1 h; omega
    clear PD
    go_enter Tryd.func54, Tryd.ntmps54
    go_wp2
    go_ret
    exact ⟨R, ba _ _⟩
  have R : RetB P (.returned (.bool (decide ((n : Int) ≤ 120)))) := by
    by_cases h5 : (n : Int) ≤ 120
    · rw [decide_eq_true h5]
      exact RetB.yes ((dUnhide PD).2 ⟨by omega, by omega, by omega⟩)
    · rw [decide_eq_false h5]
      exact RetB.no fun h => by have := (dUnhide PD).1 h; omega
  clear PD
  go_enter Tryd.func54, Tryd.ntmps54
  go_wp2
  go_ret
  exact ⟨R, ba _ _⟩
theorem bothReaderOk_ (m0 : Rr) (ok0 : okReader m0) (hs0 : sizReader m0 ≤ 1048576) : ∃ (s0 : Bool), (∀ W v0, RdReader v0 m0 W → Calls Tryd.prog 60 #[v0] W fun e w' => e = .returned (.bool s0) ∧ Below W.heap.size W w') ∧ (∀ W v0, RdReader v0 m0 W → Calls Tryd.prog 54 #[v0] W fun e w' => e = .returned (.bool s0) ∧ Below W.heap.size W w') := by
  by_cases h : rrP m0
  · exact ⟨true, fun W v0 h0 => retB_yes (specReaderOk_any v0 m0 W h0) h, fun W v0 h0 => retB_yes (implReaderOk_any v0 m0 W h0) h⟩
  · exact ⟨false, fun W v0 h0 => retB_no (specReaderOk_any v0 m0 W h0) h, fun W v0 h0 => retB_no (implReaderOk_any v0 m0 W h0) h⟩
theorem sitsNew {w w' : World} (b : Below w.heap.size w w') : Sits (OwReader w.heap.size w'.heap.size (.agg #[.int .i64 1, .int .i64 1, .slice none 0 0]) ⟨1, 1, []⟩) w.heap.size w'.heap.size w' := OwReader.sits ⟨_, rfl, ⟨OwnRw.nil _ _ _ _ (by omega), .inl rfl⟩⟩ (Nat.le_refl _)
end Go.Proofs.YthndkkjgjhgdnaaDoor
