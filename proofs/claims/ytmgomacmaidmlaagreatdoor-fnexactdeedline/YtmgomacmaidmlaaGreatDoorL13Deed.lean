/- FnExactDeedOk: both answers, and the law's walk. -/
import Derived.Test.YtmgomacmaidmlaaGreatDoorDeC
import Derived.Test.YtmgomacmaidmlaaGreatDoorFourP
import Derived.Test.YtmgomacmaidmlaaGreatDoorOpenA
import Derived.Test.YtmgomacmaidmlaaGreatDoorOpenF
import Derived.Deep.DeepCutAuto
namespace Go.Proofs.YtmgomacmaidmlaaGreatDoor
open Go.ChangeShapes Go.WideShapes Go.ChangeAt Go.RowKit
set_option linter.unusedVariables false
set_option linter.unusedSimpArgs false
set_option maxRecDepth 100000

/-- A deed that came in. -/
def De.fits (d : De) : Prop := d.t.size ≤ 9223372036854775807
theorem deedOk_both (d : De) (hf : d.fits) : ∃ b : Bool, (∀ w, Calls Tryz.prog 8 #[d.val] w fun r w' => r = .returned (.bool b) ∧ Below w.heap.size w w') ∧ (∀ w, Calls Tryz.prog 15 #[d.val] w fun r w' => r = .returned (.bool b) ∧ Below w.heap.size w w') := by
  by_cases h1 : d.k < 1
  · exact ⟨false, fun w => specDeedOk_out d w (by omega), fun w => implDeedOk_low d w hf h1⟩
  · by_cases h2 : 16 < d.k
    · exact ⟨false, fun w => specDeedOk_out d w (by omega), fun w => implDeedOk_high d w hf h1 h2⟩
    · have hr : 1 ≤ d.k ∧ d.k ≤ 16 := by omega
      by_cases h3 : d.t.size ≤ 40
      · by_cases h4 : d = keepD (nm d.k) d
        · exact ⟨true, fun w => specDeedOk_ok d w hr h4 h3, fun w => implDeedOk_ok d w hf hr h3 ((keep_drop _ d).1 h4)⟩
        · exact ⟨false, fun w => specDeedOk_ne d w hr h4, fun w => implDeedOk_ne d w hf hr h3 fun e => h4 ((keep_drop _ d).2 e)⟩
      · refine ⟨false, fun w => ?_, fun w => implDeedOk_long d w hf h1 h2 h3⟩
        by_cases h4 : d = keepD (nm d.k) d
        · exact specDeedOk_long d w hr h4 h3 hf
        · exact specDeedOk_ne d w hr h4
theorem toDeed_any (d : De) (w : World) :
    Calls Tryz.prog 6 #[d.val] w fun r w' => r = .returned d.val ∧ Below w.heap.size w w' := by
  obtain ⟨k, a, b, c, t⟩ := d
  unfold De.val
  go_enter Tryz.func6, Tryz.ntmps6
  go_wp2
  go_returns
  exact ⟨rfl, by go_grown⟩
theorem szDeed_any (d : De) (left : Int) (l0 : 0 ≤ left) (l1 : left ≤ 1048576) (hs : d.t.size ≤ 9223372036854775807) (w : World) :
    Calls Tryz.prog 4 #[d.val, .int .i64 left] w fun r w' => r = .returned (.int .i64 (if left < (d.t.size : Int) then -1 else left - (d.t.size : Int))) ∧ Below w.heap.size w w' := by
  obtain ⟨k, a, b, c, t⟩ := d
  unfold De.val
  simp only at *
  by_cases hd : left < (t.size : Int)
  · rw [if_pos hd]
    have hd' : left - (t.size : Int) < 0 := by omega
    go_enter Tryz.func4, Tryz.ntmps4
    go_wp2
    go_returns
    exact ⟨rfl, by go_grown⟩
  · rw [if_neg hd]
    have hd' : ¬ (left - (t.size : Int) < 0) := by omega
    go_enter Tryz.func4, Tryz.ntmps4
    go_wp2
    go_returns
    exact ⟨rfl, by go_grown⟩
section
variable {H : Type} {enc : TypeId × Value → H} {W : World} {r : Reach} {b0 base : Nat} {sp : Nat → Bool} {held : Bool} {v : Value} {d : DataW H} {p : List MemPlace}
theorem open_Deed (hv : Value.okWide Tryz.prog W r b0 23 v) (h : DataW.Trod enc Tryz.prog W base sp held 23 v d p) : ∃ e : De, v = e.val ∧ e.fits := by
  obtain ⟨v0, v1, v2, v3, v4, y0, y1, y2, y3, y4, n, rfl, h0, h1, h2, h3, h4⟩ := open_agg5 Tryz.underlying23 (by kernel_rfl) (by kernel_rfl) hv h
  obtain ⟨n0, e0, -, w0⟩ := DataW.trod_int Tryz.underlying3 h0
  obtain ⟨n1, e1, -, w1⟩ := DataW.trod_int Tryz.underlying3 h1
  obtain ⟨n2, e2, -, w2⟩ := DataW.trod_int Tryz.underlying3 h2
  obtain ⟨n3, e3, -, w3⟩ := DataW.trod_int Tryz.underlying3 h3
  obtain ⟨s4, e4, -, w4⟩ := DataW.trod_string Tryz.underlying9 h4
  cases e0; cases e1; cases e2; cases e3; cases e4
  exact ⟨⟨n0, n1, n2, n3, s4⟩, rfl, w4⟩
end
end Go.Proofs.YtmgomacmaidmlaaGreatDoor
