/- The laws' helper sameEntries. -/
import Derived.Test.YtoeamgcoeoaijaaGbE
import Derived.BigQuiet
namespace Go.Proofs.Ytoeamgcoeoaijaa
open Go.ChangeShapes Go.WideShapes Go.ChangeAt Go.RowKit
set_option linter.unusedVariables false
set_option linter.unusedSimpArgs false
set_option maxRecDepth 100000

set_option maxHeartbeats 4000000 in
theorem sameEntries_yes (u v : Value) (es : List Ent) (w : World) (hu : Rw 4 Ent.cl w u es) (hv : Rw 4 Ent.cl w v es) :
    Calls Try.prog 10 #[u, v] w fun r w' => r = .returned (.bool true) ∧ Below w.heap.size w w' := by
  have HU := dHide fun W (hb : Below w.heap.size w W) => hu.below hb
  have HV := dHide fun W (hb : Below w.heap.size w W) => hv.below hb
  obtain ⟨h0, a, cap, rfl, -, -⟩ := hu
  obtain ⟨h0', a', cap', rfl, -, -⟩ := hv
  go_enter Try.func10, Try.ntmps10
  go_wp2
  go_loopw [5] (fun i wr => ∃ k : Nat, i = .int .i64 (k : Int) ∧ k ≤ es.length ∧ Below w.heap.size w wr) (fun i _ => es.length - (intOf i).toNat)
  case atStart => exact ⟨0, rfl, Nat.zero_le _, Below.refl _ _⟩
  case round =>
    obtain ⟨k, rfl, hk, hb⟩ := hrel
    by_cases hlt : (k : Int) < (es.length : Int)
    · have hkl : k < es.length := by omega
      obtain ⟨b, off, rfl, hc⟩ := (dUnhide HU wr hb).ent hkl
      obtain ⟨b', off', rfl, hc'⟩ := (dUnhide HV wr hb).ent hkl
      obtain ⟨c0, c1, c2, c3⟩ := hc k hkl
      obtain ⟨e0, e1, e2, e3⟩ := hc' k hkl
      generalize es[k] = y at *
      obtain ⟨yx, yw, yh, yd⟩ := y
      simp only at *
      clear hc hc' HU HV
      go_wp2_with fail
      go_quiet (fail)
      go_wp2
      go_roundw
      case rel => exact ⟨k + 1, by go_num, by omega, below_drewN hb _⟩
      case measure => simp [intOf]; omega
    · clear HU HV
      go_wp2
      go_ret
      exact ⟨rfl, hb⟩
end Go.Proofs.Ytoeamgcoeoaijaa
