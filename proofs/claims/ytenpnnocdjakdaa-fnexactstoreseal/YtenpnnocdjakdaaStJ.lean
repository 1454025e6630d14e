/- The laws' helpers on slices of entries: eqEntryS. -/
import Derived.Test.YtenpnnocdjakdaaBuD
import Derived.Deep.RegionHeld3
namespace Go.Proofs.Ytenpnnocdjakdaa
open Go.ChangeShapes Go.WideShapes Go.ChangeAt Go.RowKit
set_option linter.unusedVariables false
set_option linter.unusedSimpArgs false
set_option maxRecDepth 100000

set_option maxHeartbeats 4000000 in
theorem eqEntryS_yes (u v : Value) (es : List Ent) (w : World) (hu : Rw 4 Ent.cl w u es) (hv : Rw 4 Ent.cl w v es) :
    Calls Try.prog 53 #[u, v] w fun r w' => r = .returned (.bool true) ∧ Below w.heap.size w w' := by
  have HU := dHide fun W (hb : Below w.heap.size w W) => hu.below hb
  have HV := dHide fun W (hb : Below w.heap.size w W) => hv.below hb
  obtain ⟨h0, a, cap, rfl, -, -⟩ := hu
  obtain ⟨h0', a', cap', rfl, -, -⟩ := hv
  go_enter Try.func53, Try.ntmps53
  go_wp2
  go_loopw [5] (fun i wr => ∃ k : Nat, i = .int .i64 (k : Int) ∧ k ≤ es.length ∧ Below w.heap.size w wr) (fun i _ => es.length - (intOf i).toNat)
  case atStart => exact ⟨0, rfl, Nat.zero_le _, Below.refl _ _⟩
  case round =>
    obtain ⟨k, rfl, hk, hb⟩ := hrel
    by_cases hlt : (k : Int) < (es.length : Int)
    · have hkl : k < es.length := by omega
      obtain ⟨b, off, rfl, hc⟩ := (dUnhide HU wr hb).ent hkl
      obtain ⟨b', off', rfl, hc'⟩ := (dUnhide HV wr hb).ent hkl
      have E1 := dHide (hc k hkl)
      have E2 := dHide (hc' k hkl)
      obtain ⟨c0, c1, c2, c3⟩ := hc k hkl
      obtain ⟨e0, e1, e2, e3⟩ := hc' k hkl
      have CE := dHide (eqEntry_same es[k])
      generalize es[k] = y at *
      obtain ⟨yx, yw, yh, yd⟩ := y
      unfold Ent.val at CE
      simp only at *
      clear hc hc' HU HV
      have hbr : Below wr.heap.size wr wr.drew := (Below.refl _ _).drew
      go_wp2_with fail
      go_region_held3 (fun W => (W.cell? ⟨b, off + k * 4, none⟩ = some (.int .i64 yx) ∧ W.cell? ⟨b, off + k * 4 + 1, none⟩ = some (.int .i64 yw) ∧ W.cell? ⟨b, off + k * 4 + 2, none⟩ = some (.bool yh) ∧ W.cell? ⟨b, off + k * 4 + 3, none⟩ = some (.string yd)) ∧ W.cell? ⟨b', off' + k * 4, none⟩ = some (.int .i64 yx) ∧ W.cell? ⟨b', off' + k * 4 + 1, none⟩ = some (.int .i64 yw) ∧ W.cell? ⟨b', off' + k * 4 + 2, none⟩ = some (.bool yh) ∧ W.cell? ⟨b', off' + k * 4 + 3, none⟩ = some (.string yd)) (first | exact ⟨(dUnhide E1).below hb5, (dUnhide E2).below hb5⟩ | go_keep)
        (first
          | (go_at_call 52; refine (dUnhide CE _).mono ?_; rintro r w5 ⟨rfl, b5⟩; have hb5 := belowThen hbr b5))
      all_goals
        go_wp2
        go_roundw
        case rel => exact ⟨k + 1, by go_num, by omega, belowThen hb hb5⟩
        case measure => simp [intOf]; omega
    · clear HU HV
      go_wp2
      go_ret
      exact ⟨rfl, hb⟩
end Go.Proofs.Ytenpnnocdjakdaa
