/- laws.sameEvents (split off L10ReaderL). -/
import Derived.Test.YthndkkjgjhgdnaaDoorEvS
import Derived.BigQuiet
import Derived.Deep.RegionHeld3
import Derived.Deep.DeepCutAuto
namespace Go.Proofs.YthndkkjgjhgdnaaDoor
open Go.ChangeShapes Go.WideShapes Go.ChangeAt Go.RowKit
set_option linter.unusedVariables false
set_option linter.unusedSimpArgs false
set_option maxRecDepth 100000

theorem sameEvents_any (u v : Value) (es : List Ev) (w : World) (hu : RdEventS u es w) (hv : RdEventS v es w) :
    Calls Tryd.prog 17 #[u, v] w fun e w' => e = .returned (.bool true) ∧ Below w.heap.size w w' := by
  obtain ⟨ua, uc, rfl, hl⟩ := formEventS hu
  obtain ⟨va, vc, rfl, -⟩ := formEventS hv
  have HU := dHide fun W (hb : Below w.heap.size w W) => hu.below hb
  have HV := dHide fun W (hb : Below w.heap.size w W) => hv.below hb
  have hne : ((es.length : Int) != (es.length : Int)) = false := by simp
  clear hu hv
  go_enter Tryd.func17, Tryd.ntmps17
  go_wp2
  go_loopw [5] (fun xv wr => ∃ k : Nat, xv = .int .i64 (k : Int) ∧ k ≤ es.length ∧ Below w.heap.size w wr) (fun xv _ => es.length - (intOf xv).toNat)
  case atStart => exact ⟨0, rfl, Nat.zero_le _, Below.refl _ _⟩
  case round =>
    obtain ⟨k, rfl, hk, hb⟩ := hrel
    by_cases hlt : (k : Int) < (es.length : Int)
    · have hkl : k < es.length := by omega
      obtain ⟨b1, o1, rfl, h1⟩ := Rw.atEv (dUnhide HU wr hb) hkl
      obtain ⟨b2, o2, rfl, h2⟩ := Rw.atEv (dUnhide HV wr hb) hkl
      obtain ⟨s0, s1, s2⟩ := h1 k hkl
      obtain ⟨t0, t1, t2⟩ := h2 k hkl
      clear h1 h2
      generalize es[k] = y at *
      obtain ⟨y0, y1, y2⟩ := y
      simp only at s0 s1 s2 t0 t1 t2
      go_wp2
      go_quiet (fail)
      go_wp2
      go_roundw
      case rel => exact ⟨k + 1, by go_num, by omega, below_drewN hb _⟩
      case measure => simp [intOf]; omega
    · go_wp2
      go_ret
      exact ⟨rfl, hb⟩
end Go.Proofs.YthndkkjgjhgdnaaDoor
