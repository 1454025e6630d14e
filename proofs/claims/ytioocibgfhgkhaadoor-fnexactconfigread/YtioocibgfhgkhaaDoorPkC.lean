/- Records as bytes: spec's cursor, and the numbers that it reads. -/
import Derived.Test.YtioocibgfhgkhaaDoorPkA
import Derived.Test.YtioocibgfhgkhaaDoorGetA
import Derived.Test.YtioocibgfhgkhaaDoorEntD
import Derived.Test.YtioocibgfhgkhaaDoorGaA
import Derived.BigQuiet
import Derived.Deep.QuietTactic
namespace Go.Proofs.YtioocibgfhgkhaaDoor
open Go.ChangeShapes Go.WideShapes Go.ChangeAt Go.RowKit
set_option linter.unusedVariables false
set_option linter.unusedSimpArgs false
set_option maxRecDepth 100000

/-- A number that is read by the cursor, and where it is then. -/
def rdN (bs : List UInt8) (q : Nat) (ok : Bool) : Int × Nat × Bool := if ok then (match getZ bs (q : Int) with | some (x, k) => ((x : Int), q + k, true) | none => (0, q, false)) else (0, q, false)
theorem rdN_off (bs : List UInt8) (q : Nat) : rdN bs q false = (0, q, false) := rfl
theorem rdN_none {bs : List UInt8} {q : Nat} (ok : Bool) (h : getZ bs (q : Int) = none) : rdN bs q ok = (0, q, false) := by
  cases ok
  · rfl
  · simp [rdN, h]
theorem rdN_some {bs : List UInt8} {q x k : Nat} (h : getZ bs (q : Int) = some (x, k)) : rdN bs q true = ((x : Int), q + k, true) := by simp [rdN, h]
/-- The cursor, in its block cb. -/
def Cu (W : World) (B cb : Nat) (v : Value) (q : Nat) (ok : Bool) : Prop := BxZ W B cb [v, .int .i64 (q : Int), .bool ok]
set_option maxHeartbeats 4000000 in
theorem specNum17_any (B cb : Nat) (v : Value) (bs : List UInt8) (q : Nat) (ok : Bool) (w : World) (hc : Cu w B cb v q ok) (hv : Bs w v bs) (hl : bs.length ≤ 1048576) :
    Calls Tryd.prog 19 #[.pointer (some ⟨cb, 0, none⟩)] w fun e w' => e = .returned (.int .i64 (rdN bs q ok).1) ∧ Cu w' B cb v (rdN bs q ok).2.1 (rdN bs q ok).2.2 ∧ Drawn cb w w' := by
  have CG := dHide fun W (hb : Below w.heap.size w W) => specGetNum_same v bs (q : Int) W (hv.below hb) (by omega)
  obtain ⟨-, a, cap, rfl, -⟩ := hv
  have HC := dHide fun W (hb : Below w.heap.size w W) => BxZ.below hc hb
  cases hz : getZ bs (q : Int) with
  | none =>
    have HR : Hid (rdN bs q ok = (0, q, false)) := rdN_none ok hz
    have CN := dHide fun W (hb : Below w.heap.size w W) => (dUnhide CG W hb).mono fun e w' h => (⟨by rw [h.1, hz]; rfl, h.2⟩ : e = .returned (.tuple #[.int .i64 0, .int .i64 0, .bool false]) ∧ w' = W)
    rw [dUnhide HR]
    clear hz
    obtain ⟨b0, -⟩ := hc.2 0 _ rfl
    obtain ⟨b1, -⟩ := hc.2 1 _ rfl
    clear HR CG
    go_enter Tryd.func19, Tryd.ntmps19
    go_wp2_with fail
    go_quiet ((go_at_call 34; exact Calls.quiet_of_same (dUnhide CN _ (below_drewN (Below.refl _ _) _))))
    have Xd := dUnhide HC (w.drewN nq) (below_drewN (Below.refl _ _) nq)
    have Dd := (Drawn.refl cb w).drewN nq
    obtain ⟨d0, -⟩ := Xd.2 0 _ rfl
    obtain ⟨d1, g1⟩ := Xd.2 1 _ rfl
    obtain ⟨d2, g2⟩ := Xd.2 2 _ rfl
    generalize w.drewN nq = wd at *
    have F := dHide (And.intro (Xd.put 2 (.bool false)) (Dd.setCell 2 (.bool false)))
    clear Xd Dd CN HC hc
    go_wp2
    go_ret
    exact ⟨rfl, (dUnhide F).1, (dUnhide F).2⟩
  | some r =>
    obtain ⟨x, k⟩ := r
    have CN := dHide fun W (hb : Below w.heap.size w W) => (dUnhide CG W hb).mono fun e w' h => (⟨by rw [h.1, hz]; simp [getT], h.2⟩ : e = .returned (.tuple #[.int .i64 (x : Int), .int .i64 ((q + k : Nat) : Int), .bool true]) ∧ w' = W)
    cases ok
    case false =>
      have HR : Hid (rdN bs q false = (0, q, false)) := rdN_off bs q
      rw [dUnhide HR]
      clear hz
      obtain ⟨b0, -⟩ := hc.2 0 _ rfl
      obtain ⟨b1, -⟩ := hc.2 1 _ rfl
      clear HR CG
      go_enter Tryd.func19, Tryd.ntmps19
      go_wp2_with fail
      go_quiet ((go_at_call 34; exact Calls.quiet_of_same (dUnhide CN _ (below_drewN (Below.refl _ _) _))))
      have Xd := dUnhide HC (w.drewN nq) (below_drewN (Below.refl _ _) nq)
      have Dd := (Drawn.refl cb w).drewN nq
      obtain ⟨d0, -⟩ := Xd.2 0 _ rfl
      obtain ⟨d1, g1⟩ := Xd.2 1 _ rfl
      obtain ⟨d2, g2⟩ := Xd.2 2 _ rfl
      generalize w.drewN nq = wd at *
      have F := dHide (And.intro (Xd.put 2 (.bool false)) (Dd.setCell 2 (.bool false)))
      clear Xd Dd CN HC hc
      go_wp2
      go_ret
      exact ⟨rfl, (dUnhide F).1, (dUnhide F).2⟩
    case true =>
      have HR : Hid (rdN bs q true = ((x : Int), q + k, true)) := rdN_some hz
      rw [dUnhide HR]
      clear hz
      obtain ⟨b0, -⟩ := hc.2 0 _ rfl
      obtain ⟨b1, -⟩ := hc.2 1 _ rfl
      clear HR CG
      go_enter Tryd.func19, Tryd.ntmps19
      go_wp2_with fail
      go_quiet ((go_at_call 34; exact Calls.quiet_of_same (dUnhide CN _ (below_drewN (Below.refl _ _) _))))
      have Xd := dUnhide HC (w.drewN nq) (below_drewN (Below.refl _ _) nq)
      have Dd := (Drawn.refl cb w).drewN nq
      obtain ⟨d0, -⟩ := Xd.2 0 _ rfl
      obtain ⟨d1, g1⟩ := Xd.2 1 _ rfl
      obtain ⟨d2, g2⟩ := Xd.2 2 _ rfl
      generalize w.drewN nq = wd at *
      have F := dHide (And.intro (Xd.put 1 (.int .i64 ((q + k : Nat) : Int))) (Dd.setCell 1 (.int .i64 ((q + k : Nat) : Int))))
      clear Xd Dd CN HC hc
      go_wp2
      go_ret
      exact ⟨rfl, (dUnhide F).1, (dUnhide F).2⟩
end Go.Proofs.YtioocibgfhgkhaaDoor
