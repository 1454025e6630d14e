/- Records as bytes: the texts that spec's cursor reads, and its end. -/
import Derived.Test.YtioocibgfhgkhaaDoorPkD
import Derived.Test.YtioocibgfhgkhaaDoorGaT
namespace Go.Proofs.YtioocibgfhgkhaaDoor
open Go.ChangeShapes Go.WideShapes Go.ChangeAt Go.RowKit
set_option linter.unusedVariables false
set_option linter.unusedSimpArgs false
set_option maxRecDepth 100000

/-- A text that is read by the cursor, and where it is then. -/
def rdT (bs : List UInt8) (q : Nat) (ok : Bool) : List UInt8 × Nat × Bool := if ok then (match gtextZ bs (q : Int) with | some (x, p) => (x, p, true) | none => ([], q, false)) else ([], q, false)
theorem rdT_off (bs : List UInt8) (q : Nat) : rdT bs q false = ([], q, false) := rfl
theorem rdT_none {bs : List UInt8} {q : Nat} (ok : Bool) (h : gtextZ bs (q : Int) = none) : rdT bs q ok = ([], q, false) := by
  cases ok
  · rfl
  · simp [rdT, h]
theorem rdT_some {bs : List UInt8} {q p : Nat} {x : List UInt8} (h : gtextZ bs (q : Int) = some (x, p)) : rdT bs q true = (x, p, true) := by simp [rdT, h]
set_option maxHeartbeats 4000000 in
theorem specText17_any (B cb : Nat) (v : Value) (bs : List UInt8) (q : Nat) (ok : Bool) (w : World) (hc : Cu w B cb v q ok) (hv : Bs w v bs) (hl : bs.length ≤ 1048576) :
    Calls Tryd.prog 27 #[.pointer (some ⟨cb, 0, none⟩)] w fun e w' => e = .returned (.string ⟨(rdT bs q ok).1.toArray⟩) ∧ Cu w' B cb v (rdT bs q ok).2.1 (rdT bs q ok).2.2 ∧ Drawn cb w w' := by
  have CG := dHide fun W (hb : Below w.heap.size w W) => specGetText_same v bs (q : Int) W (hv.below hb) (by omega)
  obtain ⟨-, a, cap, rfl, -⟩ := hv
  have HC := dHide fun W (hb : Below w.heap.size w W) => BxZ.below hc hb
  cases hz : gtextZ bs (q : Int) with
  | none =>
    have HR : Hid (rdT bs q ok = ([], q, false)) := rdT_none ok hz
    have CN := dHide fun W (hb : Below w.heap.size w W) => (dUnhide CG W hb).mono fun e w' h => (⟨by rw [h.1, hz]; rfl, h.2⟩ : e = .returned (.tuple #[.string ⟨#[]⟩, .int .i64 0, .bool false]) ∧ w' = W)
    rw [dUnhide HR]
    clear hz
    obtain ⟨b0, -⟩ := hc.2 0 _ rfl
    obtain ⟨b1, -⟩ := hc.2 1 _ rfl
    clear HR CG
    go_enter Tryd.func27, Tryd.ntmps27
    go_wp2_with fail
    go_quiet ((go_at_call 41; exact Calls.quiet_of_same (dUnhide CN _ (below_drewN (Below.refl _ _) _))))
    have Xd := dUnhide HC (w.drewN nq) (below_drewN (Below.refl _ _) nq)
    have Dd := (Drawn.refl cb w).drewN nq
    obtain ⟨d0, -⟩ := Xd.2 0 _ rfl
    obtain ⟨d1, g1⟩ := Xd.2 1 _ rfl
    obtain ⟨d2, g2⟩ := Xd.2 2 _ rfl
    generalize w.drewN nq = wd at *
    have F := dHide (And.intro (Xd.put 2 (.bool false)) (Dd.setCell 2 (.bool false)))
    clear Xd Dd CN HC hc
    go_wp2
    go_ret
    exact ⟨rfl, (dUnhide F).1, (dUnhide F).2⟩
  | some r =>
    obtain ⟨x, p⟩ := r
    have CN := dHide fun W (hb : Below w.heap.size w W) => (dUnhide CG W hb).mono fun e w' h => (⟨by rw [h.1, hz]; simp [gtextT], h.2⟩ : e = .returned (.tuple #[.string ⟨x.toArray⟩, .int .i64 (p : Int), .bool true]) ∧ w' = W)
    cases ok
    case false =>
      have HR : Hid (rdT bs q false = ([], q, false)) := rdT_off bs q
      rw [dUnhide HR]
      clear hz
      obtain ⟨b0, -⟩ := hc.2 0 _ rfl
      obtain ⟨b1, -⟩ := hc.2 1 _ rfl
      clear HR CG
      go_enter Tryd.func27, Tryd.ntmps27
      go_wp2_with fail
      go_quiet ((go_at_call 41; exact Calls.quiet_of_same (dUnhide CN _ (below_drewN (Below.refl _ _) _))))
      have Xd := dUnhide HC (w.drewN nq) (below_drewN (Below.refl _ _) nq)
      have Dd := (Drawn.refl cb w).drewN nq
      obtain ⟨d0, -⟩ := Xd.2 0 _ rfl
      obtain ⟨d1, g1⟩ := Xd.2 1 _ rfl
      obtain ⟨d2, g2⟩ := Xd.2 2 _ rfl
      generalize w.drewN nq = wd at *
      have F := dHide (And.intro (Xd.put 2 (.bool false)) (Dd.setCell 2 (.bool false)))
      clear Xd Dd CN HC hc
      go_wp2
      go_ret
      exact ⟨rfl, (dUnhide F).1, (dUnhide F).2⟩
    case true =>
      have HR : Hid (rdT bs q true = (x, p, true)) := rdT_some hz
      rw [dUnhide HR]
      clear hz
      obtain ⟨b0, -⟩ := hc.2 0 _ rfl
      obtain ⟨b1, -⟩ := hc.2 1 _ rfl
      clear HR CG
      go_enter Tryd.func27, Tryd.ntmps27
      go_wp2_with fail
      go_quiet ((go_at_call 41; exact Calls.quiet_of_same (dUnhide CN _ (below_drewN (Below.refl _ _) _))))
      have Xd := dUnhide HC (w.drewN nq) (below_drewN (Below.refl _ _) nq)
      have Dd := (Drawn.refl cb w).drewN nq
      obtain ⟨d0, -⟩ := Xd.2 0 _ rfl
      obtain ⟨d1, g1⟩ := Xd.2 1 _ rfl
      obtain ⟨d2, g2⟩ := Xd.2 2 _ rfl
      generalize w.drewN nq = wd at *
      have F := dHide (And.intro (Xd.put 1 (.int .i64 (p : Int))) (Dd.setCell 1 (.int .i64 (p : Int))))
      clear Xd Dd CN HC hc
      go_wp2
      go_ret
      exact ⟨rfl, (dUnhide F).1, (dUnhide F).2⟩
/-- All was read, and nothing was wrong. -/
def endB (bs : List UInt8) (q : Nat) (ok : Bool) : Bool := ok && decide (q = bs.length)
set_option maxHeartbeats 4000000 in
theorem specEnd17_any (B cb : Nat) (v : Value) (bs : List UInt8) (q : Nat) (ok : Bool) (w w0 : World) (hc : Cu w B cb v q ok) (hv : Bs w0 v bs) :
    Calls Tryd.prog 20 #[.pointer (some ⟨cb, 0, none⟩)] w fun e w' => e = .returned (.bool (endB bs q ok)) ∧ Below w.heap.size w w' := by
  obtain ⟨-, a, cap, rfl, -⟩ := hv
  obtain ⟨b0, -⟩ := hc.2 0 _ rfl
  obtain ⟨b1, -⟩ := hc.2 1 _ rfl
  obtain ⟨b2, -⟩ := hc.2 2 _ rfl
  clear hc
  have E : Hid (endB bs q ok = (ok && decide (q = bs.length))) := rfl
  rw [dUnhide E]
  clear E
  cases ok
  · go_enter Tryd.func20, Tryd.ntmps20
    go_wp2_with fail
    go_quiet (fail)
    go_wp2
    go_ret
    exact ⟨rfl, below_drewN (Below.refl _ _) nq⟩
  · have hq : (q : Int) = (bs.length : Int) ∨ (q : Int) ≠ (bs.length : Int) := by omega
    rcases hq with hq | hq
    · have e : Hid (decide (q = bs.length) = true) := by simp [Hid]; omega
      rw [dUnhide e]
      clear e
      go_enter Tryd.func20, Tryd.ntmps20
      go_wp2_with fail
      go_quiet (fail)
      go_wp2
      go_ret
      exact ⟨by simp [hq], below_drewN (Below.refl _ _) nq⟩
    · have e : Hid (decide (q = bs.length) = false) := by simp [Hid]; omega
      rw [dUnhide e]
      clear e
      go_enter Tryd.func20, Tryd.ntmps20
      go_wp2_with fail
      go_quiet (fail)
      go_wp2
      go_ret
      exact ⟨by simp [hq], below_drewN (Below.refl _ _) nq⟩
end Go.Proofs.YtioocibgfhgkhaaDoor
