/- The walks of the laws FnExactGetNum and FnExactGetText: each returns true at every argument, and writes nothing that was there. -/
import Derived.Test.YtgcdhifanhpagaaGetA
import Derived.Test.YtgcdhifanhpagaaRdrD
import Derived.Test.YtgcdhifanhpagaaBytesEq
import Derived.Test.YtgcdhifanhpagaaBytesTo
import Derived.Test.YtgcdhifanhpagaaBytesX
namespace Go.Proofs.Ytgcdhifanhpagaa
open Go.ChangeShapes Go.WideShapes Go.ChangeAt Go.RowKit
set_option linter.unusedVariables false

set_option maxHeartbeats 2000000 in
theorem walkFnExactGetNum (a0 : Option Addr) (len0 cap0 : Nat) (z0 : List Int) (a1 : Int) (w : World) (w0 : IsRow .u8 w a0 len0 cap0 z0) (w1 : (Lit.int .i64 a1).wf = true) :
    Calls Try.prog 5 #[.slice a0 len0 cap0, .int .i64 a1] w fun e w' => e = .returned (.bool true) ∧ Below w.heap.size w w' := by
  obtain ⟨l1, u1⟩ := bounds_i64 w1
  have hlen := (row8_of w0).1
  by_cases hz : (1048576 : Int) < (len0 : Int)
  · clear w0
    go_enter Try.func5, Try.ntmps5
    go_wp2
    go_ret
    exact ⟨rfl, Below.refl _ _⟩
  · obtain ⟨bs, hbl, r0⟩ := bs_of_row w0
    have C1 : Hid (∀ w v, Bs w v bs → Calls Try.prog 20 #[v, .int .i64 a1] w fun e w' => e = .returned (getT (getZ bs a1) a1.toNat) ∧ Below w.heap.size w w') := fun w v h => specGetNum_any v bs a1 w h (by omega)
    have C2 : Hid (∀ w v, Bs w v bs → Calls Try.prog 11 #[v, .int .i64 a1] w fun e w' => e = .returned (getT (getZ bs a1) a1.toNat) ∧ Below w.heap.size w w') := fun w v h => implGetNum_any v bs a1 w h (by omega) l1 u1
    have C3 : Hid (∀ w v, Bs w v bs → Calls Try.prog 21 #[v] w fun e w' => (∃ u, e = .returned u ∧ OwnB w' w.heap.size u bs) ∧ Below w.heap.size w w') := fun w v h => toByteS_any v bs w (by omega) h
    obtain ⟨x, y, b, hform⟩ := getT_form (getZ bs a1) a1.toNat
    rw [hform] at C1 C2
    clear w0 hform hbl
    go_enter Try.func5, Try.ntmps5
    go_wp2_with fail
    refine (dUnhide C3 _ _ r0).mono ?_
    rintro e w2 ⟨⟨v1, rfl, o1⟩, hb2⟩
    have r2 := r0.below hb2
    go_wp2_with fail
    refine (dUnhide C1 _ _ o1.bs).mono ?_
    rintro e w3 ⟨rfl, hb3⟩
    have r3 := r2.below hb3
    have hbw3 := hb2.trans (hb3.mono hb2.size)
    go_wp2_with fail
    refine (dUnhide C3 _ _ r3).mono ?_
    rintro e w4 ⟨⟨v2, rfl, o2⟩, hb4⟩
    have r4 := r3.below hb4
    have hbw4 := hbw3.trans (hb4.mono hbw3.size)
    go_wp2_with fail
    refine (dUnhide C2 _ _ o2.bs).mono ?_
    rintro e w5 ⟨rfl, hb5⟩
    have r5 := r4.below hb5
    have q5 := o2.bs.below hb5
    have hbw5 := hbw4.trans (hb5.mono hbw4.size)
    go_wp2_with fail
    refine (dUnhide C3 _ _ r5).mono ?_
    rintro e w6 ⟨⟨v3, rfl, o3⟩, hb6⟩
    have q6 := q5.below hb6
    have hbw6 := hbw5.trans (hb6.mono hbw5.size)
    go_wp2_with fail
    refine (eqByteS_yes _ _ _ _ q6 o3.bs).mono ?_
    rintro e w7 ⟨rfl, hb7⟩
    have hbw7 := hbw6.trans (hb7.mono hbw6.size)
    clear hb2 hb3 hb4 hb5 hb6 hb7 hbw3 hbw4 hbw5 hbw6 r0 r2 r3 r4 r5 q5 q6 o1 o2 o3
    go_wp2
    go_ret
    exact ⟨rfl, hbw7⟩
set_option maxHeartbeats 2000000 in
theorem walkFnExactGetText (a0 : Option Addr) (len0 cap0 : Nat) (z0 : List Int) (a1 : Int) (w : World) (w0 : IsRow .u8 w a0 len0 cap0 z0) (w1 : (Lit.int .i64 a1).wf = true) :
    Calls Try.prog 7 #[.slice a0 len0 cap0, .int .i64 a1] w fun e w' => e = .returned (.bool true) ∧ Below w.heap.size w w' := by
  obtain ⟨l1, u1⟩ := bounds_i64 w1
  have hlen := (row8_of w0).1
  by_cases hz : (1048576 : Int) < (len0 : Int)
  · clear w0
    go_enter Try.func7, Try.ntmps7
    go_wp2
    go_ret
    exact ⟨rfl, Below.refl _ _⟩
  · obtain ⟨bs, hbl, r0⟩ := bs_of_row w0
    have C1 : Hid (∀ w v, Bs w v bs → Calls Try.prog 23 #[v, .int .i64 a1] w fun e w' => e = .returned (gtextT (gtextZ bs a1)) ∧ Below w.heap.size w w') := fun w v h => specGetText_any v bs a1 w h (by omega)
    have C2 : Hid (∀ w v, Bs w v bs → Calls Try.prog 15 #[v, .int .i64 a1] w fun e w' => e = .returned (gtextT (gtextZ bs a1)) ∧ Below w.heap.size w w') := fun w v h => implGetText_any v bs a1 w h (by omega) l1 u1
    have C3 : Hid (∀ w v, Bs w v bs → Calls Try.prog 21 #[v] w fun e w' => (∃ u, e = .returned u ∧ OwnB w' w.heap.size u bs) ∧ Below w.heap.size w w') := fun w v h => toByteS_any v bs w (by omega) h
    obtain ⟨x, y, b, hform⟩ := gtextT_form (gtextZ bs a1)
    rw [hform] at C1 C2
    clear w0 hform hbl
    go_enter Try.func7, Try.ntmps7
    go_wp2_with fail
    refine (dUnhide C3 _ _ r0).mono ?_
    rintro e w2 ⟨⟨v1, rfl, o1⟩, hb2⟩
    have r2 := r0.below hb2
    go_wp2_with fail
    refine (dUnhide C1 _ _ o1.bs).mono ?_
    rintro e w3 ⟨rfl, hb3⟩
    have r3 := r2.below hb3
    have hbw3 := hb2.trans (hb3.mono hb2.size)
    go_wp2_with fail
    refine (dUnhide C3 _ _ r3).mono ?_
    rintro e w4 ⟨⟨v2, rfl, o2⟩, hb4⟩
    have r4 := r3.below hb4
    have hbw4 := hbw3.trans (hb4.mono hbw3.size)
    go_wp2_with fail
    refine (dUnhide C2 _ _ o2.bs).mono ?_
    rintro e w5 ⟨rfl, hb5⟩
    have r5 := r4.below hb5
    have q5 := o2.bs.below hb5
    have hbw5 := hbw4.trans (hb5.mono hbw4.size)
    go_wp2_with fail
    refine (dUnhide C3 _ _ r5).mono ?_
    rintro e w6 ⟨⟨v3, rfl, o3⟩, hb6⟩
    have q6 := q5.below hb6
    have hbw6 := hbw5.trans (hb6.mono hbw5.size)
    go_wp2_with fail
    refine (eqByteS_yes _ _ _ _ q6 o3.bs).mono ?_
    rintro e w7 ⟨rfl, hb7⟩
    have hbw7 := hbw6.trans (hb7.mono hbw6.size)
    clear hb2 hb3 hb4 hb5 hb6 hb7 hbw3 hbw4 hbw5 hbw6 r0 r2 r3 r4 r5 q5 q6 o1 o2 o3
    go_wp2
    go_ret
    exact ⟨rfl, hbw7⟩
end Go.Proofs.Ytgcdhifanhpagaa
