/- The walks of the laws FnExactPutNum and FnExactPutText: each returns true at every argument, and writes nothing that was there. -/
import Derived.Test.YtgcdhifanhpagaaPutA
import Derived.Test.YtgcdhifanhpagaaAddB
import Derived.Test.YtgcdhifanhpagaaBytesEq
import Derived.Test.YtgcdhifanhpagaaBytesMk
import Derived.Test.YtgcdhifanhpagaaBytesX
namespace Go.Proofs.Ytgcdhifanhpagaa
open Go.ChangeShapes Go.WideShapes Go.ChangeAt Go.RowKit
set_option linter.unusedVariables false

set_option maxHeartbeats 2000000 in
theorem walkFnExactPutNum (x : Int) (w0 : (Lit.int .i64 x).wf = true) (w : World) :
    Calls Try.prog 4 #[.int .i64 x] w fun e w' => e = .returned (.bool true) ∧ Below w.heap.size w w' := by
  obtain ⟨l, u⟩ := bounds_i64 w0
  have C1 := dHide (specPutNum_own x u)
  have C2 := dHide (implPutNum_own x l u)
  have hlen := numZ_len x
  generalize numZ x = BS at *
  go_enter Try.func4, Try.ntmps4
  go_wp2_with fail
  refine (dUnhide C1 _).mono ?_
  rintro e w1 ⟨⟨v1, rfl, o1⟩, hb1⟩
  go_wp2_with fail
  refine (dUnhide C2 _).mono ?_
  rintro e w2 ⟨⟨v2, rfl, o2⟩, hb2⟩
  have r1 := o1.bs
  have r12 := r1.below hb2
  have hbw2 := hb1.trans (hb2.mono hb1.size)
  go_wp2_with fail
  refine (eqByteS_yes _ _ _ _ o2.bs r12).mono ?_
  rintro e w3 ⟨rfl, hb3⟩
  have o23 := o2.below hb3
  have r13 := r12.below hb3
  have hbw3 := hbw2.trans (hb3.mono hbw2.size)
  go_wp2_with fail
  refine (markByteS_any _ w1.heap.size 1 _ _ (by omega) (by omega) o23).mono ?_
  rintro e w4 ⟨rfl, o24, hd4, hn4⟩
  have r14 := r13.apart r1 rfl o23 (Nat.le_refl _) hd4 rfl
  have hbw4 : Below w.heap.size w w4 := mark_below hd4 hn4 o23 hbw3 hb1.size hbw3.size
  clear hd4 hn4 o2 o23 r12 r13 hb2 hb3 hbw2 hbw3 o1
  go_wp2_with fail
  refine (heldByteS_yes _ 1 _ _ (by omega) (by omega) o24.bs).mono ?_
  rintro e w5 ⟨rfl, hb5⟩
  have o25 := o24.below hb5
  have r15 := r14.below hb5
  have hbw5 := hbw4.trans (hb5.mono hbw4.size)
  go_wp2_with fail
  refine (dUnhide C2 _).mono ?_
  rintro e w6 ⟨⟨v3, rfl, o3⟩, hb6⟩
  have o26 := o25.below hb6
  have r16 := r15.below hb6
  have hbw6 := hbw5.trans (hb6.mono hbw5.size)
  go_wp2_with fail
  refine (eqByteS_yes _ _ _ _ o3.bs r16).mono ?_
  rintro e w7 ⟨rfl, hb7⟩
  have o27 := o26.below hb7
  have hbw7 := hbw6.trans (hb7.mono hbw6.size)
  go_wp2_with fail
  refine (heldByteS_yes _ 1 _ _ (by omega) (by omega) o27.bs).mono ?_
  rintro e w8 ⟨rfl, hb8⟩
  have hbw8 := hbw7.trans (hb8.mono hbw7.size)
  clear hb1 hb5 hb6 hb7 hb8 hbw4 hbw5 hbw6 hbw7 o24 o25 o26 o27 r1 r14 r15 r16 o3
  go_wp2
  go_ret
  exact ⟨rfl, hbw8⟩
set_option maxHeartbeats 2000000 in
theorem walkFnExactPutText (s : ByteArray) (w0 : s.size ≤ maxLen) (w : World) :
    Calls Try.prog 6 #[.string s] w fun e w' => e = .returned (.bool true) ∧ Below w.heap.size w w' := by
  by_cases hz : (1048576 : Int) < (s.size : Int)
  · unfold maxLen at w0
    go_enter Try.func6, Try.ntmps6
    go_wp2
    go_ret
    exact ⟨rfl, Below.refl _ _⟩
  · have C1 := dHide (specPutText_own s (by omega))
    have C2 := dHide (implPutText_own s (by omega))
    have hlen : (textB s.data.toList).length ≤ 2000000 := by
      have e : s.data.toList.length = s.size := by rw [← Lib.size_eq]
      have := numB_len s.data.toList.length
      rw [textB, List.length_append]; omega
    generalize textB s.data.toList = BS at *
    go_enter Try.func6, Try.ntmps6
    go_wp2_with fail
    refine (dUnhide C1 _).mono ?_
    rintro e w1 ⟨⟨v1, rfl, o1⟩, hb1⟩
    go_wp2_with fail
    refine (dUnhide C2 _).mono ?_
    rintro e w2 ⟨⟨v2, rfl, o2⟩, hb2⟩
    have r1 := o1.bs
    have r12 := r1.below hb2
    have hbw2 := hb1.trans (hb2.mono hb1.size)
    go_wp2_with fail
    refine (eqByteS_yes _ _ _ _ o2.bs r12).mono ?_
    rintro e w3 ⟨rfl, hb3⟩
    have o23 := o2.below hb3
    have r13 := r12.below hb3
    have hbw3 := hbw2.trans (hb3.mono hbw2.size)
    go_wp2_with fail
    refine (markByteS_any _ w1.heap.size 1 _ _ (by omega) (by omega) o23).mono ?_
    rintro e w4 ⟨rfl, o24, hd4, hn4⟩
    have r14 := r13.apart r1 rfl o23 (Nat.le_refl _) hd4 rfl
    have hbw4 : Below w.heap.size w w4 := mark_below hd4 hn4 o23 hbw3 hb1.size hbw3.size
    clear hd4 hn4 o2 o23 r12 r13 hb2 hb3 hbw2 hbw3 o1
    go_wp2_with fail
    refine (heldByteS_yes _ 1 _ _ (by omega) (by omega) o24.bs).mono ?_
    rintro e w5 ⟨rfl, hb5⟩
    have o25 := o24.below hb5
    have r15 := r14.below hb5
    have hbw5 := hbw4.trans (hb5.mono hbw4.size)
    go_wp2_with fail
    refine (dUnhide C2 _).mono ?_
    rintro e w6 ⟨⟨v3, rfl, o3⟩, hb6⟩
    have o26 := o25.below hb6
    have r16 := r15.below hb6
    have hbw6 := hbw5.trans (hb6.mono hbw5.size)
    go_wp2_with fail
    refine (eqByteS_yes _ _ _ _ o3.bs r16).mono ?_
    rintro e w7 ⟨rfl, hb7⟩
    have o27 := o26.below hb7
    have hbw7 := hbw6.trans (hb7.mono hbw6.size)
    go_wp2_with fail
    refine (heldByteS_yes _ 1 _ _ (by omega) (by omega) o27.bs).mono ?_
    rintro e w8 ⟨rfl, hb8⟩
    have hbw8 := hbw7.trans (hb8.mono hbw7.size)
    clear hb1 hb5 hb6 hb7 hb8 hbw4 hbw5 hbw6 hbw7 o24 o25 o26 o27 r1 r14 r15 r16 o3
    go_wp2
    go_ret
    exact ⟨rfl, hbw8⟩
end Go.Proofs.Ytgcdhifanhpagaa
