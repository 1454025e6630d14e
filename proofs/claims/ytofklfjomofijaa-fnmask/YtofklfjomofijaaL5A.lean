/- The walk of the law FnMask. -/
import Derived.Test.YtofklfjomofijaaChoE
import Derived.Test.YtofklfjomofijaaWithN
import Derived.Test.YtofklfjomofijaaImplE
import Derived.Test.YtofklfjomofijaaBigB
import Derived.Test.YtofklfjomofijaaRowB
namespace Go.Proofs.Ytofklfjomofijaa
open Go.ChangeShapes Go.WideShapes Go.ChangeAt Go.RowKit
set_option linter.unusedVariables false
set_option linter.unusedSimpArgs false

/-- Both NodesMasks. -/
def maskN (xs : List Int) (x : Int) : Prop := (ascP xs 0 7 ∧ x = orL xs) ∨ (¬ ascP xs 0 7 ∧ x = -1)
theorem both_nodesMask (xs : List Int) (hi : allInt xs) (hl : xs.length ≤ 1048576) : ∃ x, maskN xs x ∧ (∀ v W, Ns W v xs → Calls Try.prog 14 #[v] W fun e w' => e = .returned (.int .i64 x) ∧ Below W.heap.size W w') ∧ (∀ v W, Ns W v xs → Calls Try.prog 15 #[v] W fun e w' => e = .returned (.int .i64 x) ∧ Below W.heap.size W w') := by
  by_cases h : ascP xs 0 7
  · exact ⟨orL xs, .inl ⟨h, rfl⟩, fun v W hv => implNodesMask_yes v xs W hv hi hl h, fun v W hv => specNodesMask_yes v xs W hv h⟩
  · exact ⟨-1, .inr ⟨h, rfl⟩, fun v W hv => implNodesMask_no v xs W hv hi hl h, fun v W hv => specNodesMask_no v xs W hv h⟩
set_option maxHeartbeats 4000000 in
set_option maxRecDepth 100000 in
theorem walkFnMask (a0 : Option Addr) (len0 cap0 : Nat) (z0 : List Int) (w : World) (w0 : IsRow .u8 w a0 len0 cap0 z0) :
    Calls Try.prog 3 #[.slice a0 len0 cap0] w fun e w' => e = .returned (.bool true) ∧ Below w.heap.size w w' := by
  have hr := row8_of w0
  have hlen := hr.1
  clear w0
  by_cases hbig : 1048576 < len0
  · have CB := dHide (big_yes a0 len0 cap0 hbig hlen)
    go_enter Try.func3, Try.ntmps3
    go_wp2_with fail
    refine (dUnhide CB _).mono ?_
    rintro e w1 ⟨rfl, rfl⟩
    go_wp2
    go_ret
    exact ⟨rfl, Below.refl _ _⟩
  have CB := dHide (big_no a0 len0 cap0 hbig)
  have CD := dHide (drawMaskNodes_any a0 len0 cap0 w hr)
  have CE := dHide fun W (hb : Below w.heap.size w W) => drawNodesMask_any a0 len0 cap0 W (hr.below hb)
  clear hbig hr
  go_enter Try.func3, Try.ntmps3
  go_wp2_with fail
  refine (dUnhide CB _).mono ?_
  rintro e w1 ⟨rfl, rfl⟩
  clear CB
  go_wp2_with fail
  refine (dUnhide CD).mono ?_
  rintro e w2 ⟨⟨m, hm, rfl⟩, B2⟩
  clear CD
  go_wp2_with fail
  refine (implMask_any m w2 hm).mono ?_
  rintro e w3 ⟨⟨o3, rfl, q3⟩, b3⟩
  have N3 := dHide q3.bs
  have B3 := belowThen B2 b3
  obtain ⟨-, la, lc, rfl, -, -⟩ := q3
  clear b3 B2
  go_wp2_with fail
  refine (specMask_any m w3).mono ?_
  rintro e w4 ⟨⟨o4, rfl, q4⟩, b4⟩
  have B4 := belowThen B3 b4
  have N4 := (dUnhide N3).below b4
  have HN4 := dHide N4
  have n4 := rowN_ns q4
  have C5 := dHide (sameInts_yes _ _ (maskL m) w4 N4 n4)
  clear b4 B3 N3 N4 q4 n4
  go_wp2_with fail
  refine (dUnhide C5).mono ?_
  rintro e w5 ⟨rfl, b5⟩
  have B5 := belowThen B4 b5
  have N5 := dHide ((dUnhide HN4).below b5)
  clear b5 B4 HN4 C5
  go_wp2_with fail
  refine (dUnhide CE w5 B5).mono ?_
  rintro e w6 ⟨⟨u6, zs, rfl, ⟨q6, hzl, hza⟩⟩, b6⟩
  have B6 := belowThen B5 b6
  have N6 := dHide ((dUnhide N5).below b6)
  have M6 := dHide q6.bs
  obtain ⟨-, ua, uc, rfl, -, -⟩ := q6
  clear b6 B5 N5 CE
  obtain ⟨x, hx, CI, CS⟩ := both_nodesMask zs hza (by omega)
  have CI := dHide CI
  have CS := dHide CS
  go_wp2_with fail
  refine (dUnhide CI _ _ (dUnhide M6)).mono ?_
  rintro e w7 ⟨rfl, b7⟩
  have B7 := belowThen B6 b7
  have N7 := dHide ((dUnhide N6).below b7)
  have M7 := dHide ((dUnhide M6).below b7)
  clear b7 B6 N6 M6 CI
  go_wp2_with fail
  refine (dUnhide CS _ _ (dUnhide M7)).mono ?_
  rintro e w8 ⟨rfl, b8⟩
  have B8 := belowThen B7 b8
  have N8 := dHide ((dUnhide N7).below b8)
  have M8 := dHide ((dUnhide M7).below b8)
  clear b8 B7 N7 M7 CS
  by_cases hm0 : 0 ≤ m ∧ m ≤ 255
  · have d0 : decide (m < 0) = false := decide_eq_false (by omega)
    have d1 : decide (255 < m) = false := decide_eq_false (by omega)
    have CI := dHide (implNodesMask_yes _ (maskL m) w8 (dUnhide N8) (maskL_int m) (by have := maskL_len m; omega) (maskL_asc m))
    rw [orL_maskL m hm0] at CI
    go_wp2_with fail
    refine (dUnhide CI).mono ?_
    rintro e w9 ⟨rfl, b9⟩
    have B9 := belowThen B8 b9
    have M9 := dHide ((dUnhide M8).below b9)
    clear b9 B8 N8 M8 CI
    rcases hx with ⟨hz, rfl⟩ | ⟨hz, rfl⟩
    · obtain ⟨e1, e2, e3⟩ := maskL_orL zs hz
      have d2 : decide (orL zs < 0) = false := decide_eq_false (by omega)
      have CM := dHide (implMask_any (orL zs) w9 ⟨by omega, by omega⟩)
      rw [e1] at CM
      have he : (m == m) = true := by simp
      clear hz e1
      go_wp2_with fail
      refine (dUnhide CM).mono ?_
      rintro e w10 ⟨⟨o10, rfl, q10⟩, b10⟩
      have B10 := belowThen B9 b10
      have M10 := (dUnhide M9).below b10
      have C11 := dHide (sameInts_yes _ _ zs w10 q10.bs M10)
      obtain ⟨-, xa, xc, rfl, -, -⟩ := q10
      clear b10 B9 M9 CM M10
      go_wp2_with fail
      refine (dUnhide C11).mono ?_
      rintro e w11 ⟨rfl, b11⟩
      have B11 := belowThen B10 b11
      clear b11 B10 C11
      go_wp2
      go_ret
      exact ⟨rfl, B11⟩
    · clear hz
      go_wp2
      go_ret
      exact ⟨rfl, B9⟩
  · have hd : m < 0 ∨ 255 < m := by omega
    have e0 : maskL m = [] := if_neg hm0
    rw [e0]
    clear e0 hm0 N8 M8
    rcases hd with hd | hd
    · have d0 : decide (m < 0) = true := decide_eq_true hd
      go_wp2
      go_ret
      exact ⟨rfl, B8⟩
    · have d0 : decide (m < 0) = false := decide_eq_false (by omega)
      have d1 : decide (255 < m) = true := decide_eq_true hd
      go_wp2
      go_ret
      exact ⟨rfl, B8⟩
end Go.Proofs.Ytofklfjomofijaa
