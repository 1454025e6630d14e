/- FnExactDeedLine: both answers, and the law's walk. -/
import Derived.Test.YtmgomacmaidmlaaGreatDoorDlF
namespace Go.Proofs.YtmgomacmaidmlaaGreatDoor
open Go.ChangeShapes Go.WideShapes Go.ChangeAt Go.RowKit
set_option linter.unusedVariables false
set_option linter.unusedSimpArgs false
set_option maxRecDepth 100000

theorem deedOk_cases (d : De) (hf : d.fits) : (deedP d ∧ (∀ w, Calls Tryz.prog 8 #[d.val] w fun r w' => r = .returned (.bool true) ∧ Below w.heap.size w w') ∧ (∀ w, Calls Tryz.prog 15 #[d.val] w fun r w' => r = .returned (.bool true) ∧ Below w.heap.size w w')) ∨
    ((∀ w, Calls Tryz.prog 8 #[d.val] w fun r w' => r = .returned (.bool false) ∧ Below w.heap.size w w') ∧ (∀ w, Calls Tryz.prog 15 #[d.val] w fun r w' => r = .returned (.bool false) ∧ Below w.heap.size w w')) := by
  by_cases h1 : d.k < 1
  · exact .inr ⟨fun w => specDeedOk_out d w (by omega), fun w => implDeedOk_low d w hf h1⟩
  · by_cases h2 : 16 < d.k
    · exact .inr ⟨fun w => specDeedOk_out d w (by omega), fun w => implDeedOk_high d w hf h1 h2⟩
    · have hr : 1 ≤ d.k ∧ d.k ≤ 16 := by omega
      by_cases h3 : d.t.size ≤ 40
      · by_cases h4 : d = keepD (nm d.k) d
        · exact .inl ⟨⟨hr, h4, h3⟩, fun w => specDeedOk_ok d w hr h4 h3, fun w => implDeedOk_ok d w hf hr h3 ((keep_drop _ d).1 h4)⟩
        · exact .inr ⟨fun w => specDeedOk_ne d w hr h4, fun w => implDeedOk_ne d w hf hr h3 fun e => h4 ((keep_drop _ d).2 e)⟩
      · refine .inr ⟨fun w => ?_, fun w => implDeedOk_long d w hf h1 h2 h3⟩
        by_cases h4 : d = keepD (nm d.k) d
        · exact specDeedOk_long d w hr h4 h3 hf
        · exact specDeedOk_ne d w hr h4
theorem specLine_bad (d : De) (w : World) (CD : ∀ w, Calls Tryz.prog 8 #[d.val] w fun r w' => r = .returned (.bool false) ∧ Below w.heap.size w w') :
    Calls Tryz.prog 5 #[d.val] w fun e w' => e = .returned (.tuple #[.string ⟨#[]⟩, .bool false]) ∧ Below w.heap.size w w' := by
  obtain ⟨k, a, b, c, t⟩ := d
  have CD := dHide CD
  simp only [De.val] at *
  have b1 : Below w.heap.size w (w.alloc (.cells #[.int .i64 k, .int .i64 a, .int .i64 b, .int .i64 c, .string t] 27)) := (Below.refl _ _).alloc (Nat.le_refl _) _
  go_enter Tryz.func5, Tryz.ntmps5
  go_wp2_with (go_at_call 8; refine (dUnhide CD _).mono ?_; rintro e w2 ⟨rfl, hb2⟩)
  go_returns
  exact ⟨rfl, belowThen b1 hb2⟩
theorem specLine_13 (d : De) (w : World) (hi : d.ints) (h13 : d.k = 13) (hp : ¬ isPl d.a) (CD : ∀ w, Calls Tryz.prog 8 #[d.val] w fun r w' => r = .returned (.bool true) ∧ Below w.heap.size w w') :
    Calls Tryz.prog 5 #[d.val] w fun e w' => e = .returned (.tuple #[.string ⟨#[]⟩, .bool false]) ∧ Below w.heap.size w w' := by
  obtain ⟨k, a, b, c, t⟩ := d
  simp only at h13 hp
  subst h13
  have CO := dHide fun W => specOk_no a hi.1.2 hp W
  have CD := dHide CD
  clear hp hi
  simp only [De.val] at *
  have X1 := Bx.new w [.int .i64 13, .int .i64 a, .int .i64 b, .int .i64 c, .string t] 27
  have b1 : Below w.heap.size w (w.alloc (.cells #[.int .i64 13, .int .i64 a, .int .i64 b, .int .i64 c, .string t] 27)) := (Below.refl _ _).alloc (Nat.le_refl _) _
  go_enter Tryz.func5, Tryz.ntmps5
  go_wp2_with (first | (go_at_call 8; refine (dUnhide CD _).mono ?_; rintro e w2 ⟨rfl, hb2⟩; have z0 := X1.below hb2 0 _ rfl; have z1 := X1.below hb2 1 _ rfl) | (go_at_call 9; refine (dUnhide CO _).mono ?_; rintro e w3 ⟨rfl, rfl⟩))
  go_returns
  exact ⟨rfl, belowThen b1 hb2⟩
theorem nums_iff (d : De) (hP : deedP d) (h13 : ¬ d.k = 13) : (∀ x ∈ numsL d, tenP x) ↔ tenP d.a ∧ tenP d.b ∧ tenP d.c := by
  obtain ⟨k, a, b, c, t⟩ := d
  obtain ⟨hk, h, -⟩ := hP
  simp only at hk h h13
  have z : tenP 0 := ⟨by omega, by omega⟩
  rcases kinds16 hk with rfl | rfl | rfl | rfl | rfl | rfl | rfl | rfl | rfl | rfl | rfl | rfl | rfl | rfl | rfl | rfl <;> first | (exact absurd rfl h13) | (simp [keepD, nm, nmL] at h; simp [numsL, h, z])
theorem only13 (d : De) (hP : deedP d) (h13 : d.k = 13) : d.b = 0 ∧ d.c = 0 ∧ d.t = ⟨#[]⟩ := by
  obtain ⟨k, a, b, c, t⟩ := d
  obtain ⟨hk, h, -⟩ := hP
  simp only at hk h h13
  subst h13
  simp [keepD, nm, nmL] at h
  exact h
theorem no10_iff (t : ByteArray) : (∀ j (h : j < t.size), t[j] ≠ 10) ↔ (10 : UInt8) ∉ t.data.toList := by
  constructor
  · intro h hm
    obtain ⟨j, hj, e⟩ := List.getElem_of_mem hm
    have hj' : j < t.size := by simpa using hj
    exact h j hj' (by rw [← e]; simp; rfl)
  · intro h j hj e
    apply h
    rw [← e]
    have : t[j] = t.data.toList[j]'(by simpa using hj) := by simp; rfl
    rw [this]
    exact List.getElem_mem _
theorem deedLine_both (d : De) (hf : d.fits) (hi : d.ints) : ∃ (s : ByteArray) (q : Bool), (∀ w, Calls Tryz.prog 5 #[d.val] w fun r w' => r = .returned (.tuple #[.string s, .bool q]) ∧ Below w.heap.size w w') ∧
    (∀ w, Lib.TabIs Tryz.prog w "internal/strconv.uint64pow10" .u64 Lib.pow10Tab → Calls Tryz.prog 7 #[d.val] w fun r w' => r = .returned (.tuple #[.string s, .bool q]) ∧ Below w.heap.size w w') := by
  rcases deedOk_cases d hf with ⟨hP, C1, C2⟩ | ⟨C1, C2⟩
  · by_cases hL : lineP d
    · refine ⟨lineS (wordB d.k) (tailL (nm d.k) d), true, fun w => ?_, fun w ht => ?_⟩
      · refine specLine_any d (fun e => e = .returned (.tuple #[.string (lineS (wordB d.k) (tailL (nm d.k) d)), .bool true])) w hP.1 hi hP.2.2 C1 (fun h => hL.elim (fun h' => h'.2) fun h' => absurd h h'.1) (fun _ _ => rfl) (fun ⟨j, hj, e⟩ => ?_) (fun ⟨x, hx, hn⟩ => ?_)
        · rcases hL with ⟨h13, -⟩ | ⟨-, -, h10⟩
          · have := (only13 d hP h13).2.2
            rw [this] at hj
            exact absurd (show j < 0 from hj) (Nat.not_lt_zero _)
          · exact absurd e ((no10_iff d.t).2 h10 j hj)
        · rcases hL with ⟨h13, -⟩ | ⟨h13, h3, -⟩
          · have : numsL d = [] := by unfold numsL; rw [h13]; rfl
            rw [this] at hx
            cases hx
          · exact absurd ((nums_iff d hP h13).2 h3 x hx) hn
      · have z : tenP 0 := ⟨by omega, by omega⟩
        refine implLine_yes d w hi hP.1 hP.2.2 ?_ ?_ ht C2 hL
        · rcases hL with ⟨h13, -⟩ | ⟨-, h3, -⟩
          · rw [(only13 d hP h13).1]; exact z
          · exact h3.2.1
        · rcases hL with ⟨h13, -⟩ | ⟨-, h3, -⟩
          · rw [(only13 d hP h13).2.1]; exact z
          · exact h3.2.2
    · refine ⟨⟨#[]⟩, false, fun w => ?_, fun w _ => implLine_no d w hi C2 hL⟩
      by_cases h13 : d.k = 13
      · exact specLine_13 d w hi h13 (fun hp => hL (.inl ⟨h13, hp⟩)) C1
      · exact specLine_any d (fun e => e = .returned (.tuple #[.string ⟨#[]⟩, .bool false])) w hP.1 hi hP.2.2 C1 (fun h => absurd h h13) (fun h10 hx => absurd (.inr ⟨h13, (nums_iff d hP h13).1 hx, (no10_iff d.t).1 h10⟩) hL) (fun _ => rfl) (fun _ => rfl)
  · exact ⟨⟨#[]⟩, false, fun w => specLine_bad d w C1, fun w _ => implLine_bad d w C2⟩
set_option maxHeartbeats 4000000 in
theorem walkFnExactDeedLine (v : Value) (d : De) (w : World) (i : v = d.val ∧ d.fits ∧ d.ints) (htab : Lib.TabIs Tryz.prog w "internal/strconv.uint64pow10" .u64 Lib.pow10Tab) :
    Calls Tryz.prog 3 #[v] w fun r w' => r = .returned (.bool true) ∧ Below w.heap.size w w' := by
  obtain ⟨rfl, hf, hi⟩ := i
  have CS := dHide (szDeed_any d 1048576 (by omega) (by omega) hf)
  have CT := dHide (toDeed_any d)
  obtain ⟨s, q, h1, h2⟩ := deedLine_both d hf hi
  have C1 := dHide h1
  have C2 := dHide fun W (hB : Below w.heap.size w W) => h2 W (tabKept htab hB)
  clear h1 h2 htab hi
  obtain ⟨k, a, b, c, t⟩ := d
  have hsz : t.size ≤ 9223372036854775807 := hf
  clear hf
  simp only [De.val] at *
  have B0 : Below w.heap.size w (w.alloc (.cells #[.int .i64 k, .int .i64 a, .int .i64 b, .int .i64 c, .string t] 23)) := (Below.refl _ _).alloc (Nat.le_refl _) _
  have X0 := Bx.new w [.int .i64 k, .int .i64 a, .int .i64 b, .int .i64 c, .string t] 23
  by_cases hs : (1048576 : Int) < (t.size : Int)
  · rw [if_pos hs] at CS
    clear hs
    go_enter Tryz.func3, Tryz.ntmps3
    go_wp2_with fail
    refine (dUnhide CS _).mono ?_
    rintro e w1 ⟨rfl, b1⟩
    have B1 := belowThen B0 b1
    clear b1 B0 X0 CT C1 C2
    go_wp2
    go_ret
    exact ⟨rfl, B1⟩
  · rw [if_neg hs] at CS
    have hs' : ¬ ((1048576 : Int) - (t.size : Int) < 0) := by omega
    go_enter Tryz.func3, Tryz.ntmps3
    go_wp2_with fail
    generalize w.alloc (.cells #[.int .i64 k, .int .i64 a, .int .i64 b, .int .i64 c, .string t] 23) = w0 at *
    refine (dUnhide CS _).mono ?_
    rintro e w1 ⟨rfl, b1⟩
    have X1 := X0.below b1
    have B1 := belowThen B0 b1
    have k0 := X1 0 _ rfl
    have k1 := X1 1 _ rfl
    have k2 := X1 2 _ rfl
    have k3 := X1 3 _ rfl
    have k4 := X1 4 _ rfl
    clear X0 b1 B0 CS
    go_wp2_with fail
    refine (dUnhide CT _).mono ?_
    rintro e w2 ⟨rfl, b2⟩
    have X2 := X1.below b2
    have B2 := belowThen B1 b2
    clear k0 k1 k2 k3 k4 X1 B1 b2
    go_wp2_with fail
    refine (dUnhide C1 _).mono ?_
    rintro e w3 ⟨rfl, b3⟩
    have X3 := X2.below b3
    have B3 := belowThen B2 b3
    have k0 := X3 0 _ rfl
    have k1 := X3 1 _ rfl
    have k2 := X3 2 _ rfl
    have k3 := X3 3 _ rfl
    have k4 := X3 4 _ rfl
    clear X2 B2 b3
    go_wp2_with fail
    refine (dUnhide CT _).mono ?_
    rintro e w4 ⟨rfl, b4⟩
    have B4 := belowThen B3 b4
    clear k0 k1 k2 k3 k4 X3 B3 b4
    go_wp2_with fail
    refine (dUnhide C2 _ B4).mono ?_
    rintro e w5 ⟨rfl, b5⟩
    have B5 := belowThen B4 b5
    clear B4 b5 C1 C2 CT
    cases q
    all_goals
      go_wp2
      go_ret
      exact ⟨rfl, B5⟩
section
variable {H : Type} {enc : TypeId × Value → H} {W : World} {r : Reach} {b0 base : Nat} {sp : Nat → Bool} {held : Bool} {v : Value} {d : DataW H} {p : List MemPlace}
theorem open_DeedI (hv : Value.okWide Tryz.prog W r b0 23 v) (h : DataW.Trod enc Tryz.prog W base sp held 23 v d p) : ∃ e : De, v = e.val ∧ e.fits ∧ e.ints := by
  obtain ⟨v0, v1, v2, v3, v4, y0, y1, y2, y3, y4, n, rfl, h0, h1, h2, h3, h4⟩ := open_agg5 Tryz.underlying23 (by kernel_rfl) (by kernel_rfl) hv h
  obtain ⟨n0, e0, i0, w0⟩ := DataW.trod_int Tryz.underlying3 h0
  obtain ⟨n1, e1, i1, w1⟩ := DataW.trod_int Tryz.underlying3 h1
  obtain ⟨n2, e2, i2, w2⟩ := DataW.trod_int Tryz.underlying3 h2
  obtain ⟨n3, e3, i3, w3⟩ := DataW.trod_int Tryz.underlying3 h3
  obtain ⟨s4, e4, -, w4⟩ := DataW.trod_string Tryz.underlying9 h4
  cases e0; cases e1; cases e2; cases e3; cases e4
  exact ⟨⟨n0, n1, n2, n3, s4⟩, rfl, w4, bounds_i64 w1, bounds_i64 w2, bounds_i64 w3⟩
end
end Go.Proofs.YtmgomacmaidmlaaGreatDoor
