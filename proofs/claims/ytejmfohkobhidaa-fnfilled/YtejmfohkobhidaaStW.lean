/- Draws of stores: l6Draw. -/
import Derived.Test.YtejmfohkobhidaaStU
import Derived.Test.YtejmfohkobhidaaDrawG
namespace Go.Proofs.Ytejmfohkobhidaa
open Go.ChangeShapes Go.WideShapes Go.ChangeAt Go.RowKit
set_option linter.unusedVariables false
set_option linter.unusedSimpArgs false
set_option maxRecDepth 100000

/-- How many are late, by the store's block. -/
def lateLen (W : World) (b : Nat) : Nat := match W.cell? ⟨b, 1, none⟩ with
  | some (.slice _ n _) => n
  | _ => 0
theorem lateLen_of {W : World} {b n c : Nat} {a : Option Addr} (h : W.cell? ⟨b, 1, none⟩ = some (.slice a n c)) : lateLen W b = n := by unfold lateLen; rw [h]
set_option maxHeartbeats 8000000 in
theorem l6Draw_any (bk : Nat) (w : World) (hc : Cur w bk) :
    Calls Try.prog 26 #[.pointer (some ⟨bk, 0, none⟩)] w fun e w' => (∃ u, e = .returned u ∧ Drew6 w w' u 300 30) ∧ Cur w' bk ∧ Drawn bk w w' := by
  have ba : ∀ (w : World) o, Below w.heap.size w (w.alloc o) := fun w o => (Below.refl _ _).alloc (Nat.le_refl _) o
  have hk := hc.lt
  have b0 := ba w (.cells #[.slice none 0 0, .slice none 0 0, .int .i64 0] 26)
  have Z0 := BxZ.new (B := w.heap.size) w [.slice none 0 0, .slice none 0 0, .int .i64 0] 26 (Nat.le_refl _)
  have hc0 := hc.below b0
  have e1 : (w.alloc (.cells #[.slice none 0 0, .slice none 0 0, .int .i64 0] 26)).heap.size = w.heap.size + 1 := by simp
  go_enter Try.func26, Try.ntmps26
  go_wp2_with fail
  generalize w.alloc (.cells #[.slice none 0 0, .slice none 0 0, .int .i64 0] 26) = w0 at *
  refine (l6DrawRight_any bk w0 hc0).mono ?_
  rintro e w1 ⟨⟨u, rfl, s, O1, hf, hkl, hll⟩, hc1, hd1⟩
  rw [e1] at O1
  obtain ⟨ka, kc, la, lc, rfl⟩ := O1.shape
  have D1 : DE w bk (w.heap.size + 1) w1.heap.size (w1.alloc (.cells #[.slice ka s.kept.length kc, .slice la s.late.length lc, .int .i64 s.lock] 26)) s ka kc la lc := by
    have bA := ba w1 (.cells #[.slice ka s.kept.length kc, .slice la s.late.length lc, .int .i64 s.lock] 26)
    obtain ⟨kv, lv, e, p1, p2, p3⟩ := O1
    cases e
    have hsz := hd1.size
    exact ⟨BxZ.new w1 [.slice ka s.kept.length kc, .slice la s.late.length lc, .int .i64 s.lock] 26 (by omega), p1.below bA, p2.below bA, p3, (Z0.drawn hd1 (by omega)).below bA, hc1.below bA, ((Drawn.of_below b0).trans hd1).trans (Drawn.of_below bA), hf, fun e => by have := (p1.touched elemE e).2; omega, fun e => by have := (p2.touched elemE e).2; omega⟩
  have hb1 : w.heap.size < w1.heap.size := by have := hd1.size; omega
  clear O1 hf hc1 hd1 Z0 b0 hc0 hc
  go_wp2_with fail
  have hsz : w1.heap.size < (w1.alloc (.cells #[.slice ka s.kept.length kc, .slice la s.late.length lc, .int .i64 s.lock] 26)).heap.size := by simp
  generalize w1.alloc (.cells #[.slice ka s.kept.length kc, .slice la s.late.length lc, .int .i64 s.lock] 26) = w2 at *
  generalize w1.heap.size = b0 at *
  refine (l1Below_any bk 25 (by omega) (by omega) _ D1.cur).mono ?_
  rintro e w3 ⟨⟨x, hx, rfl⟩, hc3, hd3⟩
  have D3 := D1.move hk (by omega) (by omega) hc3 hd3
  have hsz3 := Nat.lt_of_lt_of_le hsz hd3.size
  clear D1 hc3 hd3 hsz
  by_cases hx0 : x = 0
  · subst hx0
    have b4 := ba w3 (.cells #[.int .i64 (-1), .int .i64 30, .int .i64 31] 3)
    have CP := dHide (pick_new (w := w3) D3.cur [-1, 30, 31] 3 (by simp) (by simp) 3)
    go_wp2_with fail
    refine (dUnhide CP).mono ?_
    rintro e w4 ⟨⟨v, hv, rfl⟩, hc4, hd4⟩
    have D4 := D3.move hk (by omega) (by omega) hc4 hd4
    have D5 := D4.lock hk (by omega) v (by simp at hv; omega)
    obtain ⟨k0, -⟩ := D4.box.2 0 _ rfl
    obtain ⟨k1, -⟩ := D4.box.2 1 _ rfl
    obtain ⟨k2, g2⟩ := D4.box.2 2 _ rfl
    obtain ⟨z0, f0⟩ := D4.res.2 0 _ rfl
    obtain ⟨z1, f1⟩ := D4.res.2 1 _ rfl
    obtain ⟨z2, f2⟩ := D4.res.2 2 _ rfl
    obtain ⟨hx, hO, hC, hD⟩ := D5.out hk (by omega)
    have HX := dHide hx
    have HO := dHide hO
    have HC := dHide hC
    have HDD := dHide hD
    have HF := dHide D5.fit
    have hbn : b0 ≠ w.heap.size := by omega
    clear hx hO hC hD D5 D4 D3 CP b4 hc4 hd4 hv
    go_wp2
    generalize (((w4.setCell ⟨b0, 2, none⟩ (.int .i64 v)).setCell ⟨w.heap.size, 0, none⟩ (.slice ka s.kept.length kc)).setCell ⟨w.heap.size, 1, none⟩ (.slice la s.late.length lc)).setCell ⟨w.heap.size, 2, none⟩ (.int .i64 v) = V at *
    have q0 := dUnhide HX 0 _ rfl
    have q1 := dUnhide HX 1 _ rfl
    have q2 := dUnhide HX 2 _ rfl
    clear z0 z1 z2 f0 f1 f2 k0 k1 k2 g2
    refine bodyPost_ret (v := .agg #[.slice ka s.kept.length kc, .slice la s.late.length lc, .int .i64 v]) (by simp [results, Try.results26, go_sem, q0, q1, q2]) rfl ⟨⟨_, rfl, ⟨s.kept, s.late, v⟩, dUnhide HO, dUnhide HF, by simp only; omega, by simp only; omega⟩, dUnhide HC, dUnhide HDD⟩
  by_cases hx1 : x = 1
  · subst hx1
    have CD := dHide fun W (h : DE w bk (w.heap.size + 1) b0 W s ka kc la lc) => l3Draw_any bk W h.cur
    have Dd := D3.below hk (by omega) (by omega) (Below.refl _ _).drew
    have ADD : Hid (∀ w5, DE w bk (w.heap.size + 1) b0 w5 s ka kc la lc → b0 < w5.heap.size → ∀ yx yw yh yd, (⟨yx, yw, yh, yd⟩ : Ent).fits → ∃ a' c' w7, (Builtin.append_ #[24, 24] 24 #[.slice ka s.kept.length kc, .slice (some ⟨w5.heap.size, 0, none⟩) 1 1]).run Try.prog (w5.alloc (.cells #[.int .i64 yx, .int .i64 yw, .bool yh, .string yd] 28)) = .ok (.slice a' (s.kept.length + 1) c') w7 ∧ BxZ w7 w.heap.size b0 [.slice ka s.kept.length kc, .slice la s.late.length lc, .int .i64 s.lock] ∧ DE w bk (w.heap.size + 1) b0 (w7.setCell ⟨b0, 0, none⟩ (.slice a' (s.kept.length + 1) c')) ⟨s.kept ++ [⟨yx, yw, yh, yd⟩], s.late, s.lock⟩ a' c' la lc) := fun w5 D5 h5 yx yw yh yd he =>
      (D5.below hk (by omega) (by omega) (ba w5 (.cells #[.int .i64 yx, .int .i64 yw, .bool yh, .string yd] 28))).addK hk (by omega) (by omega) (by simp; omega) ⟨yx, yw, yh, yd⟩ he (by omega) 24 _ (rw_one w5 ⟨yx, yw, yh, yd⟩ 28 1 (by omega))
    obtain ⟨k0, -⟩ := D3.box.2 0 _ rfl
    go_wp2_with fail
    go_region_law (first
      | (refine step_appRun rfl _ _ 24 24 rfl _ _ rfl rfl hrun ?_)
      | (rw [if_pos (by rfl)]; go_simp; go_at_call 27; refine (dUnhide CD _ Dd).mono ?_; rintro r w5 ⟨⟨e5, he5, rfl⟩, hc5, hd5⟩; have D5 := Dd.move hk (by omega) (by omega) hc5 hd5; have h5 : b0 < w5.heap.size := Nat.lt_of_lt_of_le hsz3 hd5.size; obtain ⟨yx, yw, yh, yd⟩ := e5; obtain ⟨a', c', w7, hrun, N7, D7⟩ := dUnhide ADD w5 D5 h5 yx yw yh yd he5.1; have HD7 := dHide D7; obtain ⟨k5, -⟩ := D5.box.2 0 _ rfl; obtain ⟨k5a, -⟩ := (D5.below hk (by omega) (by omega) (ba w5 (.cells #[.int .i64 yx, .int .i64 yw, .bool yh, .string yd] 28))).box.2 0 _ rfl; obtain ⟨n0, g0⟩ := N7.2 0 _ rfl; unfold Ent.val; go_simp; clear N7 D7 D5 hc5 hd5))
    all_goals
      have D8 := dUnhide HD7
      clear hrun k0 k5 k5a n0 g0 HD7 ADD CD
      generalize w7.setCell ⟨b0, 0, none⟩ (.slice a' (s.kept.length + 1) c') = w8 at *
      obtain ⟨hx, hO, hC, hD⟩ := D8.out hk (by omega)
      have HX := dHide hx
      have HO := dHide hO
      have HC := dHide hC
      have HDD := dHide hD
      obtain ⟨m0, -⟩ := D8.box.2 0 _ rfl
      obtain ⟨m1, -⟩ := D8.box.2 1 _ rfl
      obtain ⟨m2, -⟩ := D8.box.2 2 _ rfl
      obtain ⟨z0, f0⟩ := D8.res.2 0 _ rfl
      obtain ⟨z1, f1⟩ := D8.res.2 1 _ rfl
      obtain ⟨z2, f2⟩ := D8.res.2 2 _ rfl
      have HF := dHide D8.fit
      have HL := dHide (show (⟨s.kept ++ [⟨yx, yw, yh, yd⟩], s.late, s.lock⟩ : St).kept.length ≤ 300 ∧ (⟨s.kept ++ [⟨yx, yw, yh, yd⟩], s.late, s.lock⟩ : St).late.length ≤ 30 from ⟨by simp only [List.length_append, List.length_singleton]; omega, by simp only [List.length_append, List.length_singleton]; omega⟩)
      generalize hXX : (⟨s.kept ++ [⟨yx, yw, yh, yd⟩], s.late, s.lock⟩ : St) = X at *
      clear hx hO hC hD D8 hXX
      go_wp2
      generalize ((w8.setCell ⟨w.heap.size, 0, none⟩ (.slice a' X.kept.length c')).setCell ⟨w.heap.size, 1, none⟩ (.slice la X.late.length lc)).setCell ⟨w.heap.size, 2, none⟩ (.int .i64 X.lock) = V at *
      have q0 := dUnhide HX 0 _ rfl
      have q1 := dUnhide HX 1 _ rfl
      have q2 := dUnhide HX 2 _ rfl
      clear z0 z1 z2 f0 f1 f2 m0 m1 m2
      refine bodyPost_ret (v := .agg #[.slice a' X.kept.length c', .slice la X.late.length lc, .int .i64 X.lock]) (by simp [results, Try.results26, go_sem, q0, q1, q2]) rfl ⟨⟨_, rfl, X, dUnhide HO, dUnhide HF, (dUnhide HL).1, (dUnhide HL).2⟩, dUnhide HC, dUnhide HDD⟩
  by_cases hx2 : x = 2
  · subst hx2
    have CD := dHide fun W (h : DE w bk (w.heap.size + 1) b0 W s ka kc la lc) => l3Draw_any bk W h.cur
    have Dd := D3.below hk (by omega) (by omega) (Below.refl _ _).drew
    have ADD : Hid (∀ w5, DE w bk (w.heap.size + 1) b0 w5 s ka kc la lc → b0 < w5.heap.size → ∀ yx yw yh yd, (⟨yx, yw, yh, yd⟩ : Ent).fits → ∃ a' c' w7, (Builtin.append_ #[24, 24] 24 #[.slice la s.late.length lc, .slice (some ⟨w5.heap.size, 0, none⟩) 1 1]).run Try.prog (w5.alloc (.cells #[.int .i64 yx, .int .i64 yw, .bool yh, .string yd] 28)) = .ok (.slice a' (s.late.length + 1) c') w7 ∧ BxZ w7 w.heap.size b0 [.slice ka s.kept.length kc, .slice la s.late.length lc, .int .i64 s.lock] ∧ DE w bk (w.heap.size + 1) b0 (w7.setCell ⟨b0, 1, none⟩ (.slice a' (s.late.length + 1) c')) ⟨s.kept, s.late ++ [⟨yx, yw, yh, yd⟩], s.lock⟩ ka kc a' c') := fun w5 D5 h5 yx yw yh yd he =>
      (D5.below hk (by omega) (by omega) (ba w5 (.cells #[.int .i64 yx, .int .i64 yw, .bool yh, .string yd] 28))).addL hk (by omega) (by omega) (by simp; omega) ⟨yx, yw, yh, yd⟩ he (by omega) 24 _ (rw_one w5 ⟨yx, yw, yh, yd⟩ 28 1 (by omega))
    obtain ⟨k0, -⟩ := D3.box.2 1 _ rfl
    go_wp2_with fail
    go_region_law (first
      | (refine step_appRun rfl _ _ 24 24 rfl _ _ rfl rfl hrun ?_)
      | (rw [if_pos (by rfl)]; go_simp; go_at_call 27; refine (dUnhide CD _ Dd).mono ?_; rintro r w5 ⟨⟨e5, he5, rfl⟩, hc5, hd5⟩; have D5 := Dd.move hk (by omega) (by omega) hc5 hd5; have h5 : b0 < w5.heap.size := Nat.lt_of_lt_of_le hsz3 hd5.size; obtain ⟨yx, yw, yh, yd⟩ := e5; obtain ⟨a', c', w7, hrun, N7, D7⟩ := dUnhide ADD w5 D5 h5 yx yw yh yd he5.1; have HD7 := dHide D7; obtain ⟨k5, -⟩ := D5.box.2 1 _ rfl; obtain ⟨k5a, -⟩ := (D5.below hk (by omega) (by omega) (ba w5 (.cells #[.int .i64 yx, .int .i64 yw, .bool yh, .string yd] 28))).box.2 1 _ rfl; obtain ⟨n0, g0⟩ := N7.2 1 _ rfl; unfold Ent.val; go_simp; clear N7 D7 D5 hc5 hd5))
    all_goals
      have D8 := dUnhide HD7
      clear hrun k0 k5 k5a n0 g0 HD7 ADD CD
      generalize w7.setCell ⟨b0, 1, none⟩ (.slice a' (s.late.length + 1) c') = w8 at *
      obtain ⟨hx, hO, hC, hD⟩ := D8.out hk (by omega)
      have HX := dHide hx
      have HO := dHide hO
      have HC := dHide hC
      have HDD := dHide hD
      obtain ⟨m0, -⟩ := D8.box.2 0 _ rfl
      obtain ⟨m1, -⟩ := D8.box.2 1 _ rfl
      obtain ⟨m2, -⟩ := D8.box.2 2 _ rfl
      obtain ⟨z0, f0⟩ := D8.res.2 0 _ rfl
      obtain ⟨z1, f1⟩ := D8.res.2 1 _ rfl
      obtain ⟨z2, f2⟩ := D8.res.2 2 _ rfl
      have HF := dHide D8.fit
      have HL := dHide (show (⟨s.kept, s.late ++ [⟨yx, yw, yh, yd⟩], s.lock⟩ : St).kept.length ≤ 300 ∧ (⟨s.kept, s.late ++ [⟨yx, yw, yh, yd⟩], s.lock⟩ : St).late.length ≤ 30 from ⟨by simp only [List.length_append, List.length_singleton]; omega, by simp only [List.length_append, List.length_singleton]; omega⟩)
      generalize hXX : (⟨s.kept, s.late ++ [⟨yx, yw, yh, yd⟩], s.lock⟩ : St) = X at *
      clear hx hO hC hD D8 hXX
      go_wp2
      generalize ((w8.setCell ⟨w.heap.size, 0, none⟩ (.slice ka X.kept.length kc)).setCell ⟨w.heap.size, 1, none⟩ (.slice a' X.late.length c')).setCell ⟨w.heap.size, 2, none⟩ (.int .i64 X.lock) = V at *
      have q0 := dUnhide HX 0 _ rfl
      have q1 := dUnhide HX 1 _ rfl
      have q2 := dUnhide HX 2 _ rfl
      clear z0 z1 z2 f0 f1 f2 m0 m1 m2
      refine bodyPost_ret (v := .agg #[.slice ka X.kept.length kc, .slice a' X.late.length c', .int .i64 X.lock]) (by simp [results, Try.results26, go_sem, q0, q1, q2]) rfl ⟨⟨_, rfl, X, dUnhide HO, dUnhide HF, (dUnhide HL).1, (dUnhide HL).2⟩, dUnhide HC, dUnhide HDD⟩
  by_cases hx3 : x = 3
  · subst hx3
    go_wp2
    go_loopw [] (fun wq => ∃ (X : St) (xa : Option Addr) (xc : Nat) (ya : Option Addr) (yc : Nat), DE w bk (w.heap.size + 1) b0 wq X xa xc ya yc ∧ X.kept.length ≤ 200 ∧ X.late.length ≤ 21 ∧ b0 < wq.heap.size) (fun wq => 30 - lateLen wq b0)
    case atStart => exact ⟨s, ka, kc, la, lc, D3, hkl, by omega, hsz3⟩
    case round =>
      obtain ⟨X, xa, xc, ya, yc, D4, hXk, hXl, hsz4⟩ := hrel
      clear D3 hsz3
      have ml : lateLen wr b0 = X.late.length := lateLen_of (D4.box.2 1 _ rfl).1
      have HM := dHide ml
      clear ml
      have CB := dHide fun W (h : DE w bk (w.heap.size + 1) b0 W X xa xc ya yc) => l1Below_any bk 2 (by omega) (by omega) W h.cur
      have CPl : Hid (∀ W, Calls Try.prog 62 #[.int .i64 5, .int .i64 1] W fun e w' => e = .returned (.int .i64 21474836481) ∧ W = w') := fun W => (l1Place_in 5 1 (by omega) (by omega) (by omega) (by omega) W).mono fun e w' ⟨h1, h2⟩ => ⟨by rw [h1]; rfl, h2⟩
      have Dd := D4.below hk (by omega) (by omega) (Below.refl _ _).drew
      obtain ⟨k1, -⟩ := D4.box.2 1 _ rfl
      go_wp2_with fail
      go_region_law (rw [if_pos (by rfl)]; go_simp; go_at_call 44; refine (dUnhide CB _ Dd).mono ?_; rintro r w5 ⟨⟨y, hy, rfl⟩, hc5, hd5⟩; have D5 := Dd.move hk (by omega) (by omega) hc5 hd5; have h5 : b0 < w5.heap.size := Nat.lt_of_lt_of_le hsz4 hd5.size; obtain ⟨k5, -⟩ := D5.box.2 1 _ rfl; have hwy : IntKind.i64.wrap (20 + (y : Int)) = 20 + (y : Int) := (by rw [IntKind.wrap_i64]; omega); go_simp; clear hc5 hd5)
      all_goals
        clear Dd CB k1 D4
        by_cases hcc : (X.late.length : Int) < 20 + (y : Int)
        · have hd : decide ((X.late.length : Int) < 20 + (y : Int)) = true := decide_eq_true hcc
          have bE := ba w5 (.cells #[.int .i64 21474836481, .int .i64 0, .bool false, .string ⟨#[]⟩] 28)
          have D6 := (D5.below hk (by omega) (by omega) bE).below hk (by omega) (by omega) (Below.refl _ _).drew
          have hR := (rw_one w5 ⟨21474836481, 0, false, ⟨#[]⟩⟩ 28 1 (by omega)).below (Below.refl _ _).drew
          obtain ⟨a', c', w7, hrun, N7, D7⟩ := D6.addL hk (by omega) (by omega) (Nat.le_trans (by omega) bE.size) ⟨21474836481, 0, false, ⟨#[]⟩⟩ ⟨by simp only; omega, by simp only; omega, by simp only; omega, by simp only; omega, Nat.zero_le _⟩ (by omega) 24 _ hR
          have HD7 := dHide D7
          have hs7 := D7.box.lt
          have HM7 := dHide (lateLen_of (D7.box.2 1 _ rfl).1)
          obtain ⟨k5a, -⟩ := (D5.below hk (by omega) (by omega) bE).box.2 1 _ rfl
          obtain ⟨n0, f0⟩ := N7.2 1 _ rfl
          clear D5 D6 hR N7 D7 bE
          go_wp2
          go_region_law (first | (refine step_appRun rfl _ _ 24 24 rfl _ _ rfl rfl hrun ?_) | (rw [if_pos (by rfl)]; go_simp; go_at_call 62; refine (dUnhide CPl _).mono ?_; rintro r w6 ⟨rfl, rfl⟩; go_simp))
          all_goals
            go_wp2
            go_roundw
            case rel => exact ⟨⟨X.kept, X.late ++ [⟨21474836481, 0, false, ⟨#[]⟩⟩], X.lock⟩, xa, xc, a', c', dUnhide HD7, hXk, by simp only [List.length_append, List.length_singleton]; omega, hs7⟩
            case measure =>
              have h1 := dUnhide HM7
              have h2 := dUnhide HM
              simp only [List.length_append, List.length_singleton] at h1
              omega
        · have hd : decide ((X.late.length : Int) < 20 + (y : Int)) = false := decide_eq_false hcc
          obtain ⟨hx, hO, hC, hD⟩ := D5.out hk (by omega)
          have HX := dHide hx
          have HO := dHide hO
          have HC := dHide hC
          have HDD := dHide hD
          obtain ⟨m0, -⟩ := D5.box.2 0 _ rfl
          obtain ⟨m1, -⟩ := D5.box.2 1 _ rfl
          obtain ⟨m2, -⟩ := D5.box.2 2 _ rfl
          obtain ⟨z0, f0⟩ := D5.res.2 0 _ rfl
          obtain ⟨z1, f1⟩ := D5.res.2 1 _ rfl
          obtain ⟨z2, f2⟩ := D5.res.2 2 _ rfl
          have HF := dHide D5.fit
          have HL := dHide (show X.kept.length ≤ 300 ∧ X.late.length ≤ 30 from ⟨by omega, by omega⟩)
          clear hx hO hC hD D5
          go_wp2
          generalize ((w5.setCell ⟨w.heap.size, 0, none⟩ (.slice xa X.kept.length xc)).setCell ⟨w.heap.size, 1, none⟩ (.slice ya X.late.length yc)).setCell ⟨w.heap.size, 2, none⟩ (.int .i64 X.lock) = V at *
          have q0 := dUnhide HX 0 _ rfl
          have q1 := dUnhide HX 1 _ rfl
          have q2 := dUnhide HX 2 _ rfl
          clear z0 z1 z2 f0 f1 f2 m0 m1 m2
          refine bodyPost_ret (v := .agg #[.slice xa X.kept.length xc, .slice ya X.late.length yc, .int .i64 X.lock]) (by simp [results, Try.results26, go_sem, q0, q1, q2]) rfl ⟨⟨_, rfl, X, dUnhide HO, dUnhide HF, (dUnhide HL).1, (dUnhide HL).2⟩, dUnhide HC, dUnhide HDD⟩
  have hxx : ¬ (x : Int) = 0 ∧ ¬ (x : Int) = 1 ∧ ¬ (x : Int) = 2 ∧ ¬ (x : Int) = 3 := by omega
  obtain ⟨hx, hO, hC, hD⟩ := D3.out hk (by omega)
  have HX := dHide hx
  have HO := dHide hO
  have HC := dHide hC
  have HDD := dHide hD
  obtain ⟨m0, -⟩ := D3.box.2 0 _ rfl
  obtain ⟨m1, -⟩ := D3.box.2 1 _ rfl
  obtain ⟨m2, -⟩ := D3.box.2 2 _ rfl
  obtain ⟨z0, f0⟩ := D3.res.2 0 _ rfl
  obtain ⟨z1, f1⟩ := D3.res.2 1 _ rfl
  obtain ⟨z2, f2⟩ := D3.res.2 2 _ rfl
  have HF := dHide D3.fit
  have HL := dHide (show s.kept.length ≤ 300 ∧ s.late.length ≤ 30 from ⟨by omega, by omega⟩)
  generalize hXX : s = X at *
  clear hx hO hC hD D3 hXX
  go_wp2
  generalize ((w3.setCell ⟨w.heap.size, 0, none⟩ (.slice ka X.kept.length kc)).setCell ⟨w.heap.size, 1, none⟩ (.slice la X.late.length lc)).setCell ⟨w.heap.size, 2, none⟩ (.int .i64 X.lock) = V at *
  have q0 := dUnhide HX 0 _ rfl
  have q1 := dUnhide HX 1 _ rfl
  have q2 := dUnhide HX 2 _ rfl
  clear z0 z1 z2 f0 f1 f2 m0 m1 m2
  refine bodyPost_ret (v := .agg #[.slice ka X.kept.length kc, .slice la X.late.length lc, .int .i64 X.lock]) (by simp [results, Try.results26, go_sem, q0, q1, q2]) rfl ⟨⟨_, rfl, X, dUnhide HO, dUnhide HF, (dUnhide HL).1, (dUnhide HL).2⟩, dUnhide HC, dUnhide HDD⟩
end Go.Proofs.Ytejmfohkobhidaa
