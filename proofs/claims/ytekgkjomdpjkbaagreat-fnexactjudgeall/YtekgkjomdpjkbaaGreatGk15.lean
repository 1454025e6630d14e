/- Several texts in one: JgX, JgM, JgY, JgL. -/
import Derived.Test.YtekgkjomdpjkbaaGreatGk19
import Derived.Test.YtekgkjomdpjkbaaGreatGbP
import Derived.Test.YtekgkjomdpjkbaaGreatGaC
import Derived.Deep.RegionHeld3
import Derived.Deep.DeepCutAuto
import Derived.Test.YtekgkjomdpjkbaaGreatGk8
import Derived.Test.YtekgkjomdpjkbaaGreatGz22
namespace Go.Proofs.YtekgkjomdpjkbaaGreat
open Go.ChangeShapes Go.WideShapes Go.ChangeAt Go.RowKit
set_option linter.unusedSimpArgs false
set_option linter.unusedVariables false
set_option maxRecDepth 100000
def askE (a b : Rr) (tr : Int) (e : Ev) : Prop := isPl e.pl ∧ tr < e.pl ∧ e.pl < plN a ∧ e.pl < plN b
def sameE (a b : Rr) (e : Ev) : Prop := (taleM b.out e.pl).isSome = true ∧ (taleM a.out e.pl).getD ⟨#[]⟩ = (taleM b.out e.pl).getD ⟨#[]⟩
def agreeE (a b : Rr) (tr : Int) (e : Ev) : Prop := askE a b tr e → sameE a b e
def agreeP (a b : Rr) (tr : Int) : Prop := ∀ e ∈ evK [1] a.out, agreeE a b tr e
def agreeM (a b : Rr) (tr : Int) : Prop := ∀ x ∈ talesR a, askE a b tr x → (evAt (talesR b) x.pl).getD zeroEv = x
theorem evK_kind {l : List Ev} {e : Ev} (h : e ∈ evK [1] l) : e.kind = 1 := by simpa using (List.mem_filter.1 h).2
theorem talesR_kind {r : Rr} {e : Ev} (h : e ∈ talesR r) : e.kind = 1 := evK_kind (evAt_mem (talesL_mem.1 h)).1
theorem evAt_kind {r : Rr} {z : Int} {e : Ev} (h : evAt (talesR r) z = some e) : e.kind = 1 ∧ e.pl = z := ⟨talesR_kind (evAt_mem h).1, (evAt_mem h).2⟩
theorem agreeP_iff (a b : Rr) (tr : Int) : agreeP a b tr ↔ agreeM a b tr := by
 constructor
 ·intro h x hx ask
  have hx' := talesL_mem.1 hx
  have ha : evAt (talesR a) x.pl = some x := by rw [talesR_at]; exact hx'
  obtain ⟨h1, h2⟩ := h x (evAt_mem hx').1 ask
  rw [tale_talesR] at h1 h2
  rw [tale_talesR] at h2
  rw [ha] at h2
  cases hq : evAt (talesR b) x.pl with
  | none => rw [hq] at h1; cases h1
  | some y =>
   rw [hq] at h2
   obtain ⟨k1, k2⟩ := evAt_kind hq
   have k3 := talesR_kind hx
   obtain ⟨x0, x1, x2⟩ := x
   obtain ⟨y0, y1, y2⟩ := y
   simp only [Option.map_some, Option.getD_some] at h2 k1 k2 k3 ⊢
   rw [k1, k2, k3, h2]
 ·intro h e he ask
  have hs : (evAt (evK [1] a.out) e.pl).isSome = true := by
   cases hq : evAt (evK [1] a.out) e.pl with
   | none => have := List.find?_eq_none.1 hq e he; simp at this
   | some _ => rfl
  obtain ⟨x, hx⟩ := Option.isSome_iff_exists.1 hs
  obtain ⟨m1, m2⟩ := evAt_mem hx
  have hxm : x ∈ talesR a := talesL_mem.2 (by rw [m2]; exact hx)
  have hh := h x hxm (by unfold askE at ask ⊢; rw [m2]; exact ask)
  rw [m2] at hh
  have ha : evAt (talesR a) e.pl = some x := by rw [talesR_at]; exact hx
  unfold sameE
  rw [tale_talesR, tale_talesR, ha]
  cases hq : evAt (talesR b) e.pl with
  | none =>
   rw [hq] at hh
   have := talesR_kind hxm
   rw [← hh] at this
   cases this
  | some y =>
   rw [hq] at hh
   simp only [Option.getD_some] at hh
   subst hh
   exact ⟨rfl, rfl⟩
theorem placeOk_iff (x : Int) (l : -9223372036854775808 ≤ x) (u : x ≤ 9223372036854775807) (w : World) : Calls Tryz.prog 184 #[.int .i64 x] w fun e w' => RetB (isPl x) e ∧ Below w.heap.size w w' := by
 by_cases h : isPl x
 ·exact (implOk_yes x h w).mono fun e w' h' => ⟨h'.1 ▸ RetB.yes h, h'.2⟩
 ·exact (implOk_no x l u h w).mono fun e w' h' => ⟨h'.1 ▸ RetB.no h, h'.2⟩
theorem sPlaceOk_iff (x : Int) (l : -9223372036854775808 ≤ x) (u : x ≤ 9223372036854775807) (w : World) : Calls Tryz.prog 83 #[.int .i64 x] w fun e w' => RetB (isPl x) e ∧ Below w.heap.size w w' := by
 by_cases h : isPl x
 ·exact (specOk_yes x h w).mono fun e w' h' => ⟨h'.1 ▸ RetB.yes h, by have := h'.2; subst this; exact Below.refl _ _⟩
 ·exact (specOk_no x u h w).mono fun e w' h' => ⟨h'.1 ▸ RetB.no h, by have := h'.2; subst this; exact Below.refl _ _⟩
set_option maxHeartbeats 16000000 in
theorem specAgree_any (c0 c1 c2 c3 c4 c6 c7 c8 c9 c10 va vb : Value) (a b : Rr) (tr : Int) (w : World) (hva : RdReader va a w) (hvb : RdReader vb b w) (ha : smallR a) (hb : smallR b) (hp : plsR a) :
  Calls Tryz.prog 54 #[.agg #[c0, c1, c2, c3, c4, .int .i64 tr, c6, c7, c8, c9, c10], va, vb] w fun e w' => RetB (agreeP a b tr) e ∧ Below w.heap.size w w' := by
 have ba' : ∀ (w : World) o, Below w.heap.size w (w.alloc o) := fun w o => (Below.refl _ _).alloc (Nat.le_refl _) o
 have CA0 := dH fun p W (hW : Below w.heap.size w W) => specPassed_any va a p W (hva.below hW) ha
 have CB0 := dH fun p W (hW : Below w.heap.size w W) => specPassed_any vb b p W (hvb.below hW) hb
 have TA0 := dH fun p W (hW : Below w.heap.size w W) => told_any va a p W (hva.below hW)
 have TB0 := dH fun p W (hW : Below w.heap.size w W) => told_any vb b p W (hvb.below hW)
 obtain ⟨sv, rfl, hs⟩ := hva
 obtain ⟨aa, ac, rfl, hul⟩ := formEventS hs
 obtain ⟨sv, rfl, hs'⟩ := hvb
 obtain ⟨ba, bc, rfl, -⟩ := formEventS hs'
 have HU := dH fun W (hW : Below w.heap.size w W) => hs.below hW
 clear hs hs' ha hb
 have b1 := ba' w (.cells #[c0, c1, c2, c3, c4, .int .i64 tr, c6, c7, c8, c9, c10] 47)
 have b2 := ba' (w.alloc (.cells #[c0, c1, c2, c3, c4, .int .i64 tr, c6, c7, c8, c9, c10] 47)) (.cells #[.int .i64 a.epoch, .int .i64 a.off, .slice aa a.out.length ac] 62)
 have b3 := ba' ((w.alloc (.cells #[c0, c1, c2, c3, c4, .int .i64 tr, c6, c7, c8, c9, c10] 47)).alloc (.cells #[.int .i64 a.epoch, .int .i64 a.off, .slice aa a.out.length ac] 62)) (.cells #[.int .i64 b.epoch, .int .i64 b.off, .slice ba b.out.length bc] 62)
 have e1 : (w.alloc (.cells #[c0, c1, c2, c3, c4, .int .i64 tr, c6, c7, c8, c9, c10] 47)).heap.size = w.heap.size + 1 := by simp
 have e2 : ((w.alloc (.cells #[c0, c1, c2, c3, c4, .int .i64 tr, c6, c7, c8, c9, c10] 47)).alloc (.cells #[.int .i64 a.epoch, .int .i64 a.off, .slice aa a.out.length ac] 62)).heap.size = w.heap.size + 2 := by simp
 have XW := ((Bx.new w [c0, c1, c2, c3, c4, .int .i64 tr, c6, c7, c8, c9, c10] 47).below b2).below b3
 have XA := (Bx.new (w.alloc (.cells #[c0, c1, c2, c3, c4, .int .i64 tr, c6, c7, c8, c9, c10] 47)) [.int .i64 a.epoch, .int .i64 a.off, .slice aa a.out.length ac] 62).below b3
 have XB := Bx.new ((w.alloc (.cells #[c0, c1, c2, c3, c4, .int .i64 tr, c6, c7, c8, c9, c10] 47)).alloc (.cells #[.int .i64 a.epoch, .int .i64 a.off, .slice aa a.out.length ac] 62)) [.int .i64 b.epoch, .int .i64 b.off, .slice ba b.out.length bc] 62
 rw [e1] at XA
 rw [e2] at XB
 have B0 := bT (bT b1 b2) b3
 clear b1 b2 b3 e1 e2
 have YES : Hid ((∀ i (h : i < a.out.length), a.out[i].kind = 1 → agreeE a b tr a.out[i]) → RetB (agreeP a b tr) (.returned (.bool true))) := fun h => RetB.yes fun e he => by
  obtain ⟨hm, hk⟩ := List.mem_filter.1 he
  obtain ⟨i, hi, rfl⟩ := List.getElem_of_mem hm
  exact h i hi (by simpa using hk)
 have NO : Hid (∀ k (h : k < a.out.length), a.out[k].kind = 1 → ¬ agreeE a b tr a.out[k] → RetB (agreeP a b tr) (.returned (.bool false))) := fun k h hk hn => RetB.no fun q => hn (q _ (List.mem_filter.2 ⟨List.getElem_mem h, by simp [hk]⟩))
 have HP := dH hp
 clear hp
 generalize agreeP a b tr = Q at *
 go_enter Tryz.func54, Tryz.ntmps54
 go_wp2
 generalize (((w.alloc (.cells #[c0, c1, c2, c3, c4, .int .i64 tr, c6, c7, c8, c9, c10] 47)).alloc (.cells #[.int .i64 a.epoch, .int .i64 a.off, .slice aa a.out.length ac] 62)).alloc (.cells #[.int .i64 b.epoch, .int .i64 b.off, .slice ba b.out.length bc] 62)) = w0 at *
 go_loopw [7] (fun y wr => ∃ k : Nat, y = .int .i64 (k : Int) ∧ k ≤ a.out.length ∧ Hid (∀ i (h : i < a.out.length), i < k → a.out[i].kind = 1 → agreeE a b tr a.out[i]) ∧ Below w0.heap.size w0 wr) (fun y _ => a.out.length - (intOf y).toNat)
 case atStart => exact ⟨0, rfl, Nat.zero_le _, fun i h h' => by omega, Below.refl _ _⟩
 case round =>
  obtain ⟨k, rfl, hk, hinv, hb⟩ := hrel
  replace XW := XW.below hb
  replace XA := XA.below hb
  replace XB := XB.below hb
  have a2 := XA 2 _ rfl
  by_cases hlt : (k : Int) < (a.out.length : Int)
  ·have hkl : k < a.out.length := by omega
   obtain ⟨eb, eo, rfl, he⟩ := (dU HU wr (bT B0 hb)).atEv hkl
   obtain ⟨g0, g1, g2⟩ := he k hkl
   have H2 : Hid ((a.out[k].kind = 1 → agreeE a b tr a.out[k]) → ∀ i (h : i < a.out.length), i < k + 1 → a.out[i].kind = 1 → agreeE a b tr a.out[i]) := fun hh i h hi => by
    by_cases e : i = k
    ·subst e; exact hh
    ·exact dU hinv i h (by omega)
   have FN := dH (dU NO k hkl)
   have hpl := dU HP _ (List.getElem_mem hkl)
   clear hinv he NO YES HP HU
   generalize a.out[k] = y at *
   obtain ⟨y0, y1, y2⟩ := y
   simp only at g0 g1 g2 hpl
   have CP := dH fun W => sPlaceOk_iff y1 hpl.1 hpl.2 W
   have CA := dH fun W hW => dU CA0 y1 W hW
   have CB := dH fun W hW => dU CB0 y1 W hW
   have TA := dH fun W hW => dU TA0 y1 W hW
   have TB := dH fun W hW => dU TB0 y1 W hW
   clear CA0 CB0 TA0 TB0 hpl
   have XZ := Bx.new wr [.int .i64 y0, .int .i64 y1, .string y2] 81
   have b1 := ba' wr (.cells #[.int .i64 y0, .int .i64 y1, .string y2] 81)
   replace XW := XW.below b1
   replace XA := XA.below b1
   replace XB := XB.below b1
   replace hb := bT hb b1
   clear b1
   have z0 := XZ 0 _ rfl
   have z1 := XZ 1 _ rfl
   by_cases hk1 : y0 = 1
   case neg =>
    have H3 := dH (dU H2 (fun h => absurd h hk1))
    have hbk : (y0 == 1) = false := by simpa using hk1
    clear H2 CA CB TA TB CP XA XB XW XZ FN
    go_wp2
    go_roundw
    case rel => exact ⟨k + 1, by go_num, by omega, H3, hb⟩
    case measure => simp [intOf]; omega
   subst hk1
   go_wp2_with fail
   generalize wr.alloc (.cells #[.int .i64 1, .int .i64 y1, .string y2] 81) = wz at *
   refine (dU CP _).mono ?_
   rintro e w1 ⟨⟨q1, rfl, h1⟩, b1⟩
   clear z0 z1 a2 CP g0 g1 g2
   replace XZ := XZ.below b1
   replace XW := XW.below b1
   replace XA := XA.below b1
   replace XB := XB.below b1
   replace hb := bT hb b1
   clear b1
   have z1 := XZ 1 _ rfl
   have t0 := XW 5 _ rfl
   have a0 := XA 0 _ rfl
   have a1 := XA 1 _ rfl
   have a2 := XA 2 _ rfl
   have d0 := XB 0 _ rfl
   have d1 := XB 1 _ rfl
   have d2 := XB 2 _ rfl
   cases q1
   case false =>
    have H3 := dH (dU H2 (fun _ ask => absurd ask fun ask => by have := h1.2 ask.1; cases this))
    clear H2 CA CB TA TB XA XB XW XZ FN
    go_wp2
    go_roundw
    case rel => exact ⟨k + 1, by go_num, by omega, H3, hb⟩
    case measure => simp [intOf]; omega
   by_cases htr : y1 ≤ tr
   case pos =>
    have hd1 : decide (y1 ≤ tr) = true := decide_eq_true htr
    have H3 := dH (dU H2 (fun _ ask => absurd ask fun ask => by have := ask.2.1; simp only at this; omega))
    clear H2 CA CB TA TB XA XB XW XZ FN
    go_wp2_with fail
    rename_i fX hfX
    simp only [List.getElem?_cons_zero, Option.some.injEq] at hfX
    subst hfX
    go_wp2_with fail
    rename_i fY hfY
    simp only [List.getElem?_cons_zero, Option.some.injEq] at hfY
    subst hfY
    go_wp2
    all_goals
     go_roundw
     case rel => exact ⟨k + 1, by go_num, by omega, H3, hb⟩
     case measure => simp [intOf]; omega
   have hd1 : decide (y1 ≤ tr) = false := decide_eq_false htr
   go_wp2_with fail
   rename_i fX hfX
   simp only [List.getElem?_cons_zero, Option.some.injEq] at hfX
   subst hfX
   go_wp2_with fail
   rename_i fY hfY
   simp only [List.getElem?_cons_zero, Option.some.injEq] at hfY
   subst hfY
   go_wp2_with fail
   refine (dU CA _ (bT B0 hb)).mono ?_
   rintro e w2 ⟨⟨q2, rfl, h2⟩, b1⟩
   clear z1 t0 a0 a1 a2 d0 d1 d2
   replace XZ := XZ.below b1
   replace XW := XW.below b1
   replace XA := XA.below b1
   replace XB := XB.below b1
   replace hb := bT hb b1
   clear b1
   have z1 := XZ 1 _ rfl
   have t0 := XW 5 _ rfl
   have a0 := XA 0 _ rfl
   have a1 := XA 1 _ rfl
   have a2 := XA 2 _ rfl
   have d0 := XB 0 _ rfl
   have d1 := XB 1 _ rfl
   have d2 := XB 2 _ rfl
   cases q2
   case false =>
    have H3 := dH (dU H2 (fun _ ask => absurd ask fun ask => by have := h2.2 ask.2.2.1; cases this))
    clear H2 CA CB TA TB XA XB XW XZ FN
    go_wp2
    go_roundw
    case rel => exact ⟨k + 1, by go_num, by omega, H3, hb⟩
    case measure => simp [intOf]; omega
   go_wp2_with fail
   refine (dU CB _ (bT B0 hb)).mono ?_
   rintro e w3 ⟨⟨q3, rfl, h3⟩, b1⟩
   clear z1 t0 a0 a1 a2 d0 d1 d2
   replace XZ := XZ.below b1
   replace XW := XW.below b1
   replace XA := XA.below b1
   replace XB := XB.below b1
   replace hb := bT hb b1
   clear b1
   have z1 := XZ 1 _ rfl
   have t0 := XW 5 _ rfl
   have a0 := XA 0 _ rfl
   have a1 := XA 1 _ rfl
   have a2 := XA 2 _ rfl
   have d0 := XB 0 _ rfl
   have d1 := XB 1 _ rfl
   have d2 := XB 2 _ rfl
   cases q3
   case false =>
    have H3 := dH (dU H2 (fun _ ask => absurd ask fun ask => by have := h3.2 ask.2.2.2; cases this))
    clear H2 CA CB TA TB XA XB XW XZ FN
    go_wp2
    go_roundw
    case rel => exact ⟨k + 1, by go_num, by omega, H3, hb⟩
    case measure => simp [intOf]; omega
   have ASK : Hid (askE a b tr ⟨1, y1, y2⟩) := ⟨h1.1 (by first | trivial | rfl), by simp only; omega, h2.1 (by first | trivial | rfl), h3.1 (by first | trivial | rfl)⟩
   have SY : Hid ((taleM b.out y1).isSome = true → (taleM a.out y1).getD ⟨#[]⟩ = (taleM b.out y1).getD ⟨#[]⟩ → agreeE a b tr ⟨1, y1, y2⟩) := fun s1 s2 _ => ⟨s1, s2⟩
   have SN : Hid (¬ ((taleM b.out y1).isSome = true ∧ (taleM a.out y1).getD ⟨#[]⟩ = (taleM b.out y1).getD ⟨#[]⟩) → RetB Q (.returned (.bool false))) := fun h => dU FN (by first | trivial | rfl) fun q => h (q (dU ASK))
   clear h1 h2 h3 CA CB FN ASK
   go_wp2_with fail
   refine (dU TA _ (bT B0 hb)).mono ?_
   rintro e w4 ⟨rfl, b1⟩
   clear z1 t0 a0 a1 a2 d0 d1 d2
   replace XZ := XZ.below b1
   replace XW := XW.below b1
   replace XA := XA.below b1
   replace XB := XB.below b1
   replace hb := bT hb b1
   clear b1
   have z1 := XZ 1 _ rfl
   have t0 := XW 5 _ rfl
   have a0 := XA 0 _ rfl
   have a1 := XA 1 _ rfl
   have a2 := XA 2 _ rfl
   have d0 := XB 0 _ rfl
   have d1 := XB 1 _ rfl
   have d2 := XB 2 _ rfl
   unfold taleV at TB ⊢
   go_wp2_with fail
   refine (dU TB _ (bT B0 hb)).mono ?_
   rintro e w5 ⟨rfl, b1⟩
   replace hb := bT hb b1
   clear z1 t0 a0 a1 a2 d0 d1 d2
   clear TA TB XA XB XZ XW b1
   generalize (taleM a.out y1).getD ⟨#[]⟩ = da at *
   generalize (taleM a.out y1).isSome = sa at *
   generalize (taleM b.out y1).getD ⟨#[]⟩ = db at *
   generalize (taleM b.out y1).isSome = sb at *
   cases sb
   ·have R := dH (dU SN (fun h => by have := h.1; cases this))
    have B2 := bT B0 hb
    clear SN SY H2
    go_wp2
    go_ret
    exact ⟨dU R, B2⟩
   by_cases h : da = db
   ·have H3 := dH (dU H2 fun _ => dU SY rfl h)
    have hb3 : (db.toList == da.toList) = true := by rw [h]; simp
    clear SN SY H2
    subst h
    go_wp2
    go_roundw
    case rel => exact ⟨k + 1, by go_num, by omega, H3, hb⟩
    case measure => simp [intOf]; omega
   ·have R := dH (dU SN (fun q => h q.2))
    have B2 := bT B0 hb
    have hb3 : (db.toList == da.toList) = false := by
     rw [beq_eq_false_iff_ne]
     intro e
     refine h ?_
     rw [ByteArray.toList_eq, ByteArray.toList_eq] at e
     obtain ⟨⟨x⟩⟩ := da
     obtain ⟨⟨y⟩⟩ := db
     simp at e
     rw [e]
    clear SN SY H2 h
    go_wp2
    go_ret
    exact ⟨dU R, B2⟩
  ·have R := dH (dU YES fun i h => dU hinv i h (by omega))
   have B2 := bT B0 hb
   clear YES NO hinv HP HU CA0 CB0 TA0 TB0
   go_wp2
   go_ret
   exact ⟨dU R, B2⟩
set_option maxHeartbeats 16000000 in
theorem agrees_any (va vb : Value) (a b : Rr) (tr : Int) (w : World) (hva : RdReader va a w) (hvb : RdReader vb b w) (ha : smallR a) (hb : smallR b) (la : a.out.length ≤ 1048576) (lb : b.out.length ≤ 1048576) (hpa : plsR a) (hpb : plsR b) :
  Calls Tryz.prog 128 #[va, vb, .int .i64 tr] w fun e w' => RetB (agreeP a b tr) e ∧ Below w.heap.size w w' := by
 have ba' : ∀ (w : World) o, Below w.heap.size w (w.alloc o) := fun w o => (Below.refl _ _).alloc (Nat.le_refl _) o
 have CA0 := dH fun p W (hW : Below w.heap.size w W) => implPassed_any va a p W (hva.below hW) ha
 have CB0 := dH fun p W (hW : Below w.heap.size w W) => implPassed_any vb b p W (hvb.below hW) hb
 have TA0 := dH fun W (hW : Below w.heap.size w W) => tales_any va a W (hva.below hW) la hpa
 have TB0 := dH fun W (hW : Below w.heap.size w W) => tales_any vb b W (hvb.below hW) lb hpb
 have HP : Hid (∀ x ∈ talesR a, x.kind = 1 ∧ (-9223372036854775808 ≤ x.pl ∧ x.pl ≤ 9223372036854775807)) := fun x hx => ⟨talesR_kind hx, hpa x (List.mem_filter.1 (evAt_mem (talesL_mem.1 hx)).1).1⟩
 have HK : Hid (∀ z e, evAt (talesR b) z = some e → e.kind = 1 ∧ e.pl = z) := fun z e h => evAt_kind h
 have YES : Hid ((∀ x ∈ talesR a, askE a b tr x → (evAt (talesR b) x.pl).getD zeroEv = x) → RetB (agreeP a b tr) (.returned (.bool true))) := fun h => RetB.yes ((agreeP_iff a b tr).2 h)
 have NO : Hid (∀ x ∈ talesR a, askE a b tr x → ¬ (evAt (talesR b) x.pl).getD zeroEv = x → RetB (agreeP a b tr) (.returned (.bool false))) := fun x hx h1 h2 => RetB.no fun q => h2 ((agreeP_iff a b tr).1 q x hx h1)
 have ASK : Hid (∀ x : Ev, askE a b tr x ↔ isPl x.pl ∧ tr < x.pl ∧ x.pl < plN a ∧ x.pl < plN b) := fun x => Iff.rfl
 obtain ⟨sv, rfl, hs⟩ := hva
 obtain ⟨aa, ac, rfl, -⟩ := formEventS hs
 obtain ⟨sv, rfl, hs'⟩ := hvb
 obtain ⟨ba, bc, rfl, -⟩ := formEventS hs'
 clear hs hs' ha hb la lb hpa hpb
 generalize agreeP a b tr = Q at *
 generalize hLA : talesR a = LA at *
 generalize hLB : talesR b = LB at *
 generalize hAE : askE a b tr = AE at *
 generalize plN a = NA at *
 generalize plN b = NB at *
 clear hLA hLB hAE
 generalize a.epoch = aep at *
 generalize a.off = aof at *
 generalize a.out.length = al at *
 generalize b.epoch = bep at *
 generalize b.off = bof at *
 generalize b.out.length = bl at *
 have b1 := ba' w (.cells #[.int .i64 aep, .int .i64 aof, .slice aa al ac] 62)
 have b2 := ba' (w.alloc (.cells #[.int .i64 aep, .int .i64 aof, .slice aa al ac] 62)) (.cells #[.int .i64 bep, .int .i64 bof, .slice ba bl bc] 62)
 have e1 : (w.alloc (.cells #[.int .i64 aep, .int .i64 aof, .slice aa al ac] 62)).heap.size = w.heap.size + 1 := by simp
 have XA := (Bx.new w [.int .i64 aep, .int .i64 aof, .slice aa al ac] 62).below b2
 have XB := Bx.new (w.alloc (.cells #[.int .i64 aep, .int .i64 aof, .slice aa al ac] 62)) [.int .i64 bep, .int .i64 bof, .slice ba bl bc] 62
 rw [e1] at XB
 have B0 := bT b1 b2
 clear b1 b2 e1
 go_enter Tryz.func128, Tryz.ntmps128
 go_wp2_with fail
 generalize (w.alloc (.cells #[.int .i64 aep, .int .i64 aof, .slice aa al ac] 62)).alloc (.cells #[.int .i64 bep, .int .i64 bof, .slice ba bl bc] 62) = w0 at *
 refine (dU TB0 _ B0).mono ?_
 rintro e w1 ⟨⟨mb, rfl, TB⟩, b1⟩
 replace XA := XA.below b1
 replace XB := XB.below b1
 replace B0 := bT B0 b1
 clear b1 TB0
 have a0 := XA 0 _ rfl
 have a1 := XA 1 _ rfl
 have a2 := XA 2 _ rfl
 go_wp2_with fail
 refine (dU TA0 _ B0).mono ?_
 rintro e w2 ⟨⟨ma, rfl, TA⟩, b1⟩
 replace XA := XA.below b1
 replace XB := XB.below b1
 replace TB := dH (TB.below b1)
 replace B0 := bT B0 b1
 clear b1 TA0 a0 a1 a2
 have hh := dH TA
 clear TA
 go_wp2_with (first
  | (at_range; refine wp_taleRange _ rfl _ rfl ma LA rfl (dU hh) ?_; intro w3 hrg0 hg0 hs0)
  | go_in)
 go_frame
 go_loopw [8, 9, 10] (fun _ _ _ wr => ∃ ms, RangeT wr ma w2.heap.size LA ms ∧ Hid (∀ x ∈ ms, AE x → (evAt LB x.pl).getD zeroEv = x) ∧ Below w2.heap.size w2 wr) (fun _ _ _ wr => wr.rangeLeft ma w2.heap.size)
 case atStart => exact ⟨[], hrg0, (fun x h => by cases h), (Below.refl _ _).grown hg0 (Nat.le_refl _) (fun j hj => by cases hj)⟩
 case round =>
  obtain ⟨ms, hrg, hin, hb⟩ := hrel
  clear hrg0 hg0 hs0 hh
  go_wp2_with (first
   | (at_next; refine wp_taleNext _ rfl _ rfl ma w2.heap.size LA ms rfl hrg ?_ ?_)
   | go_in)
  ·intro hp
   have R := dH (dU YES fun x hx => dU hin x (hp x hx))
   have BF := bT B0 hb
   clear hp hin YES NO ASK HP HK CA0 CB0 TB XA XB
   go_wp2
   go_ret
   exact ⟨dU R, BF⟩
  ·intro x w4 hx hrg1 hlt hg1 hen
   obtain ⟨k1, hpl⟩ := dU HP x hx
   have hb1 : Below w2.heap.size w2 w4 := hb.grown hg1 hb.size (fun j hj => by cases hj; exact Nat.le_refl _)
   have NEXT : Hid (∀ W, Below w4.heap.size w4 W → (AE x → (evAt LB x.pl).getD zeroEv = x) → ∃ ms, RangeT W ma w2.heap.size LA ms ∧ Hid (∀ x ∈ ms, AE x → (evAt LB x.pl).getD zeroEv = x) ∧ Below w2.heap.size w2 W) := fun W hW hh => ⟨_, hrg1.below hW, fun y hy => by
    rcases List.mem_append.1 hy with hy | hy
    ·exact dU hin y hy
    ·obtain rfl : y = x := by simpa using hy
     exact hh, bT hb1 hW⟩
   have MEAS : Hid (∀ W, Below w4.heap.size w4 W → W.rangeLeft ma w2.heap.size < wr.rangeLeft ma w2.heap.size) := fun W hW => by
    rw [hrg1.left_below hW]
    exact hlt
   have NOX := dH (dU NO x hx)
   have AX := dH (dU ASK x)
   have LOOK : Hid (∀ W, Below w4.heap.size w4 W → (Instr.lookup 205 (.map (some mb)) (.int .i64 x.pl) false).run Tryz.prog W = .ok ((evAt LB x.pl).getD zeroEv).val W) := fun W hW => lookT W mb LB x.pl (((dU TB).below hb1).below hW) hpl
   have KX := dH (dU HK x.pl)
   have BW : Hid (∀ W, Below w4.heap.size w4 W → Below w.heap.size w W) := fun W hW => bT (bT B0 hb1) hW
   clear hin hlt hg1 hb hrg hrg1 HP HK NO ASK YES TB hx
   replace XA := (XA.below hb1)
   replace XB := (XB.below hb1)
   have CP := dH fun W => placeOk_iff x.pl hpl.1 hpl.2 W
   have CA := dH fun W hW => dU CA0 x.pl W hW
   have CB := dH fun W hW => dU CB0 x.pl W hW
   clear CA0 CB0 hpl hb1
   obtain ⟨y0, y1, y2⟩ := x
   simp only at k1
   subst k1
   dsimp only [Ev.val] at hen ⊢
   simp only at AX NOX LOOK CP CA CB NEXT KX
   have XZ := Bx.new w4 [.int .i64 1, .int .i64 y1, .string y2] 81
   have bz := ba' w4 (.cells #[.int .i64 1, .int .i64 y1, .string y2] 81)
   replace XA := XA.below bz
   replace XB := XB.below bz
   have B4 := bz
   clear bz
   go_wp2_with fail
   generalize w4.alloc (.cells #[.int .i64 1, .int .i64 y1, .string y2] 81) = w5 at *
   refine (dU CP _).mono ?_
   rintro e w6 ⟨⟨q1, rfl, h1⟩, b1⟩
   clear CP hen
   replace XZ := XZ.below b1
   replace XA := XA.below b1
   replace XB := XB.below b1
   replace B4 := bT B4 b1
   clear b1
   cases q1
   case false =>
    have N1 := dH (dU NEXT w6 B4 fun ask => by have := h1.2 ((dU AX).1 ask).1; cases this)
    have M1 := dH (dU MEAS w6 B4)
    clear NEXT MEAS NOX AX LOOK KX CA CB XA XB XZ h1 BW B4 B0
    go_wp2
    go_roundw
    case rel => exact dU N1
    case measure => exact dU M1
   by_cases htr : tr < y1
   case neg =>
    have N1 := dH (dU NEXT w6 B4 fun ask => by have := ((dU AX).1 ask).2.1; omega)
    have M1 := dH (dU MEAS w6 B4)
    have hd : decide (tr < y1) = false := decide_eq_false htr
    clear NEXT MEAS NOX AX LOOK KX CA CB XA XB XZ h1 BW B4 B0
    go_wp2
    go_roundw
    case rel => exact dU N1
    case measure => exact dU M1
   have hd : decide (tr < y1) = true := decide_eq_true htr
   have a0 := XA 0 _ rfl
   have a1 := XA 1 _ rfl
   have a2 := XA 2 _ rfl
   go_wp2_with fail
   refine (dU CA _ (dU BW _ B4)).mono ?_
   rintro e w7 ⟨⟨q2, rfl, h2⟩, b1⟩
   clear CA a0 a1 a2
   replace XZ := XZ.below b1
   replace XB := XB.below b1
   replace B4 := bT B4 b1
   clear b1 XA
   cases q2
   case false =>
    have N1 := dH (dU NEXT w7 B4 fun ask => by have := h2.2 ((dU AX).1 ask).2.2.1; cases this)
    have M1 := dH (dU MEAS w7 B4)
    clear NEXT MEAS NOX AX LOOK KX CB XB XZ h1 h2 BW B4 B0
    go_wp2
    go_roundw
    case rel => exact dU N1
    case measure => exact dU M1
   have a0 := XB 0 _ rfl
   have a1 := XB 1 _ rfl
   have a2 := XB 2 _ rfl
   go_wp2_with fail
   refine (dU CB _ (dU BW _ B4)).mono ?_
   rintro e w8 ⟨⟨q3, rfl, h3⟩, b1⟩
   clear CB a0 a1 a2
   replace XZ := XZ.below b1
   replace B4 := bT B4 b1
   clear b1 XB
   cases q3
   case false =>
    have N1 := dH (dU NEXT w8 B4 fun ask => by have := h3.2 ((dU AX).1 ask).2.2.2; cases this)
    have M1 := dH (dU MEAS w8 B4)
    clear NEXT MEAS NOX AX LOOK KX XZ h1 h2 h3 BW B4 B0
    go_wp2
    go_roundw
    case rel => exact dU N1
    case measure => exact dU M1
   have HX := dH ((dU AX).2 ⟨h1.1 (by first | trivial | rfl), htr, h2.1 (by first | trivial | rfl), h3.1 (by first | trivial | rfl)⟩)
   have NX := dH (dU NOX (dU HX))
   have z0 := XZ 0 _ rfl
   have z1 := XZ 1 _ rfl
   have z2 := XZ 2 _ rfl
   have LK := dU LOOK w8 B4
   have BF := dH (dU BW w8 B4)
   clear LOOK BW AX NOX h1 h2 h3 HX B0 XZ
   cases hq : evAt LB y1 with
   | none =>
    rw [hq] at NX LK
    have hn : ¬ zeroEv = (⟨1, y1, y2⟩ : Ev) := fun e => by have := congrArg Ev.kind e; cases this
    have R := dH (dU NX hn)
    have LK' : (Instr.lookup 205 (.map (some mb)) (.int .i64 y1) false).run Tryz.prog w8 = .ok (.agg #[.int .i64 0, .int .i64 0, .string ⟨#[]⟩]) w8 := LK
    have hb0 : ((0 : Int) == 1) = false := rfl
    clear NX LK hq hn NEXT MEAS KX B4
    go_wp2
    go_ret
    exact ⟨dU R, dU BF⟩
   | some q =>
    rw [hq] at NX LK
    obtain ⟨m1, m2⟩ := dU KX q hq
    have NE : Hid (q = ⟨1, y1, y2⟩ → ∃ ms, RangeT w8 ma w2.heap.size LA ms ∧ Hid (∀ x ∈ ms, AE x → (evAt LB x.pl).getD zeroEv = x) ∧ Below w2.heap.size w2 w8) := fun h => dU NEXT w8 B4 fun _ => by rw [hq]; exact h
    have M1 := dH (dU MEAS w8 B4)
    obtain ⟨q0, q1, q2⟩ := q
    simp only at m1 m2
    subst m1 m2
    have LK' : (Instr.lookup 205 (.map (some mb)) (.int .i64 q1) false).run Tryz.prog w8 = .ok (.agg #[.int .i64 1, .int .i64 q1, .string q2]) w8 := LK
    clear LK hq KX NEXT MEAS B4
    by_cases hd2 : q2 = y2
    ·subst hd2
     have N1 := dH (dU NE rfl)
     clear NE NX
     go_wp2
     go_roundw
     case rel => exact dU N1
     case measure => exact dU M1
    ·have R := dH (dU NX fun e => hd2 (congrArg Ev.data e))
     have hbq := txt_ne hd2
     clear NE NX hd2 M1
     go_wp2
     go_ret
     exact ⟨dU R, dU BF⟩
theorem dCell_lt' {w : World} {p : Addr} {v : Value} (h : w.cell? p = some v) : p.block < w.heap.size := by
 rcases Nat.lt_or_ge p.block w.heap.size with q | q
 ·exact q
 ·have : w.heap[p.block]? = none := Array.getElem?_eq_none q
  simp [World.cell?, this] at h
def samR (l : List Rr) (tr : Int) : Prop := ∃ a b, l = [a, b] ∧ agreeP a b tr ∧ agreeP b a tr
set_option maxHeartbeats 16000000 in
theorem sameC_any (bx : Nat) (rv : Value) (a b : Rr) (tr : Int) (w : World) (hc : w.cell? ⟨bx, 8, none⟩ = some rv) (hc5 : w.cell? ⟨bx, 5, none⟩ = some (.int .i64 tr)) (hr : RdReaderS rv [a, b] w) (ha : smallR a) (hb : smallR b) (la : a.out.length ≤ 1048576) (lb : b.out.length ≤ 1048576) (hpa : plsR a) (hpb : plsR b) :
  Calls Tryz.prog 127 #[.pointer (some ⟨bx, 0, none⟩)] w fun e w' => RetB (agreeP a b tr ∧ agreeP b a tr) e ∧ Below w.heap.size w w' := by
 have ba' : ∀ (w : World) o, Below w.heap.size w (w.alloc o) := fun w o => (Below.refl _ _).alloc (Nat.le_refl _) o
 obtain ⟨ra, rc, rfl, -⟩ := formD hr
 have q0 := readerIn hr (k := 0) (by simp)
 have q1 := readerIn hr (k := 1) (by simp)
 obtain ⟨rb, ro, sv, rfl, c0, c1, c2, hA⟩ := q0
 obtain ⟨rb', ro', sv', e', d0, d1, d2, hB⟩ := q1
 simp only [Option.some.injEq, Addr.mk.injEq, and_true] at e'
 obtain ⟨rfl, rfl⟩ := e'
 simp only [List.getElem_cons_zero, List.getElem_cons_succ, Nat.zero_mul, Nat.add_zero, Nat.one_mul, List.length_cons, List.length_nil] at c0 c1 c2 d0 d1 d2 hA hB hc
 have CAB := dH fun W (hW : Below w.heap.size w W) => agrees_any _ _ a b tr W (hA.below hW) (hB.below hW) ha hb la lb hpa hpb
 have CBA := dH fun W (hW : Below w.heap.size w W) => agrees_any _ _ b a tr W (hB.below hW) (hA.below hW) hb ha lb la hpb hpa
 obtain ⟨sv1, esv, hes⟩ := hA
 simp only [Value.agg.injEq] at esv
 obtain rfl : sv = sv1 := by simpa using esv
 obtain ⟨s0a, s0c, rfl, -⟩ := formEventS hes
 clear esv hes
 obtain ⟨sv1, esv, hes⟩ := hB
 simp only [Value.agg.injEq] at esv
 obtain rfl : sv' = sv1 := by simpa using esv
 obtain ⟨s1a, s1c, rfl, -⟩ := formEventS hes
 clear esv hes hr ha hb la lb hpa hpb
 generalize agreeP a b tr = P1 at *
 generalize agreeP b a tr = P2 at *
 generalize a.epoch = aep at *
 generalize a.off = aof at *
 generalize a.out.length = al at *
 generalize b.epoch = bep at *
 generalize b.off = bof at *
 generalize b.out.length = bl at *
 replace hc : w.cell? ⟨bx, 8, none⟩ = some (.slice (some ⟨rb, ro, none⟩) 2 rc) := hc
 have up : ∀ (p : Addr) v, w.cell? p = some v → ∀ o, (w.alloc o).cell? p = some v := fun p v h o => ((ba' w o).cell (p := p) (dCell_lt' h)).trans h
 have hc_ := up _ _ hc
 have c0_ := up _ _ c0
 have c1_ := up _ _ c1
 have c2_ := up _ _ c2
 have d0_ := up _ _ d0
 have d1_ := up _ _ d1
 have d2_ := up _ _ d2
 have up2 : ∀ (p : Addr) v, w.cell? p = some v → ∀ o o', ((w.alloc o).alloc o').cell? p = some v := fun p v h o o' => ((ba' (w.alloc o) o').cell (p := p) (dCell_lt' (up p v h o))).trans (up p v h o)
 have hc__ := up2 _ _ hc
 have c0__ := up2 _ _ c0
 have c1__ := up2 _ _ c1
 have c2__ := up2 _ _ c2
 have d0__ := up2 _ _ d0
 have d1__ := up2 _ _ d1
 have d2__ := up2 _ _ d2
 clear up up2
 go_enter Tryz.func127, Tryz.ntmps127
 go_wp2_with fail
 go_region
 ·clear hc_ c0_ c1_ c2_ d0_ d1_ d2_ hc__ c0__ c1__ c2__ d0__ d1__ d2__ hc c0 c1 c2 d0 d1 d2
  have b1 := ba' w (.cells #[.int .i64 aep, .int .i64 aof, .slice s0a al s0c] 62)
  have b2 := ba' (w.alloc (.cells #[.int .i64 aep, .int .i64 aof, .slice s0a al s0c] 62)) (.cells #[.int .i64 bep, .int .i64 bof, .slice s1a bl s1c] 62)
  have b3 : Below ((w.alloc (.cells #[.int .i64 aep, .int .i64 aof, .slice s0a al s0c] 62)).alloc (.cells #[.int .i64 bep, .int .i64 bof, .slice s1a bl s1c] 62)).heap.size ((w.alloc (.cells #[.int .i64 aep, .int .i64 aof, .slice s0a al s0c] 62)).alloc (.cells #[.int .i64 bep, .int .i64 bof, .slice s1a bl s1c] 62)) ((w.alloc (.cells #[.int .i64 aep, .int .i64 aof, .slice s0a al s0c] 62)).alloc (.cells #[.int .i64 bep, .int .i64 bof, .slice s1a bl s1c] 62)).drew := below_drewN (Below.refl _ _) 1
  have e1 : (w.alloc (.cells #[.int .i64 aep, .int .i64 aof, .slice s0a al s0c] 62)).heap.size = w.heap.size + 1 := by simp
  have XA := ((Bx.new w [.int .i64 aep, .int .i64 aof, .slice s0a al s0c] 62).below b2).below b3
  have XB := (Bx.new (w.alloc (.cells #[.int .i64 aep, .int .i64 aof, .slice s0a al s0c] 62)) [.int .i64 bep, .int .i64 bof, .slice s1a bl s1c] 62).below b3
  rw [e1] at XB
  have B0 := bT (bT b1 b2) b3
  clear b1 b2 b3 e1
  generalize ((w.alloc (.cells #[.int .i64 aep, .int .i64 aof, .slice s0a al s0c] 62)).alloc (.cells #[.int .i64 bep, .int .i64 bof, .slice s1a bl s1c] 62)).drew = w0 at *
  have t0 := (B0.cell (p := ⟨bx, 5, none⟩) (dCell_lt hc5)).trans hc5
  have a0 := XA 0 _ rfl
  have a1 := XA 1 _ rfl
  have a2 := XA 2 _ rfl
  have f0 := XB 0 _ rfl
  have f1 := XB 1 _ rfl
  have f2 := XB 2 _ rfl
  go_wp2_with fail
  refine (dU CAB _ B0).mono ?_
  rintro e w1 ⟨⟨q1, rfl, h1⟩, b1⟩
  replace XA := XA.below b1
  replace XB := XB.below b1
  replace B0 := bT B0 b1
  clear b1 t0 a0 a1 a2 f0 f1 f2 CAB
  cases q1
  ·have R := dH (show RetB (P1 ∧ P2) (.returned (.bool false)) from RetB.no fun h => by have := h1.2 h.1; cases this)
   clear h1 CBA XA XB hc5
   go_wp2
   go_ret
   exact ⟨dU R, B0⟩
  have t0 := (B0.cell (p := ⟨bx, 5, none⟩) (dCell_lt hc5)).trans hc5
  have a0 := XA 0 _ rfl
  have a1 := XA 1 _ rfl
  have a2 := XA 2 _ rfl
  have f0 := XB 0 _ rfl
  have f1 := XB 1 _ rfl
  have f2 := XB 2 _ rfl
  go_wp2_with fail
  rename_i fX hfX
  simp only [List.getElem?_cons_zero, Option.some.injEq] at hfX
  subst hfX
  go_wp2_with fail
  rename_i fY hfY
  simp only [List.getElem?_cons_zero, Option.some.injEq] at hfY
  subst hfY
  go_wp2_with fail
  refine (dU CBA _ B0).mono ?_
  rintro e w2 ⟨⟨q2, rfl, h2⟩, b1⟩
  replace B0 := bT B0 b1
  have R := dH (show RetB (P1 ∧ P2) (.returned (.bool q2)) from ⟨q2, rfl, h2.trans ⟨fun h => ⟨h1.1 (by first | trivial | rfl), h⟩, fun h => h.2⟩⟩)
  clear b1 t0 a0 a1 a2 f0 f1 f2 CBA h1 h2 XA XB hc5
  cases q2
  all_goals
   go_wp2
   go_ret
   exact ⟨dU R, B0⟩
 ·clear hc_ c0_ c1_ c2_ d0_ d1_ d2_ hc__ c0__ c1__ c2__ d0__ d1__ d2__ hc c0 c1 c2 d0 d1 d2
  have b1 := ba' w (.cells #[.int .i64 bep, .int .i64 bof, .slice s1a bl s1c] 62)
  have b2 := ba' (w.alloc (.cells #[.int .i64 bep, .int .i64 bof, .slice s1a bl s1c] 62)) (.cells #[.int .i64 aep, .int .i64 aof, .slice s0a al s0c] 62)
  have b3 : Below ((w.alloc (.cells #[.int .i64 bep, .int .i64 bof, .slice s1a bl s1c] 62)).alloc (.cells #[.int .i64 aep, .int .i64 aof, .slice s0a al s0c] 62)).heap.size ((w.alloc (.cells #[.int .i64 bep, .int .i64 bof, .slice s1a bl s1c] 62)).alloc (.cells #[.int .i64 aep, .int .i64 aof, .slice s0a al s0c] 62)) ((w.alloc (.cells #[.int .i64 bep, .int .i64 bof, .slice s1a bl s1c] 62)).alloc (.cells #[.int .i64 aep, .int .i64 aof, .slice s0a al s0c] 62)).drew := below_drewN (Below.refl _ _) 1
  have e1 : (w.alloc (.cells #[.int .i64 bep, .int .i64 bof, .slice s1a bl s1c] 62)).heap.size = w.heap.size + 1 := by simp
  have XB := ((Bx.new w [.int .i64 bep, .int .i64 bof, .slice s1a bl s1c] 62).below b2).below b3
  have XA := (Bx.new (w.alloc (.cells #[.int .i64 bep, .int .i64 bof, .slice s1a bl s1c] 62)) [.int .i64 aep, .int .i64 aof, .slice s0a al s0c] 62).below b3
  rw [e1] at XA
  have B0 := bT (bT b1 b2) b3
  clear b1 b2 b3 e1
  generalize ((w.alloc (.cells #[.int .i64 bep, .int .i64 bof, .slice s1a bl s1c] 62)).alloc (.cells #[.int .i64 aep, .int .i64 aof, .slice s0a al s0c] 62)).drew = w0 at *
  have t0 := (B0.cell (p := ⟨bx, 5, none⟩) (dCell_lt hc5)).trans hc5
  have a0 := XA 0 _ rfl
  have a1 := XA 1 _ rfl
  have a2 := XA 2 _ rfl
  have f0 := XB 0 _ rfl
  have f1 := XB 1 _ rfl
  have f2 := XB 2 _ rfl
  go_wp2_with fail
  refine (dU CAB _ B0).mono ?_
  rintro e w1 ⟨⟨q1, rfl, h1⟩, b1⟩
  replace XA := XA.below b1
  replace XB := XB.below b1
  replace B0 := bT B0 b1
  clear b1 t0 a0 a1 a2 f0 f1 f2 CAB
  cases q1
  ·have R := dH (show RetB (P1 ∧ P2) (.returned (.bool false)) from RetB.no fun h => by have := h1.2 h.1; cases this)
   clear h1 CBA XA XB hc5
   go_wp2
   go_ret
   exact ⟨dU R, B0⟩
  have t0 := (B0.cell (p := ⟨bx, 5, none⟩) (dCell_lt hc5)).trans hc5
  have a0 := XA 0 _ rfl
  have a1 := XA 1 _ rfl
  have a2 := XA 2 _ rfl
  have f0 := XB 0 _ rfl
  have f1 := XB 1 _ rfl
  have f2 := XB 2 _ rfl
  go_wp2_with fail
  rename_i fX hfX
  simp only [List.getElem?_cons_zero, Option.some.injEq] at hfX
  subst hfX
  go_wp2_with fail
  rename_i fY hfY
  simp only [List.getElem?_cons_zero, Option.some.injEq] at hfY
  subst hfY
  go_wp2_with fail
  refine (dU CBA _ B0).mono ?_
  rintro e w2 ⟨⟨q2, rfl, h2⟩, b1⟩
  replace B0 := bT B0 b1
  have R := dH (show RetB (P1 ∧ P2) (.returned (.bool q2)) from ⟨q2, rfl, h2.trans ⟨fun h => ⟨h1.1 (by first | trivial | rfl), h⟩, fun h => h.2⟩⟩)
  clear b1 t0 a0 a1 a2 f0 f1 f2 CBA h1 h2 XA XB hc5
  cases q2
  all_goals
   go_wp2
   go_ret
   exact ⟨dU R, B0⟩
end Go.Proofs.YtekgkjomdpjkbaaGreat
