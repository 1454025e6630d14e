/- The walk of the law FnNew (printed by tools/mkl13n.py). -/
import Derived.Test.YtodfgehicpejgaaGreatDoorWdA
import Derived.Test.YtodfgehicpejgaaGreatDoorGk186
import Derived.Test.YtodfgehicpejgaaGreatDoorGk172
import Derived.Test.YtodfgehicpejgaaGreatDoorGk170
import Derived.Test.YtodfgehicpejgaaGreatDoorGk179
import Derived.Deep.RegionHeld3
import Derived.Deep.DeepCutAuto
namespace Go.Proofs.YtodfgehicpejgaaGreatDoor
open Go.ChangeShapes Go.WideShapes Go.ChangeAt Go.RowKit
set_option linter.unusedVariables false
set_option linter.unusedSimpArgs false
set_option maxRecDepth 100000

def DrewNw (w' : World) (v : Value) : Prop := ∃ (sv : Value) (ds : List Int) (cop : Int), v = .agg #[sv, .int .i64 cop] ∧ Ns w' sv ds ∧ ds.length ≤ 9 ∧ allInt ds ∧ 0 ≤ cop ∧ cop ≤ 5
set_option maxHeartbeats 8000000 in
theorem drawWorldNew_any (a : Option Addr) (len cap : Nat) (w : World) (hr : Row8 w a len) :
  Calls Tryz.prog 5 #[.slice a len cap] w fun e w' => (∃ v, e = .returned v ∧ DrewNw w' v) ∧ Below w.heap.size w w' := by
 have b0 : Below w.heap.size w (w.alloc (.cells #[.slice none 0 0, .int .i64 0] 26)) := (Below.refl _ _).alloc (Nat.le_refl _) _
 have Z0 := BxZ.new (B := w.heap.size) w [.slice none 0 0, .int .i64 0] 26 (Nat.le_refl _)
 have hz0 : w.heap.size < (w.alloc (.cells #[.slice none 0 0, .int .i64 0] 26)).heap.size := by simp
 have hr1 := hr.below b0
 clear hr
 go_enter Tryz.func5, Tryz.ntmps5
 go_wp2_with fail
 generalize w.alloc (.cells #[.slice none 0 0, .int .i64 0] 26) = w0 at *
 refine (l1New_any a len cap w0 hr1).mono ?_
 rintro e w1 ⟨bk, rfl, hbk, hc1, b1⟩
 have Z1 := Z0.below b1
 have B1 := bT b0 b1
 have z1 := b1.size
 clear Z0 hr1 b0 b1
 go_wp2_with fail
 refine (l4Draw_any bk w1 hc1).mono ?_
 rintro e w2 ⟨⟨sv, ds, cop, rfl, ho, hl, hd, hc0, hc5⟩, hc2, hd2⟩
 have Z2 := dH (Z1.drawn hd2 (by omega))
 have B2 := dH (hd2.below B1 B1.size (by omega))
 have hO : Ns w2 sv ds := ho.bs
 have hI : allInt ds := fun d h => by have := hd d h; omega
 have H2 := ho.far (b := w.heap.size) (o := 0) (by omega) sv
 have H3 := dH ((H2.far (b := w.heap.size) (o := 1) (by omega) (.int .i64 cop)).bs)
 obtain ⟨⟨y0, f0⟩, ⟨y1, f1⟩⟩ : (_ ∧ _) ∧ (_ ∧ _) := ⟨(dU Z2).2 0 _ rfl, (dU Z2).2 1 _ rfl⟩
 obtain ⟨sa, sc, rfl⟩ : ∃ a c, sv = .slice a ds.length c := by obtain ⟨-, a, c, e, -⟩ := hO; exact ⟨a, c, e⟩
 have Z3 : Hid (BxZ ((w2.setCell ⟨w.heap.size, 0, none⟩ (.slice sa ds.length sc)).setCell ⟨w.heap.size, 1, none⟩ (.int .i64 cop)) w.heap.size w.heap.size [.slice sa ds.length sc, .int .i64 cop]) := ((dU Z2).put 0 _).put 1 _
 have B3 := dH (((dU B2).setCell (p := ⟨w.heap.size, 0, none⟩) (Nat.le_refl _) (.slice sa ds.length sc)).setCell (p := ⟨w.heap.size, 1, none⟩) (Nat.le_refl _) (.int .i64 cop))
 clear Z1 hc1 hc2 hd2 ho hd H2 hO B1 Z2 B2
 go_wp2
 generalize ((w2.setCell ⟨w.heap.size, 0, none⟩ (.slice sa ds.length sc)).setCell ⟨w.heap.size, 1, none⟩ (.int .i64 cop)) = V at *
 have q0 := ((dU Z3).2 0 _ rfl).1
 have q1 := ((dU Z3).2 1 _ rfl).1
 exact bodyPost_ret (v := .agg #[.slice sa ds.length sc, .int .i64 cop]) (by simp [results, Tryz.results5, go_sem, q0, q1]) rfl ⟨⟨_, rfl, _, ds, cop, rfl, dU H3, hl, hI, hc0, hc5⟩, dU B3⟩
theorem tmod2 (x : Int) (h : 0 ≤ x) : 0 ≤ x.tmod 2 ∧ x.tmod 2 < 2 := by
 rw [Int.tmod_eq_emod_of_nonneg h]
 omega
set_option maxHeartbeats 16000000 in
theorem walkNew (a0 : Option Addr) (len0 cap0 : Nat) (w : World) (hr : Row8 w a0 len0) :
  Calls Tryz.prog 3 #[.slice a0 len0 cap0] w fun e w' => e = .returned (.bool true) ∧ Below w.heap.size w w' := by
 have hlen := hr.1
 by_cases hbig : 1048576 < len0
 ·have CB := dH (big_yes a0 len0 cap0 hbig hlen)
  go_enter Tryz.func3, Tryz.ntmps3
  go_wp2_with fail
  refine (dU CB _).mono ?_
  rintro e w1 ⟨rfl, rfl⟩
  go_wp2
  go_ret
  exact ⟨rfl, Below.refl _ _⟩
 have CB := dH (big_no a0 len0 cap0 hbig)
 have CD := dH (drawWorldNew_any a0 len0 cap0 w hr)
 have AT := dH fun W (hb : Below w.heap.size w W) => at_any a0 len0 cap0 1 (by omega) W (hr.below hb) (by omega)
 have ba : ∀ (w : World) o, Below w.heap.size w (w.alloc o) := fun w o => (Below.refl _ _).alloc (Nat.le_refl _) o
 clear hbig hr hlen
 go_enter Tryz.func3, Tryz.ntmps3
 go_wp2_with fail
 refine (dU CB _).mono ?_
 rintro e w1 ⟨rfl, rfl⟩
 clear CB
 go_wp2_with fail
 refine (dU CD).mono ?_
 rintro e w1 ⟨⟨u, rfl, sv, ds, cop, rfl, O1, hl, hI, hc0, hc5⟩, B1⟩
 obtain ⟨sa, sc, rfl⟩ : ∃ a c, sv = .slice a ds.length c := by obtain ⟨-, a, c, e, -⟩ := O1; exact ⟨a, c, e⟩
 clear CD
 have bA := ba w1 (.cells #[.slice sa ds.length sc, .int .i64 cop] 26)
 have X2 := Bx.new w1 [.slice sa ds.length sc, .int .i64 cop] 26
 have CC := dH fun W (hb : Below w1.heap.size w1 W) => implCfg_any _ ds cop W (O1.below hb) hI (by omega) (by omega) (by omega)
 have CS0 := dH fun W (hb : Below w1.heap.size w1 W) => specCfg_any _ ds cop W (O1.below hb)
 have n0 := X2 0 _ rfl
 have n1 := X2 1 _ rfl
 by_cases hP : cfgP ds cop
 case neg =>
  have CN := dH fun W (hb : Below w1.heap.size w1 W) => implWorldNew_no _ ds cop W (O1.below hb) hI (by omega) (by omega) (by omega) hP
  have NP := dH hP
  clear O1 AT hP
  go_wp2_with fail
  refine (dU CN _ bA).mono ?_
  rintro e w3 ⟨rfl, b3⟩
  have B4 := dH (bT bA (bT b3 (ba _ (.cells #[.slice none 0 0, .int .i64 0, .slice none 0 0, .slice none 0 0, .slice none 0 0, .int .i64 0, .slice none 0 0, .slice none 0 0, .slice none 0 0, .slice none 0 0, .bool false] 37))))
  have X4 := X2.below (bT b3 (ba _ (.cells #[.slice none 0 0, .int .i64 0, .slice none 0 0, .slice none 0 0, .slice none 0 0, .int .i64 0, .slice none 0 0, .slice none 0 0, .slice none 0 0, .slice none 0 0, .bool false] 37)))
  have m0 := X4 0 _ rfl
  have m1 := X4 1 _ rfl
  have Y4 := Bx.new w3 [.slice none 0 0, .int .i64 0, .slice none 0 0, .slice none 0 0, .slice none 0 0, .int .i64 0, .slice none 0 0, .slice none 0 0, .slice none 0 0, .slice none 0 0, .bool false] 37
  have HX4 := dH X4
  have HY4 := dH Y4
  clear n0 n1 X4 Y4 CN b3
  go_wp2_with (first
   | (go_at_call 7; refine (dU CS0 _ (dU B4)).mono ?_; rintro e w5 ⟨q5, b5⟩; obtain rfl := q5.of_no (dU NP); have p0 := (dU HX4).below b5 0 _ rfl; have p1 := (dU HX4).below b5 1 _ rfl)
   | (go_at_call 8; refine (dU CC _ (bT (dU B4) b5)).mono ?_; rintro e w7 ⟨q7, b7⟩; obtain rfl := q7.of_no (dU NP); have r2 := (dU HY4).below (bT b5 b7) 2 _ rfl)
   | fail)
  go_ret
  exact ⟨rfl, bT B1 (bT (dU B4) (bT b5 b7))⟩
 have h8 := hP.1.2
 have ok : okConfig (ds, cop) := ⟨hI, by omega, by omega⟩
 have CN := dH fun W (hb : Below w1.heap.size w1 W) => implWorldNew_yes _ ds cop W (O1.below hb) hI (by omega) (by omega) (by omega) hP
 have YP := dH hP
 clear O1
 go_wp2_with fail
 refine (dU CN _ bA).mono ?_
 rintro e w3 ⟨⟨u, rfl, hO⟩, b3⟩
 have hR := hO.rd
 have hR' := hR
 obtain ⟨yda, ydc, ysa, ysc, yla, ylc, yea, yec, ywa, ywc, yna, ync, yra, yrc, yta, ytc, rfl, -⟩ := partsWorld hR'
 simp only [newW, List.length_replicate, List.length_nil, List.length_cons, Nat.zero_add, Nat.reduceAdd] at hR
 simp only [newW, List.length_replicate, List.length_nil, List.length_cons, Nat.zero_add, Nat.reduceAdd]
 have hR2 : RdWorld (.agg #[.slice yda ds.length ydc, .int .i64 cop, .slice ysa ds.length ysc, .slice yla 0 ylc, .slice yea 0 yec, .int .i64 0, .slice ywa 0 ywc, .slice yna 0 ync, .slice yra 2 yrc, .slice yta 0 ytc, .bool false]) (newW ds cop) w3 := hR
 have hV := dH fun W (hb : Below w3.heap.size w3 W) => RdWorld.below hR2 hb
 have B4 := bT b3 (ba w3 (.cells #[.slice yda ds.length ydc, .int .i64 cop, .slice ysa ds.length ysc, .slice yla 0 ylc, .slice yea 0 yec, .int .i64 0, .slice ywa 0 ywc, .slice yna 0 ync, .slice yra 2 yrc, .slice yta 0 ytc, .bool false] 37))
 have B4' := dH (bT bA B4)
 have X4 := X2.below B4
 have m0 := X4 0 _ rfl
 have m1 := X4 1 _ rfl
 have Y4 := Bx.new w3 [.slice yda ds.length ydc, .int .i64 cop, .slice ysa ds.length ysc, .slice yla 0 ylc, .slice yea 0 yec, .int .i64 0, .slice ywa 0 ywc, .slice yna 0 ync, .slice yra 2 yrc, .slice yta 0 ytc, .bool false] 37
 have HX4 := dH X4
 have HY4 := dH Y4
 have h34 := dH (ba w3 (.cells #[.slice yda ds.length ydc, .int .i64 cop, .slice ysa ds.length ysc, .slice yla 0 ylc, .slice yea 0 yec, .int .i64 0, .slice ywa 0 ywc, .slice yna 0 ync, .slice yra 2 yrc, .slice yta 0 ytc, .bool false] 37))
 clear n0 n1 X4 Y4 CN b3 hO hR hR2 B4 X2
 go_wp2_with (first
  | (go_at_call 7; refine (dU CS0 _ (dU B4')).mono ?_; rintro e w5 ⟨q5, b5⟩; obtain rfl := q5.of_yes (dU YP); have p0 := (dU HX4).below b5 0 _ rfl; have p1 := (dU HX4).below b5 1 _ rfl)
  | (go_at_call 8; refine (dU CC _ (bT (dU B4') b5)).mono ?_; rintro e w6 ⟨q6, b6⟩; obtain rfl := q6.of_yes (dU YP))
  | fail)
 have b56 := bT b5 b6
 have h36 := bT (dU h34) b56
 have B6 := bT B1 (bT (dU B4') b56)
 have bd9 : Below w6.heap.size w6 w6.drew := (Below.refl _ _).drew
 have CW := dH fun W (hb : Below w6.heap.size w6 W) => implWorldOk_any _ (newW ds cop) W (okNew ds cop ok) (sizNew ds cop h8) (dU hV W (bT h36 hb))
 have CJ := dH fun W (hb : Below w6.heap.size w6 W) => implAll_any _ (newW ds cop) W (okNew ds cop ok) (sizNew ds cop h8) (dU hV W (bT h36 hb))
 have CS := dH fun W (hb : Below w6.heap.size w6 W) => implSureOf_any _ (newW ds cop) 1 W (sizNew ds cop h8) (dU hV W (bT h36 hb))
 rw [show sureOf 1 (newW ds cop).writers = 0 from rfl] at CS
 have PW : Hid (woP (newW ds cop)) := newWo_P (dU YP)
 have PJ : Hid (allP (newW ds cop)) := allNew ds cop (dU YP)
 have CDo := dH fun W (hb : Below w6.heap.size w6 W) (a : Int) (h0 : 0 ≤ a) (h1 : a < 2) => by
  have := doNew_any _ ds cop a.toNat W (dU hV W (bT h36 hb)) (by omega) (dU YP) ok
  rw [show ((a.toNat : Nat) : Int) = a by omega] at this
  exact this
 have HS0 : Hid (∀ (W : World), Below w6.heap.size w6 W → (W.cell? ⟨w3.heap.size, 0, none⟩ = some (.slice yda ds.length ydc) ∧ W.cell? ⟨w3.heap.size, 1, none⟩ = some (.int .i64 cop) ∧ W.cell? ⟨w3.heap.size, 2, none⟩ = some (.slice ysa ds.length ysc) ∧ W.cell? ⟨w3.heap.size, 3, none⟩ = some (.slice yla 0 ylc) ∧ W.cell? ⟨w3.heap.size, 4, none⟩ = some (.slice yea 0 yec) ∧ W.cell? ⟨w3.heap.size, 5, none⟩ = some (.int .i64 0) ∧ W.cell? ⟨w3.heap.size, 6, none⟩ = some (.slice ywa 0 ywc) ∧ W.cell? ⟨w3.heap.size, 7, none⟩ = some (.slice yna 0 ync) ∧ W.cell? ⟨w3.heap.size, 8, none⟩ = some (.slice yra 2 yrc) ∧ W.cell? ⟨w3.heap.size, 9, none⟩ = some (.slice yta 0 ytc) ∧ W.cell? ⟨w3.heap.size, 10, none⟩ = some (.bool false)) ∧ W.cell? ⟨w1.heap.size, 0, none⟩ = some (.slice sa ds.length sc) ∧ W.cell? ⟨w1.heap.size, 1, none⟩ = some (.int .i64 cop)) := fun W hW => by
  have X := (dU HX4).below (bT b56 hW)
  have Y := (dU HY4).below (bT b56 hW)
  exact ⟨⟨Y 0 _ rfl, Y 1 _ rfl, Y 2 _ rfl, Y 3 _ rfl, Y 4 _ rfl, Y 5 _ rfl, Y 6 _ rfl, Y 7 _ rfl, Y 8 _ rfl, Y 9 _ rfl, Y 10 _ rfl⟩, X 0 _ rfl, X 1 _ rfl⟩
 generalize w3.heap.size = wb at *
 generalize w1.heap.size = cb at *
 have HS := HS0
 clear HS0 HX4 HY4 h34 h36 b56 b5 b6 B4' B1 CC CS0 hV YP m0 m1 p0 p1 bA
 have hcur := bd9
 refine wp_region_noPanic ?_
 refine wp_region_held_drew (S := fun W => (W.cell? ⟨wb, 0, none⟩ = some (.slice yda ds.length ydc) ∧ W.cell? ⟨wb, 1, none⟩ = some (.int .i64 cop) ∧ W.cell? ⟨wb, 2, none⟩ = some (.slice ysa ds.length ysc) ∧ W.cell? ⟨wb, 3, none⟩ = some (.slice yla 0 ylc) ∧ W.cell? ⟨wb, 4, none⟩ = some (.slice yea 0 yec) ∧ W.cell? ⟨wb, 5, none⟩ = some (.int .i64 0) ∧ W.cell? ⟨wb, 6, none⟩ = some (.slice ywa 0 ywc) ∧ W.cell? ⟨wb, 7, none⟩ = some (.slice yna 0 ync) ∧ W.cell? ⟨wb, 8, none⟩ = some (.slice yra 2 yrc) ∧ W.cell? ⟨wb, 9, none⟩ = some (.slice yta 0 ytc) ∧ W.cell? ⟨wb, 10, none⟩ = some (.bool false)) ∧ W.cell? ⟨cb, 0, none⟩ = some (.slice sa ds.length sc) ∧ W.cell? ⟨cb, 1, none⟩ = some (.int .i64 cop)) (by kernel_rfl) (by exact dU HS _ hcur) (fun hHeld => ?_)
 generalize w6.drew = wd at *
 refine tY 0 (v := ?_) rfl (by kernel_rfl) (.inl ⟨by rfl, ?_⟩) ‹_› ?_
 rotate_left 1
 ·intro w hSw
  (try dsimp only at hSw)
  first | (go_simp; done) | (go_simp; with_reducible rfl)
 try simp only [Act.put, sA, sB, sC]
 refine tY 1 (v := ?_) rfl (by kernel_rfl) (.inl ⟨by rfl, ?_⟩) ‹_› ?_
 rotate_left 1
 ·intro w hSw
  (try dsimp only at hSw)
  first | (go_simp; done) | (go_simp; with_reducible rfl)
 try simp only [Act.put, sA, sB, sC]
 refine wpAnyH_ready (rs := [2, 9]) (by kernel_rfl) (by simp) ?_
 refine rC rfl (fun K hK => ?_) (rC rfl (fun K hK => ?_) AllReadyH.nil)
 ·go_simp
  refine (dU AT _ (bT B6 hcur)).mono ?_
  rintro e wd' ⟨⟨x, hx0, hx1, rfl⟩, rfl⟩
  refine hK.out _ _ (by exact dU HS _ hcur) (fun hHeld => ?_)
  clear hK K
  try simp only [Act.put, sA, sB, sC]
  have HX := tmod2 x hx0
  obtain ⟨HX0, HX1⟩ := HX
  refine tY 3 (v := ?_) rfl (by kernel_rfl) (.inl ⟨by rfl, ?_⟩) ‹_› ?_
  rotate_left 1
  ·intro w hSw
   (try dsimp only at hSw)
   first | (go_simp; done) | (go_simp; with_reducible rfl)
  try simp only [Act.put, sA, sB, sC]
  refine tY 4 (v := ?_) rfl (by kernel_rfl) (.inl ⟨by rfl, ?_⟩) ‹_› ?_
  rotate_left 1
  ·intro w hSw
   (try dsimp only at hSw)
   first | (go_simp; done) | (go_simp; with_reducible rfl)
  try simp only [Act.put, sA, sB, sC]
  refine wpAnyH_ready (rs := [5, 9]) (by kernel_rfl) (by simp) ?_
  refine rC rfl (fun K hK => ?_) (rC rfl (fun K hK => ?_) AllReadyH.nil)
  ·go_simp
   refine (dU CDo _ hcur _ HX0 HX1).mono ?_
   rintro e wd ⟨⟨xda, xdc, xsa, xsc, xla, xlc, xea, xec, xwa, xwc, xna, xnc, xra, xrc, xta, xtc, rfl⟩, b5⟩
   replace hcur := bT hcur b5
   (try replace Z9 := Z9.below b5)
   clear b5
   refine hK.out _ _ (by exact dU HS _ hcur) (fun hHeld => ?_)
   clear hK K
   try simp only [Act.put, sA, sB, sC]
   refine tY 6 (v := ?_) rfl (by kernel_rfl) (.inl ⟨by rfl, ?_⟩) ‹_› ?_
   rotate_left 1
   ·intro w hSw
    (try dsimp only at hSw)
    first | (go_simp; done) | (go_simp; with_reducible rfl)
   try simp only [Act.put, sA, sB, sC]
   refine tY 7 (v := ?_) rfl (by kernel_rfl) (.inl ⟨by rfl, ?_⟩) ‹_› ?_
   rotate_left 1
   ·intro w hSw
    (try dsimp only at hSw)
    first | (go_simp; done) | (go_simp; with_reducible rfl)
   try simp only [Act.put, sA, sB, sC]
   refine tY 8 (v := ?_) rfl (by kernel_rfl) (.inl ⟨by rfl, ?_⟩) ‹_› ?_
   rotate_left 1
   ·intro w hSw
    (try dsimp only at hSw)
    first | (go_simp; done) | (go_simp; with_reducible rfl)
   try simp only [Act.put, sA, sB, sC]
   refine wpAnyH_ready (rs := [9]) (by kernel_rfl) (by simp) ?_
   refine rC rfl (fun K hK => ?_) AllReadyH.nil
   go_simp
   have hcz := hcur
   replace hcur := bT hcur (ba _ (.cells #[.slice none 0 0, .int .i64 0, .slice none 0 0, .slice none 0 0, .slice none 0 0, .int .i64 0, .slice none 0 0, .slice none 0 0, .slice none 0 0, .slice none 0 0, .bool false] 37))
   have Z9 := BxZ.new (B := w6.heap.size) wd [.slice none 0 0, .int .i64 0, .slice none 0 0, .slice none 0 0, .slice none 0 0, .int .i64 0, .slice none 0 0, .slice none 0 0, .slice none 0 0, .slice none 0 0, .bool false] 37 hcz.size
   clear hcz
   generalize wd.heap.size = zb at *
   generalize wd.alloc (.cells #[.slice none 0 0, .int .i64 0, .slice none 0 0, .slice none 0 0, .slice none 0 0, .int .i64 0, .slice none 0 0, .slice none 0 0, .slice none 0 0, .slice none 0 0, .bool false] 37) = wd at *
   refine hK.out _ _ (by exact dU HS _ hcur) (fun hHeld => ?_)
   clear hK K
   try simp only [Act.put, sA, sB, sC]
   refine wpAnyH_ready (rs := [10]) (by kernel_rfl) (by simp) ?_
   refine rC rfl (fun K hK => ?_) AllReadyH.nil
   have hbz : w6.heap.size ≤ zb := Z9.1
   refine step_putW rfl _ _ _ rfl rfl [.slice xda ds.length xdc, .int .i64 cop, .slice xsa ds.length xsc, .slice xla 0 xlc, .slice xea 0 xec, .int .i64 0, .slice xwa 0 xwc, .slice xna 0 xnc, .slice xra 2 xrc, .slice xta 0 xtc, .bool false] rfl rfl Z9 rfl (by kernel_rfl) (by kernel_rfl) ?_
   clear Z9
   intro wd Z9 s9 q9 b9
   replace hcur := hcur.trans b9
   refine hK.out _ _ (by exact dU HS _ hcur) (fun hHeld => ?_)
   clear hK K
   try simp only [Act.put, sA, sB, sC]
   refine tY 11 (v := ?_) rfl (by kernel_rfl) (.inl ⟨by rfl, ?_⟩) ‹_› ?_
   rotate_left 1
   ·intro w hSw
    (try dsimp only at hSw)
    first | (go_simp; done) | (go_simp; with_reducible rfl)
   try simp only [Act.put, sA, sB, sC]
   refine wpAnyH_done (by kernel_rfl) ?_ _
   refine NoPanic.normal ?_
   have FF := dU HS _ hcur
   obtain ⟨f0, f1, f2, f3, f4, f5, f6, f7, f8, f9, f10⟩ := FF.1
   obtain ⟨n0, n1⟩ := FF.2
   have HB7 := dH hcur
   clear FF CDo AT Z9 q9 b9 hcur
   go_wp2_with (first
    | (go_at_call 11; refine (dU CW _ (dU HB7)).mono ?_; rintro e w8 ⟨q8, b8⟩; obtain rfl := q8.of_yes (dU PW); have HB8 := dH (bT (dU HB7) b8); have F8 := dU HS _ (dU HB8); obtain ⟨g0, g1, g2, g3, g4, g5, g6, g7, g8, g9, g10⟩ := F8.1; obtain ⟨n2, n3⟩ := F8.2; clear b8 F8)
    | (go_at_call 12; refine (dU CJ _ (dU HB8)).mono ?_; rintro e w9 ⟨q9, b9⟩; obtain rfl := q9.of_yes (dU PJ); have HB9 := dH (bT (dU HB8) b9); have F9 := dU HS _ (dU HB9); obtain ⟨h0, h1, h2, h3, h4, h5, h6, h7, h8, h9, h10⟩ := F9.1; obtain ⟨n4, n5⟩ := F9.2; clear b9 F9)
    | (go_at_call 13; refine (dU CS _ (dU HB9)).mono ?_; rintro e w10 ⟨rfl, b10⟩; have HB10 := dH (bT B6 (bT (dU HB9) b10)); clear b10)
    | fail)
   go_ret
   exact ⟨rfl, dU HB10⟩
  ·go_simp
   have hcz := hcur
   replace hcur := bT hcur (ba _ (.cells #[.slice none 0 0, .int .i64 0, .slice none 0 0, .slice none 0 0, .slice none 0 0, .int .i64 0, .slice none 0 0, .slice none 0 0, .slice none 0 0, .slice none 0 0, .bool false] 37))
   have Z9 := BxZ.new (B := w6.heap.size) wd [.slice none 0 0, .int .i64 0, .slice none 0 0, .slice none 0 0, .slice none 0 0, .int .i64 0, .slice none 0 0, .slice none 0 0, .slice none 0 0, .slice none 0 0, .bool false] 37 hcz.size
   clear hcz
   generalize wd.heap.size = zb at *
   generalize wd.alloc (.cells #[.slice none 0 0, .int .i64 0, .slice none 0 0, .slice none 0 0, .slice none 0 0, .int .i64 0, .slice none 0 0, .slice none 0 0, .slice none 0 0, .slice none 0 0, .bool false] 37) = wd at *
   refine hK.out _ _ (by exact dU HS _ hcur) (fun hHeld => ?_)
   clear hK K
   try simp only [Act.put, sA, sB, sC]
   refine wpAnyH_ready (rs := [5]) (by kernel_rfl) (by simp) ?_
   refine rC rfl (fun K hK => ?_) AllReadyH.nil
   go_simp
   refine (dU CDo _ hcur _ HX0 HX1).mono ?_
   rintro e wd ⟨⟨xda, xdc, xsa, xsc, xla, xlc, xea, xec, xwa, xwc, xna, xnc, xra, xrc, xta, xtc, rfl⟩, b5⟩
   replace hcur := bT hcur b5
   (try replace Z9 := Z9.below b5)
   clear b5
   refine hK.out _ _ (by exact dU HS _ hcur) (fun hHeld => ?_)
   clear hK K
   try simp only [Act.put, sA, sB, sC]
   refine tY 6 (v := ?_) rfl (by kernel_rfl) (.inl ⟨by rfl, ?_⟩) ‹_› ?_
   rotate_left 1
   ·intro w hSw
    (try dsimp only at hSw)
    first | (go_simp; done) | (go_simp; with_reducible rfl)
   try simp only [Act.put, sA, sB, sC]
   refine tY 7 (v := ?_) rfl (by kernel_rfl) (.inl ⟨by rfl, ?_⟩) ‹_› ?_
   rotate_left 1
   ·intro w hSw
    (try dsimp only at hSw)
    first | (go_simp; done) | (go_simp; with_reducible rfl)
   try simp only [Act.put, sA, sB, sC]
   refine tY 8 (v := ?_) rfl (by kernel_rfl) (.inl ⟨by rfl, ?_⟩) ‹_› ?_
   rotate_left 1
   ·intro w hSw
    (try dsimp only at hSw)
    first | (go_simp; done) | (go_simp; with_reducible rfl)
   try simp only [Act.put, sA, sB, sC]
   refine wpAnyH_ready (rs := [10]) (by kernel_rfl) (by simp) ?_
   refine rC rfl (fun K hK => ?_) AllReadyH.nil
   have hbz : w6.heap.size ≤ zb := Z9.1
   refine step_putW rfl _ _ _ rfl rfl [.slice xda ds.length xdc, .int .i64 cop, .slice xsa ds.length xsc, .slice xla 0 xlc, .slice xea 0 xec, .int .i64 0, .slice xwa 0 xwc, .slice xna 0 xnc, .slice xra 2 xrc, .slice xta 0 xtc, .bool false] rfl rfl Z9 rfl (by kernel_rfl) (by kernel_rfl) ?_
   clear Z9
   intro wd Z9 s9 q9 b9
   replace hcur := hcur.trans b9
   refine hK.out _ _ (by exact dU HS _ hcur) (fun hHeld => ?_)
   clear hK K
   try simp only [Act.put, sA, sB, sC]
   refine tY 11 (v := ?_) rfl (by kernel_rfl) (.inl ⟨by rfl, ?_⟩) ‹_› ?_
   rotate_left 1
   ·intro w hSw
    (try dsimp only at hSw)
    first | (go_simp; done) | (go_simp; with_reducible rfl)
   try simp only [Act.put, sA, sB, sC]
   refine wpAnyH_done (by kernel_rfl) ?_ _
   refine NoPanic.normal ?_
   have FF := dU HS _ hcur
   obtain ⟨f0, f1, f2, f3, f4, f5, f6, f7, f8, f9, f10⟩ := FF.1
   obtain ⟨n0, n1⟩ := FF.2
   have HB7 := dH hcur
   clear FF CDo AT Z9 q9 b9 hcur
   go_wp2_with (first
    | (go_at_call 11; refine (dU CW _ (dU HB7)).mono ?_; rintro e w8 ⟨q8, b8⟩; obtain rfl := q8.of_yes (dU PW); have HB8 := dH (bT (dU HB7) b8); have F8 := dU HS _ (dU HB8); obtain ⟨g0, g1, g2, g3, g4, g5, g6, g7, g8, g9, g10⟩ := F8.1; obtain ⟨n2, n3⟩ := F8.2; clear b8 F8)
    | (go_at_call 12; refine (dU CJ _ (dU HB8)).mono ?_; rintro e w9 ⟨q9, b9⟩; obtain rfl := q9.of_yes (dU PJ); have HB9 := dH (bT (dU HB8) b9); have F9 := dU HS _ (dU HB9); obtain ⟨h0, h1, h2, h3, h4, h5, h6, h7, h8, h9, h10⟩ := F9.1; obtain ⟨n4, n5⟩ := F9.2; clear b9 F9)
    | (go_at_call 13; refine (dU CS _ (dU HB9)).mono ?_; rintro e w10 ⟨rfl, b10⟩; have HB10 := dH (bT B6 (bT (dU HB9) b10)); clear b10)
    | fail)
   go_ret
   exact ⟨rfl, dU HB10⟩
 ·go_simp
  have hcz := hcur
  replace hcur := bT hcur (ba _ (.cells #[.slice none 0 0, .int .i64 0, .slice none 0 0, .slice none 0 0, .slice none 0 0, .int .i64 0, .slice none 0 0, .slice none 0 0, .slice none 0 0, .slice none 0 0, .bool false] 37))
  have Z9 := BxZ.new (B := w6.heap.size) wd [.slice none 0 0, .int .i64 0, .slice none 0 0, .slice none 0 0, .slice none 0 0, .int .i64 0, .slice none 0 0, .slice none 0 0, .slice none 0 0, .slice none 0 0, .bool false] 37 hcz.size
  clear hcz
  generalize wd.heap.size = zb at *
  generalize wd.alloc (.cells #[.slice none 0 0, .int .i64 0, .slice none 0 0, .slice none 0 0, .slice none 0 0, .int .i64 0, .slice none 0 0, .slice none 0 0, .slice none 0 0, .slice none 0 0, .bool false] 37) = wd at *
  refine hK.out _ _ (by exact dU HS _ hcur) (fun hHeld => ?_)
  clear hK K
  try simp only [Act.put, sA, sB, sC]
  refine wpAnyH_ready (rs := [2]) (by kernel_rfl) (by simp) ?_
  refine rC rfl (fun K hK => ?_) AllReadyH.nil
  go_simp
  refine (dU AT _ (bT B6 hcur)).mono ?_
  rintro e wd' ⟨⟨x, hx0, hx1, rfl⟩, rfl⟩
  refine hK.out _ _ (by exact dU HS _ hcur) (fun hHeld => ?_)
  clear hK K
  try simp only [Act.put, sA, sB, sC]
  have HX := tmod2 x hx0
  obtain ⟨HX0, HX1⟩ := HX
  refine tY 3 (v := ?_) rfl (by kernel_rfl) (.inl ⟨by rfl, ?_⟩) ‹_› ?_
  rotate_left 1
  ·intro w hSw
   (try dsimp only at hSw)
   first | (go_simp; done) | (go_simp; with_reducible rfl)
  try simp only [Act.put, sA, sB, sC]
  refine tY 4 (v := ?_) rfl (by kernel_rfl) (.inl ⟨by rfl, ?_⟩) ‹_› ?_
  rotate_left 1
  ·intro w hSw
   (try dsimp only at hSw)
   first | (go_simp; done) | (go_simp; with_reducible rfl)
  try simp only [Act.put, sA, sB, sC]
  refine wpAnyH_ready (rs := [5]) (by kernel_rfl) (by simp) ?_
  refine rC rfl (fun K hK => ?_) AllReadyH.nil
  go_simp
  refine (dU CDo _ hcur _ HX0 HX1).mono ?_
  rintro e wd ⟨⟨xda, xdc, xsa, xsc, xla, xlc, xea, xec, xwa, xwc, xna, xnc, xra, xrc, xta, xtc, rfl⟩, b5⟩
  replace hcur := bT hcur b5
  (try replace Z9 := Z9.below b5)
  clear b5
  refine hK.out _ _ (by exact dU HS _ hcur) (fun hHeld => ?_)
  clear hK K
  try simp only [Act.put, sA, sB, sC]
  refine tY 6 (v := ?_) rfl (by kernel_rfl) (.inl ⟨by rfl, ?_⟩) ‹_› ?_
  rotate_left 1
  ·intro w hSw
   (try dsimp only at hSw)
   first | (go_simp; done) | (go_simp; with_reducible rfl)
  try simp only [Act.put, sA, sB, sC]
  refine tY 7 (v := ?_) rfl (by kernel_rfl) (.inl ⟨by rfl, ?_⟩) ‹_› ?_
  rotate_left 1
  ·intro w hSw
   (try dsimp only at hSw)
   first | (go_simp; done) | (go_simp; with_reducible rfl)
  try simp only [Act.put, sA, sB, sC]
  refine tY 8 (v := ?_) rfl (by kernel_rfl) (.inl ⟨by rfl, ?_⟩) ‹_› ?_
  rotate_left 1
  ·intro w hSw
   (try dsimp only at hSw)
   first | (go_simp; done) | (go_simp; with_reducible rfl)
  try simp only [Act.put, sA, sB, sC]
  refine wpAnyH_ready (rs := [10]) (by kernel_rfl) (by simp) ?_
  refine rC rfl (fun K hK => ?_) AllReadyH.nil
  have hbz : w6.heap.size ≤ zb := Z9.1
  refine step_putW rfl _ _ _ rfl rfl [.slice xda ds.length xdc, .int .i64 cop, .slice xsa ds.length xsc, .slice xla 0 xlc, .slice xea 0 xec, .int .i64 0, .slice xwa 0 xwc, .slice xna 0 xnc, .slice xra 2 xrc, .slice xta 0 xtc, .bool false] rfl rfl Z9 rfl (by kernel_rfl) (by kernel_rfl) ?_
  clear Z9
  intro wd Z9 s9 q9 b9
  replace hcur := hcur.trans b9
  refine hK.out _ _ (by exact dU HS _ hcur) (fun hHeld => ?_)
  clear hK K
  try simp only [Act.put, sA, sB, sC]
  refine tY 11 (v := ?_) rfl (by kernel_rfl) (.inl ⟨by rfl, ?_⟩) ‹_› ?_
  rotate_left 1
  ·intro w hSw
   (try dsimp only at hSw)
   first | (go_simp; done) | (go_simp; with_reducible rfl)
  try simp only [Act.put, sA, sB, sC]
  refine wpAnyH_done (by kernel_rfl) ?_ _
  refine NoPanic.normal ?_
  have FF := dU HS _ hcur
  obtain ⟨f0, f1, f2, f3, f4, f5, f6, f7, f8, f9, f10⟩ := FF.1
  obtain ⟨n0, n1⟩ := FF.2
  have HB7 := dH hcur
  clear FF CDo AT Z9 q9 b9 hcur
  go_wp2_with (first
   | (go_at_call 11; refine (dU CW _ (dU HB7)).mono ?_; rintro e w8 ⟨q8, b8⟩; obtain rfl := q8.of_yes (dU PW); have HB8 := dH (bT (dU HB7) b8); have F8 := dU HS _ (dU HB8); obtain ⟨g0, g1, g2, g3, g4, g5, g6, g7, g8, g9, g10⟩ := F8.1; obtain ⟨n2, n3⟩ := F8.2; clear b8 F8)
   | (go_at_call 12; refine (dU CJ _ (dU HB8)).mono ?_; rintro e w9 ⟨q9, b9⟩; obtain rfl := q9.of_yes (dU PJ); have HB9 := dH (bT (dU HB8) b9); have F9 := dU HS _ (dU HB9); obtain ⟨h0, h1, h2, h3, h4, h5, h6, h7, h8, h9, h10⟩ := F9.1; obtain ⟨n4, n5⟩ := F9.2; clear b9 F9)
   | (go_at_call 13; refine (dU CS _ (dU HB9)).mono ?_; rintro e w10 ⟨rfl, b10⟩; have HB10 := dH (bT B6 (bT (dU HB9) b10)); clear b10)
   | fail)
  go_ret
  exact ⟨rfl, dU HB10⟩
theorem walkFnNew (v0 : Value) (m0 : List UInt8) (w : World) (i0 : Bs w v0 m0) :
  Calls Tryz.prog 3 #[v0] w fun e w' => e = .returned (.bool true) ∧ Below w.heap.size w w' := by
 have i0' := i0
 obtain ⟨-, a, cap, rfl, -, -⟩ := i0'
 exact walkNew a m0.length cap w (Bs.row8 i0)
end Go.Proofs.YtodfgehicpejgaaGreatDoor
