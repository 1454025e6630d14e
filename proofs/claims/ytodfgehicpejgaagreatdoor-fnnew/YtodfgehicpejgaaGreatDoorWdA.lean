/- WorldDo on a new world, the deed 'read': the reader waits (printed by tools/mkwda.py). -/
import Derived.Test.YtodfgehicpejgaaGreatDoorRdW
import Derived.Test.YtodfgehicpejgaaGreatDoorGk183
import Derived.Test.YtodfgehicpejgaaGreatDoorWkZ
import Derived.Defers
import Derived.Deep.RegionHeld3
import Derived.Deep.DeepCutAuto
namespace Go.Proofs.YtodfgehicpejgaaGreatDoor
open Go.ChangeShapes Go.WideShapes Go.ChangeAt Go.RowKit
set_option linter.unusedVariables false
set_option linter.unusedSimpArgs false
set_option maxRecDepth 100000

theorem copiedNewC_any (v : Value) (ds : List Int) (cop : Int) (w : World) (hv : RdWorld v (newW ds cop) w) (hl : ds.length ≤ 8) :
  Calls Tryz.prog 20 #[v] w fun e w' => (∃ xda xdc xsa xsc xla xlc xea xec xwa xwc xna xnc xra xrc xta xtc, e = .returned (.agg #[.slice xda ds.length xdc, .int .i64 cop, .slice xsa ds.length xsc, .slice xla 0 xlc, .slice xea 0 xec, .int .i64 0, .slice xwa 0 xwc, .slice xna 0 xnc, .slice xra 2 xrc, .slice xta 0 xtc, .bool false]) ∧ ∀ W : World, (∀ k, w.heap.size ≤ k → W.heap[k]? = w'.heap[k]?) → RdWorld (.agg #[.slice xda ds.length xdc, .int .i64 cop, .slice xsa ds.length xsc, .slice xla 0 xlc, .slice xea 0 xec, .int .i64 0, .slice xwa 0 xwc, .slice xna 0 xnc, .slice xra 2 xrc, .slice xta 0 xtc, .bool false]) (newW ds cop) W) ∧ Below w.heap.size w w' := by
 refine (copiedNew_any v ds cop w hv hl).mono ?_
 rintro e w1 ⟨⟨u, rfl, h⟩, hb⟩
 obtain ⟨xda, xdc, xsa, xsc, xla, xlc, xea, xec, xwa, xwc, xna, xnc, xra, xrc, xta, xtc, rfl, -⟩ := partsWorld (h w1 fun _ _ => rfl)
 simp only [newW, List.length_replicate, List.length_nil, List.length_cons, Nat.zero_add, Nat.reduceAdd] at h
 exact ⟨⟨xda, xdc, xsa, xsc, xla, xlc, xea, xec, xwa, xwc, xna, xnc, xra, xrc, xta, xtc, by simp [newW], h⟩, hb⟩
set_option maxHeartbeats 4000000 in
theorem undoNew_any (cb wb nb lo : Nat) (u : FrameMode) (ds : List Int) (cop : Int) (da sa la ea wa na ra ta : Option Addr) (dc sc lc ec wc nc rc tc : Nat) (os : List Value) (w : World) (Z : BxZ w lo cb [.int .i64 5]) (X : Bx w wb [.slice da ds.length dc, .int .i64 cop, .slice sa ds.length sc, .slice la 0 lc, .slice ea 0 ec, .int .i64 0, .slice wa 0 wc, .slice na 0 nc, .slice ra 2 rc, .slice ta 0 tc, .bool false]) (hv : RdWorld (.agg #[.slice da ds.length dc, .int .i64 cop, .slice sa ds.length sc, .slice la 0 lc, .slice ea 0 ec, .int .i64 0, .slice wa 0 wc, .slice na 0 nc, .slice ra 2 rc, .slice ta 0 tc, .bool false]) (newW ds cop) w) (hl : ds.length ≤ 8) (Y : BxZ w lo nb os) (ho : os.length = 11) (hn : cb ≠ nb) (hlo : lo ≤ w.heap.size) :
  CallsD Tryz.prog 21 #[.pointer (some ⟨cb, 0, none⟩), .pointer (some ⟨wb, 0, none⟩), .pointer (some ⟨nb, 0, none⟩)] u w fun e u' w' => u' = u ∧ (e = .returned (.tuple #[]) ∧ BxZ w' lo cb [.int .i64 5] ∧ (∃ xda xdc xsa xsc xla xlc xea xec xwa xwc xna xnc xra xrc xta xtc, BxZ w' lo nb [.slice xda ds.length xdc, .int .i64 cop, .slice xsa ds.length xsc, .slice xla 0 xlc, .slice xea 0 xec, .int .i64 0, .slice xwa 0 xwc, .slice xna 0 xnc, .slice xra 2 xrc, .slice xta 0 xtc, .bool false]) ∧ Below lo w w') := by
 have CC := dH (copiedNewC_any _ ds cop w hv hl)
 have HX := dH X
 have k0 := (Z.2 0 _ rfl).1
 clear hv hl
 have x0 := X 0 _ rfl
 have x1 := X 1 _ rfl
 have x2 := X 2 _ rfl
 have x3 := X 3 _ rfl
 have x4 := X 4 _ rfl
 have x5 := X 5 _ rfl
 have x6 := X 6 _ rfl
 have x7 := X 7 _ rfl
 have x8 := X 8 _ rfl
 have x9 := X 9 _ rfl
 have x10 := X 10 _ rfl
 go_enter_d Tryz.func21, Tryz.ntmps21
 go_wp2_with (first
  | (go_at_call 20; refine (dU CC).mono ?_; rintro e w1 ⟨⟨xda, xdc, xsa, xsc, xla, xlc, xea, xec, xwa, xwc, xna, xnc, xra, xrc, xta, xtc, rfl, -⟩, b1⟩; have Y1 := Y.below b1; have Z1 := Z.below b1; have hb1 : Below lo w w1 := b1.mono hlo; clear b1)
  | (refine wp_putW rfl _ _ _ rfl rfl [.slice xda ds.length xdc, .int .i64 cop, .slice xsa ds.length xsc, .slice xla 0 xlc, .slice xea 0 xec, .int .i64 0, .slice xwa 0 xwc, .slice xna 0 xnc, .slice xra 2 xrc, .slice xta 0 xtc, .bool false] rfl rfl Y1 (by simpa using ho) (by kernel_rfl) (by kernel_rfl) ?_; intro w2 Y2 s2 q2 b2)
  | fail)
 go_end0
 exact ⟨rfl, Z1.off q2 hn, ⟨xda, xdc, xsa, xsc, xla, xlc, xea, xec, xwa, xwc, xna, xnc, xra, xrc, xta, xtc, Y2⟩, hb1.trans b2⟩
set_option maxHeartbeats 16000000 in
theorem doNew_any (v : Value) (ds : List Int) (cop : Int) (j : Nat) (w : World) (hv : RdWorld v (newW ds cop) w) (hj : j < 2) (hp : cfgP ds cop) (ok : okConfig (ds, cop)) :
  Calls Tryz.prog 9 #[v, .agg #[.int .i64 14, .int .i64 (j : Int), .int .i64 255, .int .i64 0, .string ⟨#[]⟩]] w fun e w' => (∃ xda xdc xsa xsc xla xlc xea xec xwa xwc xna xnc xra xrc xta xtc, e = .returned (.tuple #[.agg #[.slice xda ds.length xdc, .int .i64 cop, .slice xsa ds.length xsc, .slice xla 0 xlc, .slice xea 0 xec, .int .i64 0, .slice xwa 0 xwc, .slice xna 0 xnc, .slice xra 2 xrc, .slice xta 0 xtc, .bool false], .int .i64 5])) ∧ Below w.heap.size w w' := by
 have ba : ∀ (w : World) o, Below w.heap.size w (w.alloc o) := fun w o => (Below.refl _ _).alloc (Nat.le_refl _) o
 have hmf : ∀ (fn : Fn) (first cap : Array Value) (w : World), (Instr.makeFunc fn first cap).run Tryz.prog w = .ok (.func fn first cap) w := fun _ _ _ _ => rfl
 have h8 : ds.length ≤ 8 := hp.1.2
 have CW := dH fun W (hW : Below w.heap.size w W) => (implWorldOk_any v (newW ds cop) W (okNew ds cop ok) (sizNew ds cop h8) (hv.below hW))
 have PW : Hid (woP (newW ds cop)) := newWo_P hp
 have CD := dH fun W => implDeedOk_ok ⟨14, j, 255, 0, ⟨#[]⟩⟩ W (show (0 : Nat) ≤ 9223372036854775807 by omega) (show (1 : Int) ≤ 14 ∧ (14 : Int) ≤ 16 by omega) (show (0 : Nat) ≤ 40 by omega) (by simp [dropD, nm, nmL])
 have CC := dH fun W (hW : Below w.heap.size w W) => copiedNewC_any v ds cop W (hv.below hW) h8
 have HV := dH fun W (hW : Below w.heap.size w W) => hv.below hW
 obtain ⟨KT, CK, hix, hfd⟩ : ∃ KT, (∀ W, Calls Tryz.prog 22 #[] W fun e w' => e = .returned KT ∧ Below W.heap.size W w') ∧ (∀ W, (Instr.index 62 KT (.int .i64 14)).run Tryz.prog W = .ok (.agg #[.int .i64 3, .func (.func 61) #[] #[]]) W) ∧ (∀ W, (Instr.field 61 (.agg #[.int .i64 3, .func (.func 61) #[] #[]]) 1).run Tryz.prog W = .ok (.func (.func 61) #[] #[]) W) := ⟨_, fun W => implKinds_any W, fun W => rfl, fun W => rfl⟩
 obtain ⟨da, dc, sa, sc, la, lc, ea, ec, wa, wc, na, nc, ra, rc, ta, tc, rfl, -⟩ := partsWorld hv
 clear hv
 simp only [newW, List.length_replicate, List.length_nil, List.length_cons, Nat.zero_add, Nat.reduceAdd] at *
 have B0 := bT (bT (bT (ba w (.cells #[.slice da ds.length dc, .int .i64 cop, .slice sa ds.length sc, .slice la 0 lc, .slice ea 0 ec, .int .i64 0, .slice wa 0 wc, .slice na 0 nc, .slice ra 2 rc, .slice ta 0 tc, .bool false] 37)) (ba _ (.cells #[.int .i64 14, .int .i64 (j : Int), .int .i64 255, .int .i64 0, .string ⟨#[]⟩] 45))) (ba _ (.cells #[.slice none 0 0, .int .i64 0, .slice none 0 0, .slice none 0 0, .slice none 0 0, .int .i64 0, .slice none 0 0, .slice none 0 0, .slice none 0 0, .slice none 0 0, .bool false] 37))) (ba _ (.cells #[.int .i64 0] 3))
 have X0 := (Bx.new w [.slice da ds.length dc, .int .i64 cop, .slice sa ds.length sc, .slice la 0 lc, .slice ea 0 ec, .int .i64 0, .slice wa 0 wc, .slice na 0 nc, .slice ra 2 rc, .slice ta 0 tc, .bool false] 37).below (bT (bT (ba _ (.cells #[.int .i64 14, .int .i64 (j : Int), .int .i64 255, .int .i64 0, .string ⟨#[]⟩] 45)) (ba _ (.cells #[.slice none 0 0, .int .i64 0, .slice none 0 0, .slice none 0 0, .slice none 0 0, .int .i64 0, .slice none 0 0, .slice none 0 0, .slice none 0 0, .slice none 0 0, .bool false] 37))) (ba _ (.cells #[.int .i64 0] 3)))
 have D0 := (Bx.new (w.alloc (.cells #[.slice da ds.length dc, .int .i64 cop, .slice sa ds.length sc, .slice la 0 lc, .slice ea 0 ec, .int .i64 0, .slice wa 0 wc, .slice na 0 nc, .slice ra 2 rc, .slice ta 0 tc, .bool false] 37)) [.int .i64 14, .int .i64 (j : Int), .int .i64 255, .int .i64 0, .string ⟨#[]⟩] 45).below (bT (ba _ (.cells #[.slice none 0 0, .int .i64 0, .slice none 0 0, .slice none 0 0, .slice none 0 0, .int .i64 0, .slice none 0 0, .slice none 0 0, .slice none 0 0, .slice none 0 0, .bool false] 37)) (ba _ (.cells #[.int .i64 0] 3)))
 have Y0 := (BxZ.new (B := w.heap.size) ((w.alloc (.cells #[.slice da ds.length dc, .int .i64 cop, .slice sa ds.length sc, .slice la 0 lc, .slice ea 0 ec, .int .i64 0, .slice wa 0 wc, .slice na 0 nc, .slice ra 2 rc, .slice ta 0 tc, .bool false] 37)).alloc (.cells #[.int .i64 14, .int .i64 (j : Int), .int .i64 255, .int .i64 0, .string ⟨#[]⟩] 45)) [.slice none 0 0, .int .i64 0, .slice none 0 0, .slice none 0 0, .slice none 0 0, .int .i64 0, .slice none 0 0, .slice none 0 0, .slice none 0 0, .slice none 0 0, .bool false] 37 (by simp; omega)).below (ba _ (.cells #[.int .i64 0] 3))
 have C0 := BxZ.new (B := w.heap.size) (((w.alloc (.cells #[.slice da ds.length dc, .int .i64 cop, .slice sa ds.length sc, .slice la 0 lc, .slice ea 0 ec, .int .i64 0, .slice wa 0 wc, .slice na 0 nc, .slice ra 2 rc, .slice ta 0 tc, .bool false] 37)).alloc (.cells #[.int .i64 14, .int .i64 (j : Int), .int .i64 255, .int .i64 0, .string ⟨#[]⟩] 45)).alloc (.cells #[.slice none 0 0, .int .i64 0, .slice none 0 0, .slice none 0 0, .slice none 0 0, .int .i64 0, .slice none 0 0, .slice none 0 0, .slice none 0 0, .slice none 0 0, .bool false] 37)) [.int .i64 0] 3 (by simp; omega)
 rw [show (w.alloc (.cells #[.slice da ds.length dc, .int .i64 cop, .slice sa ds.length sc, .slice la 0 lc, .slice ea 0 ec, .int .i64 0, .slice wa 0 wc, .slice na 0 nc, .slice ra 2 rc, .slice ta 0 tc, .bool false] 37)).heap.size = w.heap.size + 1 from by simp] at D0
 rw [show ((w.alloc (.cells #[.slice da ds.length dc, .int .i64 cop, .slice sa ds.length sc, .slice la 0 lc, .slice ea 0 ec, .int .i64 0, .slice wa 0 wc, .slice na 0 nc, .slice ra 2 rc, .slice ta 0 tc, .bool false] 37)).alloc (.cells #[.int .i64 14, .int .i64 (j : Int), .int .i64 255, .int .i64 0, .string ⟨#[]⟩] 45)).heap.size = w.heap.size + 1 + 1 from by simp] at Y0
 rw [show (((w.alloc (.cells #[.slice da ds.length dc, .int .i64 cop, .slice sa ds.length sc, .slice la 0 lc, .slice ea 0 ec, .int .i64 0, .slice wa 0 wc, .slice na 0 nc, .slice ra 2 rc, .slice ta 0 tc, .bool false] 37)).alloc (.cells #[.int .i64 14, .int .i64 (j : Int), .int .i64 255, .int .i64 0, .string ⟨#[]⟩] 45)).alloc (.cells #[.slice none 0 0, .int .i64 0, .slice none 0 0, .slice none 0 0, .slice none 0 0, .int .i64 0, .slice none 0 0, .slice none 0 0, .slice none 0 0, .slice none 0 0, .bool false] 37)).heap.size = w.heap.size + 1 + 1 + 1 from by simp] at C0
 have hs0 : Hid (((((w.alloc (.cells #[.slice da ds.length dc, .int .i64 cop, .slice sa ds.length sc, .slice la 0 lc, .slice ea 0 ec, .int .i64 0, .slice wa 0 wc, .slice na 0 nc, .slice ra 2 rc, .slice ta 0 tc, .bool false] 37)).alloc (.cells #[.int .i64 14, .int .i64 (j : Int), .int .i64 255, .int .i64 0, .string ⟨#[]⟩] 45)).alloc (.cells #[.slice none 0 0, .int .i64 0, .slice none 0 0, .slice none 0 0, .slice none 0 0, .int .i64 0, .slice none 0 0, .slice none 0 0, .slice none 0 0, .slice none 0 0, .bool false] 37)).alloc (.cells #[.int .i64 0] 3)).heap.size = w.heap.size + 4) := by simp [Hid]
 go_enter_defers Tryz.func9, Tryz.ntmps9
 go_upto_region 1 with fail
 generalize ((((w.alloc (.cells #[.slice da ds.length dc, .int .i64 cop, .slice sa ds.length sc, .slice la 0 lc, .slice ea 0 ec, .int .i64 0, .slice wa 0 wc, .slice na 0 nc, .slice ra 2 rc, .slice ta 0 tc, .bool false] 37)).alloc (.cells #[.int .i64 14, .int .i64 (j : Int), .int .i64 255, .int .i64 0, .string ⟨#[]⟩] 45)).alloc (.cells #[.slice none 0 0, .int .i64 0, .slice none 0 0, .slice none 0 0, .slice none 0 0, .int .i64 0, .slice none 0 0, .slice none 0 0, .slice none 0 0, .slice none 0 0, .bool false] 37)).alloc (.cells #[.int .i64 0] 3)) = w0 at *
 have hsz := dU hs0
 have x0 := X0 0 _ rfl
 have x1 := X0 1 _ rfl
 have x2 := X0 2 _ rfl
 have x3 := X0 3 _ rfl
 have x4 := X0 4 _ rfl
 have x5 := X0 5 _ rfl
 have x6 := X0 6 _ rfl
 have x7 := X0 7 _ rfl
 have x8 := X0 8 _ rfl
 have x9 := X0 9 _ rfl
 have x10 := X0 10 _ rfl
 have d0 := D0 0 _ rfl
 have d1 := D0 1 _ rfl
 have d2 := D0 2 _ rfl
 have d3 := D0 3 _ rfl
 have d4 := D0 4 _ rfl
 go_wp2_with (first
  | (go_at_call 11; refine (dU CW _ B0).mono ?_; rintro e w1 ⟨q1, b1⟩; obtain rfl := q1.of_yes (dU PW); have D1 := D0.below b1; have e0 := D1 0 _ rfl; have e1 := D1 1 _ rfl; have e2 := D1 2 _ rfl; have e3 := D1 3 _ rfl; have e4 := D1 4 _ rfl)
  | (go_at_call 19; refine (dU CD _).mono ?_; rintro e w2 ⟨rfl, b2⟩; have r2 := bT b1 b2; have X2 := X0.below r2; have y0 := X2 0 _ rfl; have y1 := X2 1 _ rfl; have y2 := X2 2 _ rfl; have y3 := X2 3 _ rfl; have y4 := X2 4 _ rfl; have y5 := X2 5 _ rfl; have y6 := X2 6 _ rfl; have y7 := X2 7 _ rfl; have y8 := X2 8 _ rfl; have y9 := X2 9 _ rfl; have y10 := X2 10 _ rfl)
  | (go_at_call 20; refine (dU CC _ (bT B0 r2)).mono ?_; rintro e w4 ⟨⟨xda, xdc, xsa, xsc, xla, xlc, xea, xec, xwa, xwc, xna, xnc, xra, xrc, xta, xtc, rfl, hn⟩, b4⟩; have r4 := bT r2 b4; have Y4' := Y0.below r4)
  | (refine wp_putW rfl _ _ _ rfl rfl [.slice xda ds.length xdc, .int .i64 cop, .slice xsa ds.length xsc, .slice xla 0 xlc, .slice xea 0 xec, .int .i64 0, .slice xwa 0 xwc, .slice xna 0 xnc, .slice xra 2 xrc, .slice xta 0 xtc, .bool false] rfl rfl Y4' rfl (by kernel_rfl) (by kernel_rfl) ?_; intro w3 Y4 s4 q4 b4')
  | fail)
 have bd5 : Below w3.heap.size w3 w3.drew := (Below.refl _ _).drew
 have hsr := r2.size
 have hn3 := hn w3 fun k hk => q4 k (by omega)
 have D3 := (D0.below r4).off q4 (by omega)
 have X3 := (X0.below r4).off q4 (by omega)
 have C3 := (C0.below r4).off q4 (by omega)
 have B3 := (bT B0 r4).trans b4'
 have hs3 : w.heap.size + 4 ≤ w3.heap.size := by have := r4.size; omega
 have CR := dH fun W (hW : Below w3.heap.size w3 W) => readNew_any (w.heap.size + 1 + 1) j ds cop 14 255 0 ⟨#[]⟩ W ⟨_, rfl, Y4.bx.below hW, RdWorld.below hn3 hW⟩ hj (by omega) hp ok
 have HS : Hid (∀ (V W : World), Below w3.heap.size w3 V → (∀ k, k ≠ w.heap.size + 1 + 1 + 1 → W.heap[k]? = V.heap[k]?) → W.cell? ⟨w.heap.size + 1, 0, none⟩ = some (.int .i64 14) ∧ W.cell? ⟨w.heap.size + 1, 1, none⟩ = some (.int .i64 (j : Int)) ∧ W.cell? ⟨w.heap.size + 1, 2, none⟩ = some (.int .i64 255) ∧ W.cell? ⟨w.heap.size + 1, 3, none⟩ = some (.int .i64 0) ∧ W.cell? ⟨w.heap.size + 1, 4, none⟩ = some (.string ⟨#[]⟩)) := fun V W hV q => by
  have X := (D3.below hV).off q (by omega)
  exact ⟨X 0 _ rfl, X 1 _ rfl, X 2 _ rfl, X 3 _ rfl, X 4 _ rfl⟩
 clear CW PW CD CC hn hn3 X0 D0 Y0 C0 Y4' D1 X2 x0 y0 x1 y1 x2 y2 x3 y3 x4 y4 x5 y5 x6 y6 x7 y7 x8 y8 x9 y9 x10 y10 d0 e0 d1 e1 d2 e2 d3 e3 d4 e4 b1 b2 b4 b4' r2 r4 q1 hsr q4 s4 B0 hs0 hsz
 have hcur := bd5
 refine wp_region_noPanic ?_
 refine wp_region_held_drew (S := fun W => W.cell? ⟨w.heap.size + 1, 0, none⟩ = some (.int .i64 14) ∧ W.cell? ⟨w.heap.size + 1, 1, none⟩ = some (.int .i64 (j : Int)) ∧ W.cell? ⟨w.heap.size + 1, 2, none⟩ = some (.int .i64 255) ∧ W.cell? ⟨w.heap.size + 1, 3, none⟩ = some (.int .i64 0) ∧ W.cell? ⟨w.heap.size + 1, 4, none⟩ = some (.string ⟨#[]⟩)) (by kernel_rfl) (by exact dU HS _ _ bd5 (fun _ _ => rfl)) (fun hHeld => ?_)
 generalize w3.drew = wd at *
 refine tY 1 (v := ?_) rfl (by kernel_rfl) (.inl ⟨by rfl, ?_⟩) ‹_› ?_
 rotate_left 1
 ·intro w hSw
  (try dsimp only at hSw)
  first | (go_simp; done) | (go_simp; with_reducible rfl)
 try simp only [Act.put, sA, sB, sC]
 refine tY 2 (v := ?_) rfl (by kernel_rfl) (.inl ⟨by rfl, ?_⟩) ‹_› ?_
 rotate_left 1
 ·intro w hSw
  (try dsimp only at hSw)
  first | (go_simp; done) | (go_simp; with_reducible rfl)
 try simp only [Act.put, sA, sB, sC]
 refine tY 5 (v := ?_) rfl (by kernel_rfl) (.inl ⟨by rfl, ?_⟩) ‹_› ?_
 rotate_left 1
 ·intro w hSw
  (try dsimp only at hSw)
  first | (go_simp; done) | (go_simp; with_reducible rfl)
 try simp only [Act.put, sA, sB, sC]
 refine wpAnyH_ready (rs := [0]) (by kernel_rfl) (by simp) ?_
 refine rC rfl (fun K hK => ?_) AllReadyH.nil
 go_simp
 refine (CK _).mono ?_
 rintro e wd ⟨rfl, b5⟩
 replace hcur := bT hcur b5
 clear b5
 refine hK.out _ _ (by first | exact dU HS _ _ hcur q7 | exact dU HS _ _ hcur (fun _ _ => rfl)) (fun hHeld => ?_)
 clear hK K
 try simp only [Act.put, sA, sB, sC]
 refine tY 3 (v := ?_) rfl (by kernel_rfl) (.inl ⟨by rfl, ?_⟩) ‹_› ?_
 rotate_left 1
 ·intro w hSw
  (try dsimp only at hSw)
  first | (go_simp; done) | (go_simp; with_reducible rfl)
 try simp only [Act.put, sA, sB, sC]
 refine tY 4 (v := ?_) rfl (by kernel_rfl) (.inl ⟨by rfl, ?_⟩) ‹_› ?_
 rotate_left 1
 ·intro w hSw
  (try dsimp only at hSw)
  first | (go_simp; done) | (go_simp; with_reducible rfl)
 try simp only [Act.put, sA, sB, sC]
 refine wpAnyH_ready (rs := [6]) (by kernel_rfl) (by simp) ?_
 refine rC rfl (fun K hK => ?_) AllReadyH.nil
 go_simp
 refine (dU CR _ hcur).mono ?_
 rintro e wd ⟨rfl, b5⟩
 replace hcur := bT hcur b5
 obtain ⟨y0, g0⟩ := (C3.below hcur).2 0 _ rfl
 clear b5
 refine hK.out _ _ (by first | exact dU HS _ _ hcur q7 | exact dU HS _ _ hcur (fun _ _ => rfl)) (fun hHeld => ?_)
 clear hK K
 try simp only [Act.put, sA, sB, sC]
 refine wpAnyH_ready (rs := [7]) (by kernel_rfl) (by simp) ?_
 refine rC rfl (fun K hK => ?_) AllReadyH.nil
 go_simp
 have q7 := offSet (c := w.heap.size + 1 + 1 + 1) (o := 0) (w := wd) (w' := wd) (fun _ _ => rfl) (.int .i64 5)
 refine hK.out _ _ (by first | exact dU HS _ _ hcur q7 | exact dU HS _ _ hcur (fun _ _ => rfl)) (fun hHeld => ?_)
 clear hK K
 try simp only [Act.put, sA, sB, sC]
 refine wpAnyH_done (by kernel_rfl) ?_ _
 refine NoPanic.normal ?_
 have Y6 := (Y4.below hcur).off q7 (by omega)
 have Z6 := (C3.below hcur).put 0 (.int .i64 5)
 have X6 := (X3.below hcur).off q7 (by omega)
 have B6 := (bT B3 hcur).setCell (p := ⟨w.heap.size + 1 + 1 + 1, 0, none⟩) (by simp only; omega) (.int .i64 5)
 clear HS CR CK hix hfd Y4 C3 D3 X3 B3 hcur q7 y0 g0 bd5
 go_upto_region 6 with fail
 generalize wd.setCell ⟨w.heap.size + 1 + 1 + 1, 0, none⟩ (.int .i64 5) = V at *
 have bd6 : Below V.heap.size V V.drew := (Below.refl _ _).drew
 replace Y6 := Y6.below bd6
 replace Z6 := Z6.below bd6
 replace X6 := X6.below bd6
 replace B6 := bT B6 bd6
 clear bd6
 refine wp_region_noPanic ?_
 refine wp_region_held_drew (S := fun W => W.cell? ⟨w.heap.size + 1 + 1, 0, none⟩ = some (.slice xda ds.length xdc) ∧ W.cell? ⟨w.heap.size + 1 + 1, 1, none⟩ = some (.int .i64 cop) ∧ W.cell? ⟨w.heap.size + 1 + 1, 2, none⟩ = some (.slice xsa ds.length xsc) ∧ W.cell? ⟨w.heap.size + 1 + 1, 3, none⟩ = some (.slice xla 0 xlc) ∧ W.cell? ⟨w.heap.size + 1 + 1, 4, none⟩ = some (.slice xea 0 xec) ∧ W.cell? ⟨w.heap.size + 1 + 1, 5, none⟩ = some (.int .i64 0) ∧ W.cell? ⟨w.heap.size + 1 + 1, 6, none⟩ = some (.slice xwa 0 xwc) ∧ W.cell? ⟨w.heap.size + 1 + 1, 7, none⟩ = some (.slice xna 0 xnc) ∧ W.cell? ⟨w.heap.size + 1 + 1, 8, none⟩ = some (.slice xra 2 xrc) ∧ W.cell? ⟨w.heap.size + 1 + 1, 9, none⟩ = some (.slice xta 0 xtc) ∧ W.cell? ⟨w.heap.size + 1 + 1, 10, none⟩ = some (.bool false) ∧ W.cell? ⟨w.heap.size + 1 + 1 + 1, 0, none⟩ = some (.int .i64 5)) (by kernel_rfl) (by exact ⟨(Y6.2 0 _ rfl).1, (Y6.2 1 _ rfl).1, (Y6.2 2 _ rfl).1, (Y6.2 3 _ rfl).1, (Y6.2 4 _ rfl).1, (Y6.2 5 _ rfl).1, (Y6.2 6 _ rfl).1, (Y6.2 7 _ rfl).1, (Y6.2 8 _ rfl).1, (Y6.2 9 _ rfl).1, (Y6.2 10 _ rfl).1, (Z6.2 0 _ rfl).1⟩) (fun hHeld => ?_)
 generalize V.drew = wd at *
 refine tY 0 (v := ?_) rfl (by kernel_rfl) (.inl ⟨by rfl, ?_⟩) ‹_› ?_
 rotate_left 1
 ·intro w hSw
  (try dsimp only at hSw)
  first | (go_simp; done) | (go_simp; with_reducible rfl)
 try simp only [Act.put, sA, sB, sC]
 refine tY 1 (v := ?_) rfl (by kernel_rfl) (.inl ⟨by rfl, ?_⟩) ‹_› ?_
 rotate_left 1
 ·intro w hSw
  (try dsimp only at hSw)
  first | (go_simp; done) | (go_simp; with_reducible rfl)
 try simp only [Act.put, sA, sB, sC]
 refine wpAnyH_ready (rs := [2]) (by kernel_rfl) (by simp) ?_
 refine rC rfl (fun K hK => ?_) AllReadyH.nil
 refine step_putW rfl _ _ _ rfl rfl [.slice xda ds.length xdc, .int .i64 cop, .slice xsa ds.length xsc, .slice xla 0 xlc, .slice xea 0 xec, .int .i64 0, .slice xwa 0 xwc, .slice xna 0 xnc, .slice xra 2 xrc, .slice xta 0 xtc, .bool false] rfl rfl Y6 rfl (by kernel_rfl) (by kernel_rfl) ?_
 intro w7 Y7 s7 q9 b9
 have Z7 := Z6.off q9 (by omega)
 obtain ⟨y1, g1⟩ := Z7.2 0 _ rfl
 refine hK.out _ _ (by first | exact ⟨(Y8.2 0 _ rfl).1, (Y8.2 1 _ rfl).1, (Y8.2 2 _ rfl).1, (Y8.2 3 _ rfl).1, (Y8.2 4 _ rfl).1, (Y8.2 5 _ rfl).1, (Y8.2 6 _ rfl).1, (Y8.2 7 _ rfl).1, (Y8.2 8 _ rfl).1, (Y8.2 9 _ rfl).1, (Y8.2 10 _ rfl).1, (Z8.2 0 _ rfl).1⟩ | exact ⟨(Y7.2 0 _ rfl).1, (Y7.2 1 _ rfl).1, (Y7.2 2 _ rfl).1, (Y7.2 3 _ rfl).1, (Y7.2 4 _ rfl).1, (Y7.2 5 _ rfl).1, (Y7.2 6 _ rfl).1, (Y7.2 7 _ rfl).1, (Y7.2 8 _ rfl).1, (Y7.2 9 _ rfl).1, (Y7.2 10 _ rfl).1, (Z7.2 0 _ rfl).1⟩ | exact ⟨(Y6.2 0 _ rfl).1, (Y6.2 1 _ rfl).1, (Y6.2 2 _ rfl).1, (Y6.2 3 _ rfl).1, (Y6.2 4 _ rfl).1, (Y6.2 5 _ rfl).1, (Y6.2 6 _ rfl).1, (Y6.2 7 _ rfl).1, (Y6.2 8 _ rfl).1, (Y6.2 9 _ rfl).1, (Y6.2 10 _ rfl).1, (Z6.2 0 _ rfl).1⟩) (fun hHeld => ?_)
 clear hK K
 try simp only [Act.put, sA, sB, sC]
 refine wpAnyH_ready (rs := [3]) (by kernel_rfl) (by simp) ?_
 refine rC rfl (fun K hK => ?_) AllReadyH.nil
 go_simp
 have Z8 := Z7.put 0 (.int .i64 5)
 have Y8 := Y7.off (offSet (c := w.heap.size + 1 + 1 + 1) (o := 0) (w := w7) (w' := w7) (fun _ _ => rfl) (.int .i64 5)) (by omega)
 refine hK.out _ _ (by first | exact ⟨(Y8.2 0 _ rfl).1, (Y8.2 1 _ rfl).1, (Y8.2 2 _ rfl).1, (Y8.2 3 _ rfl).1, (Y8.2 4 _ rfl).1, (Y8.2 5 _ rfl).1, (Y8.2 6 _ rfl).1, (Y8.2 7 _ rfl).1, (Y8.2 8 _ rfl).1, (Y8.2 9 _ rfl).1, (Y8.2 10 _ rfl).1, (Z8.2 0 _ rfl).1⟩ | exact ⟨(Y7.2 0 _ rfl).1, (Y7.2 1 _ rfl).1, (Y7.2 2 _ rfl).1, (Y7.2 3 _ rfl).1, (Y7.2 4 _ rfl).1, (Y7.2 5 _ rfl).1, (Y7.2 6 _ rfl).1, (Y7.2 7 _ rfl).1, (Y7.2 8 _ rfl).1, (Y7.2 9 _ rfl).1, (Y7.2 10 _ rfl).1, (Z7.2 0 _ rfl).1⟩ | exact ⟨(Y6.2 0 _ rfl).1, (Y6.2 1 _ rfl).1, (Y6.2 2 _ rfl).1, (Y6.2 3 _ rfl).1, (Y6.2 4 _ rfl).1, (Y6.2 5 _ rfl).1, (Y6.2 6 _ rfl).1, (Y6.2 7 _ rfl).1, (Y6.2 8 _ rfl).1, (Y6.2 9 _ rfl).1, (Y6.2 10 _ rfl).1, (Z6.2 0 _ rfl).1⟩) (fun hHeld => ?_)
 clear hK K
 try simp only [Act.put, sA, sB, sC]
 refine wpAnyH_done (by kernel_rfl) ?_ _
 refine NoPanic.normal ?_
 have X8 := (X6.off q9 (by omega)).off (offSet (c := w.heap.size + 1 + 1 + 1) (o := 0) (w := w7) (w' := w7) (fun _ _ => rfl) (.int .i64 5)) (by omega)
 have B8 := (B6.trans b9).setCell (p := ⟨w.heap.size + 1 + 1 + 1, 0, none⟩) (by simp only; omega) (.int .i64 5)
 clear Y6 Z6 X6 B6 Y7 Z7 q9 b9 y1 g1 s7
 generalize w7.setCell ⟨w.heap.size + 1 + 1 + 1, 0, none⟩ (.int .i64 5) = U at *
 have hU : w.heap.size ≤ U.heap.size := B8.size
 go_wp2_with fail
 refine leaves_cons (f := 21) (args := #[.pointer (some ⟨w.heap.size + 1 + 1 + 1, 0, none⟩), .pointer (some ⟨w.heap.size, 0, none⟩), .pointer (some ⟨w.heap.size + 1 + 1, 0, none⟩)]) (by simp) (by simp [go_sem]) ?_
 refine (undoNew_any (w.heap.size + 1 + 1 + 1) w.heap.size (w.heap.size + 1 + 1) w.heap.size .returning ds cop da sa la ea wa na ra ta dc sc lc ec wc nc rc tc _ U Z8 X8 (dU HV U B8) h8 Y8 rfl (by omega) hU).mono ?_
 rintro e u' w'' ⟨rfl, rfl, Z9, ⟨xda, xdc, xsa, xsc, xla, xlc, xea, xec, xwa, xwc, xna, xnc, xra, xrc, xta, xtc, Y9⟩, b9⟩
 have B9 := B8.trans b9
 have kc := (Z9.2 0 _ rfl).1
 have k0 := (Y9.2 0 _ rfl).1
 have k1 := (Y9.2 1 _ rfl).1
 have k2 := (Y9.2 2 _ rfl).1
 have k3 := (Y9.2 3 _ rfl).1
 have k4 := (Y9.2 4 _ rfl).1
 have k5 := (Y9.2 5 _ rfl).1
 have k6 := (Y9.2 6 _ rfl).1
 have k7 := (Y9.2 7 _ rfl).1
 have k8 := (Y9.2 8 _ rfl).1
 have k9 := (Y9.2 9 _ rfl).1
 have k10 := (Y9.2 10 _ rfl).1
 clear HV Z8 X8 Y8 B8 hU Z9 Y9 b9
 refine ⟨.tuple #[.agg #[.slice xda ds.length xdc, .int .i64 cop, .slice xsa ds.length xsc, .slice xla 0 xlc, .slice xea 0 xec, .int .i64 0, .slice xwa 0 xwc, .slice xna 0 xnc, .slice xra 2 xrc, .slice xta 0 xtc, .bool false], .int .i64 5], ?_, ⟨xda, xdc, xsa, xsc, xla, xlc, xea, xec, xwa, xwc, xna, xnc, xra, xrc, xta, xtc, rfl⟩, B9⟩
 simp [results, Tryz.results9, go_sem, kc, k0, k1, k2, k3, k4, k5, k6, k7, k8, k9, k10]
end Go.Proofs.YtodfgehicpejgaaGreatDoor
