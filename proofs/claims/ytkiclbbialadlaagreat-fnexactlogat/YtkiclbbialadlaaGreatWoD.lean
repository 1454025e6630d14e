/- Worlds, copied as the exact laws do (printed by tools/mkwo.py). -/
import Derived.Test.YtkiclbbialadlaaGreatGz12
import Derived.Deep.DeepCutAuto
namespace Go.Proofs.YtkiclbbialadlaaGreat
open Go.ChangeShapes Go.WideShapes Go.ChangeAt Go.RowKit
set_option linter.unusedVariables false
set_option linter.unusedSimpArgs false
set_option maxRecDepth 100000

set_option maxHeartbeats 16000000 in
theorem toWorld_ (v : Value) (m : Wo) (w : World) (hl : sizWorld m ≤ 1048576) (h : RdWorld v m w) :
  Calls Tryz.prog 8 #[v] w fun e w' => ∃ u, e = .returned u ∧ Sits (OwWorld w.heap.size w'.heap.size u m) w.heap.size w'.heap.size w' ∧ Below w.heap.size w w' := by
 have ba : ∀ (w : World) o, Below w.heap.size w (w.alloc o) := fun w o => (Below.refl _ _).alloc (Nat.le_refl _) o
 obtain ⟨dv, sv, lv, ev, wv, nv, rv, tv, rfl, h0, h1, h2, h3, h4, h5, h6, h7⟩ := h
 have hS : sizConfig m.cfg ≤ 1048576 ∧ sizStoreS m.stores ≤ 1048576 ∧ sizIntS m.lost ≤ 1048576 ∧ sizRegister m.reg ≤ 1048576 ∧ sizWriterS m.writers ≤ 1048576 ∧ sizMendS m.mends ≤ 1048576 ∧ sizReaderS m.readers ≤ 1048576 ∧ sizSentS m.sent ≤ 1048576 := by unfold sizWorld at hl; refine ⟨by omega, by omega, by omega, by omega, by omega, by omega, by omega, by omega⟩
 have C0 := dH fun W (hb : Below w.heap.size w W) => toConfig_ (.agg #[dv, .int .i64 m.cfg.2]) m.cfg W hS.1 ⟨_, rfl, h0.below hb⟩
 have C1 := dH fun W (hb : Below w.heap.size w W) => toStoreS_ (sv) m.stores W hS.2.1 (h1.below hb)
 have C2 := dH fun W (hb : Below w.heap.size w W) => toIntS_ (lv) m.lost W hS.2.2.1 (h2.below hb)
 have C3 := dH fun W (hb : Below w.heap.size w W) => toRegister_ (.agg #[ev, .int .i64 m.reg.trim]) m.reg W hS.2.2.2.1 ⟨_, rfl, RdK.below h3 hb⟩
 have C4 := dH fun W (hb : Below w.heap.size w W) => toWriterS_ (wv) m.writers W hS.2.2.2.2.1 (h4.below hb)
 have C5 := dH fun W (hb : Below w.heap.size w W) => toMendS_ (nv) m.mends W hS.2.2.2.2.2.1 (h5.below hb)
 have C6 := dH fun W (hb : Below w.heap.size w W) => toReaderS_ (rv) m.readers W hS.2.2.2.2.2.2.1 (h6.below hb)
 have C7 := dH fun W (hb : Below w.heap.size w W) => toSentS_ (tv) m.sent W hS.2.2.2.2.2.2.2 (h7.below hb)
 obtain ⟨zd, da, dc, rfl, -, -⟩ := h0
 obtain ⟨sa, sc, rfl, zs⟩ := formStoreS h1
 obtain ⟨zl, la, lc, rfl, -, -⟩ := h2
 obtain ⟨ea, ec, rfl, ze⟩ := formK h3
 obtain ⟨wa, wc, rfl, zw⟩ := formD h4
 obtain ⟨na, nc, rfl, zn⟩ := formD h5
 obtain ⟨ra, rc, rfl, zr⟩ := formD h6
 obtain ⟨ta, tc, rfl, zt⟩ := formSentS h7
 have EX : Hid (∀ (W : World) (ud us ul ue uw un ur ut : Value) (s0 t0 s1 t1 s2 t2 s3 t3 s4 t4 s5 t5 s6 t6 s7 t7 : Nat), w.heap.size ≤ s0 → s0 ≤ t0 → t0 ≤ s1 → s1 ≤ t1 → t1 ≤ s2 → s2 ≤ t2 → t2 ≤ s3 → s3 ≤ t3 → t3 ≤ s4 → s4 ≤ t4 → t4 ≤ s5 → s5 ≤ t5 → t5 ≤ s6 → s6 ≤ t6 → t6 ≤ s7 → s7 ≤ t7 → t7 ≤ W.heap.size → Sits (fun W => (((((((OwConfig s0 t0 (.agg #[ud, .int .i64 m.cfg.2]) m.cfg W) ∧ OwStoreS s1 t1 us m.stores W) ∧ OwIntS s2 t2 ul m.lost W) ∧ OwRegister s3 t3 (.agg #[ue, .int .i64 m.reg.trim]) m.reg W) ∧ OwWriterS s4 t4 uw m.writers W) ∧ OwMendS s5 t5 un m.mends W) ∧ OwReaderS s6 t6 ur m.readers W) ∧ OwSentS s7 t7 ut m.sent W) s0 t7 W → Sits (OwWorld w.heap.size W.heap.size (.agg #[ud, .int .i64 m.cfg.2, us, ul, ue, .int .i64 m.reg.trim, uw, un, ur, ut, .bool m.torn]) m) w.heap.size W.heap.size W) := fun W ud us ul ue uw un ur ut s0 t0 s1 t1 s2 t2 s3 t3 s4 t4 s5 t5 s6 t6 s7 t7 k0 a0 c0 a1 c1 a2 c2 a3 c3 a4 c4 a5 c5 a6 c6 a7 k9 hh => by
  obtain ⟨⟨⟨⟨⟨⟨⟨h0, h1⟩, h2⟩, h3⟩, h4⟩, h5⟩, h6⟩, h7⟩ := hh.now
  obtain ⟨_, q0, o0⟩ := h0
  obtain ⟨_, q3, o3⟩ := h3
  cases q0
  cases q3
  refine OwWorld.sits ⟨ud, us, ul, ue, uw, un, ur, ut, (fun i => match i with | 0 => s0 | 1 => s1 | 2 => s2 | 3 => s3 | 4 => s4 | 5 => s5 | 6 => s6 | 7 => s7 | _ => 0), (fun i => match i with | 0 => t0 | 1 => t1 | 2 => t2 | 3 => t3 | 4 => t4 | 5 => t5 | 6 => t6 | 7 => t7 | _ => 0), rfl, Spd.chain k0 (fun i hi => ?_) (fun i hi => ?_) k9, o0, h1, h2, o3, h4, h5, h6, h7⟩ (Nat.le_refl _)
  ·match i, hi with
   | 0, _ => exact a0
   | 1, _ => exact a1
   | 2, _ => exact a2
   | 3, _ => exact a3
   | 4, _ => exact a4
   | 5, _ => exact a5
   | 6, _ => exact a6
   | 7, _ => exact a7
   | n + 8, h => omega
  ·match i, hi with
   | 0, _ => exact c0
   | 1, _ => exact c1
   | 2, _ => exact c2
   | 3, _ => exact c3
   | 4, _ => exact c4
   | 5, _ => exact c5
   | 6, _ => exact c6
   | n + 7, h => omega
 clear hl hS h1 h3 h4 h5 h6 h7
 have hlen : Hid (True) := trivial

 have X0 := (Bx.new w [.slice da m.cfg.1.length dc, .int .i64 m.cfg.2, .slice sa m.stores.length sc, .slice la m.lost.length lc, .slice ea m.reg.eras.length ec, .int .i64 m.reg.trim, .slice wa m.writers.length wc, .slice na m.mends.length nc, .slice ra m.readers.length rc, .slice ta m.sent.length tc, .bool m.torn] 34).below (bT (ba _ (.cells #[.slice none 0 0, .int .i64 0, .slice none 0 0, .slice none 0 0, .slice none 0 0, .int .i64 0, .slice none 0 0, .slice none 0 0, .slice none 0 0, .slice none 0 0, .bool false] 47)) (ba _ (.cells #[.slice none 0 0, .int .i64 0, .slice none 0 0, .slice none 0 0, .slice none 0 0, .int .i64 0, .slice none 0 0, .slice none 0 0, .slice none 0 0, .slice none 0 0, .bool false] 47)))
 have Y0 := (BxZ.new (B := w.heap.size) (w.alloc (.cells #[.slice da m.cfg.1.length dc, .int .i64 m.cfg.2, .slice sa m.stores.length sc, .slice la m.lost.length lc, .slice ea m.reg.eras.length ec, .int .i64 m.reg.trim, .slice wa m.writers.length wc, .slice na m.mends.length nc, .slice ra m.readers.length rc, .slice ta m.sent.length tc, .bool m.torn] 34)) [.slice none 0 0, .int .i64 0, .slice none 0 0, .slice none 0 0, .slice none 0 0, .int .i64 0, .slice none 0 0, .slice none 0 0, .slice none 0 0, .slice none 0 0, .bool false] 47 (by simp)).below (ba _ (.cells #[.slice none 0 0, .int .i64 0, .slice none 0 0, .slice none 0 0, .slice none 0 0, .int .i64 0, .slice none 0 0, .slice none 0 0, .slice none 0 0, .slice none 0 0, .bool false] 47))
 have Z0 := BxZ.new (B := w.heap.size) ((w.alloc (.cells #[.slice da m.cfg.1.length dc, .int .i64 m.cfg.2, .slice sa m.stores.length sc, .slice la m.lost.length lc, .slice ea m.reg.eras.length ec, .int .i64 m.reg.trim, .slice wa m.writers.length wc, .slice na m.mends.length nc, .slice ra m.readers.length rc, .slice ta m.sent.length tc, .bool m.torn] 34)).alloc (.cells #[.slice none 0 0, .int .i64 0, .slice none 0 0, .slice none 0 0, .slice none 0 0, .int .i64 0, .slice none 0 0, .slice none 0 0, .slice none 0 0, .slice none 0 0, .bool false] 47)) [.slice none 0 0, .int .i64 0, .slice none 0 0, .slice none 0 0, .slice none 0 0, .int .i64 0, .slice none 0 0, .slice none 0 0, .slice none 0 0, .slice none 0 0, .bool false] 47 (by simp <;> omega)
 have B0 := bT (bT (ba w (.cells #[.slice da m.cfg.1.length dc, .int .i64 m.cfg.2, .slice sa m.stores.length sc, .slice la m.lost.length lc, .slice ea m.reg.eras.length ec, .int .i64 m.reg.trim, .slice wa m.writers.length wc, .slice na m.mends.length nc, .slice ra m.readers.length rc, .slice ta m.sent.length tc, .bool m.torn] 34)) (ba _ (.cells #[.slice none 0 0, .int .i64 0, .slice none 0 0, .slice none 0 0, .slice none 0 0, .int .i64 0, .slice none 0 0, .slice none 0 0, .slice none 0 0, .slice none 0 0, .bool false] 47))) (ba _ (.cells #[.slice none 0 0, .int .i64 0, .slice none 0 0, .slice none 0 0, .slice none 0 0, .int .i64 0, .slice none 0 0, .slice none 0 0, .slice none 0 0, .slice none 0 0, .bool false] 47))
 have e1 : (w.alloc (.cells #[.slice da m.cfg.1.length dc, .int .i64 m.cfg.2, .slice sa m.stores.length sc, .slice la m.lost.length lc, .slice ea m.reg.eras.length ec, .int .i64 m.reg.trim, .slice wa m.writers.length wc, .slice na m.mends.length nc, .slice ra m.readers.length rc, .slice ta m.sent.length tc, .bool m.torn] 34)).heap.size = w.heap.size + 1 := by simp
 have e2 : ((w.alloc (.cells #[.slice da m.cfg.1.length dc, .int .i64 m.cfg.2, .slice sa m.stores.length sc, .slice la m.lost.length lc, .slice ea m.reg.eras.length ec, .int .i64 m.reg.trim, .slice wa m.writers.length wc, .slice na m.mends.length nc, .slice ra m.readers.length rc, .slice ta m.sent.length tc, .bool m.torn] 34)).alloc (.cells #[.slice none 0 0, .int .i64 0, .slice none 0 0, .slice none 0 0, .slice none 0 0, .int .i64 0, .slice none 0 0, .slice none 0 0, .slice none 0 0, .slice none 0 0, .bool false] 47)).heap.size = w.heap.size + 1 + 1 := by simp
 rw [e1] at Y0
 rw [e2] at Z0
 clear e1 e2
 go_enter Tryz.func8, Tryz.ntmps8
 go_wp2_with fail
 generalize (((w.alloc (.cells #[.slice da m.cfg.1.length dc, .int .i64 m.cfg.2, .slice sa m.stores.length sc, .slice la m.lost.length lc, .slice ea m.reg.eras.length ec, .int .i64 m.reg.trim, .slice wa m.writers.length wc, .slice na m.mends.length nc, .slice ra m.readers.length rc, .slice ta m.sent.length tc, .bool m.torn] 34)).alloc (.cells #[.slice none 0 0, .int .i64 0, .slice none 0 0, .slice none 0 0, .slice none 0 0, .int .i64 0, .slice none 0 0, .slice none 0 0, .slice none 0 0, .slice none 0 0, .bool false] 47)).alloc (.cells #[.slice none 0 0, .int .i64 0, .slice none 0 0, .slice none 0 0, .slice none 0 0, .int .i64 0, .slice none 0 0, .slice none 0 0, .slice none 0 0, .slice none 0 0, .bool false] 47)) = w0 at *
 have hlt := Z0.lt
 refine (dU C0 _ B0).mono ?_
 rintro r w1 ⟨u0, rfl, S0, b1⟩
 have o0 := S0.now
 obtain ⟨a0, c0, rfl, -⟩ := formConfig o0.rd
 clear o0
 have z0 := b1.size
 have B0' := bT B0 b1
 have X0' := X0.below b1
 have Y0' := Y0.below b1
 have Z0' := Z0.below b1
 obtain ⟨e0, i0⟩ := Z0'.2 0 _ rfl
 obtain ⟨e1, i1⟩ := Z0'.2 1 _ rfl
 have X1 := ((X0'.farB (b' := w.heap.size + 1 + 1) (o := 0) (by omega) (.slice a0 m.cfg.1.length c0)).farB (b' := w.heap.size + 1 + 1) (o := 1) (by omega) (.int .i64 m.cfg.2))
 have Y1 := ((Y0'.far (b' := w.heap.size + 1 + 1) (o := 0) (by omega) (.slice a0 m.cfg.1.length c0)).far (b' := w.heap.size + 1 + 1) (o := 1) (by omega) (.int .i64 m.cfg.2))
 have Z1 := ((Z0'.put 0 (.slice a0 m.cfg.1.length c0)).put 1 (.int .i64 m.cfg.2))
 have B1 := ((B0'.setCell (p := ⟨w.heap.size + 1 + 1, 0, none⟩) (by simp only; omega) (.slice a0 m.cfg.1.length c0)).setCell (p := ⟨w.heap.size + 1 + 1, 1, none⟩) (by simp only; omega) (.int .i64 m.cfg.2))
 have P0 := dH ((S0.put (b := w.heap.size + 1 + 1) (o := 0) (.inl (by omega)) (.slice a0 m.cfg.1.length c0)).put (b := w.heap.size + 1 + 1) (o := 1) (.inl (by omega)) (.int .i64 m.cfg.2))
 have zz0 : w1.heap.size ≤ ((w1.setCell ⟨w.heap.size + 1 + 1, 0, none⟩ (.slice a0 m.cfg.1.length c0)).setCell ⟨w.heap.size + 1 + 1, 1, none⟩ (.int .i64 m.cfg.2)).heap.size := by simp
 have k2 := X0' 2 _ rfl
 clear B0 X0 Y0 Z0 C0 b1 B0' X0' Y0' Z0' S0
 simp only [List.set_cons_zero, List.set_cons_succ] at Z1
 have n2 := X1 2 _ rfl
 have XH := dH X1
 have YH := dH Y1
 have ZH := dH Z1
 have BH := dH B1
 clear X1 Y1 Z1 B1
 go_wp2_with fail
 generalize ((w1.setCell ⟨w.heap.size + 1 + 1, 0, none⟩ (.slice a0 m.cfg.1.length c0)).setCell ⟨w.heap.size + 1 + 1, 1, none⟩ (.int .i64 m.cfg.2)) = w1b at *
 have X1 := dU XH
 have Y1 := dU YH
 have Z1 := dU ZH
 have B1 := dU BH
 clear XH YH ZH BH e0 i0 e1 i1 k2
 have k2 := n2
 clear n2
 refine (dU C1 _ B1).mono ?_
 rintro r w2 ⟨u1, rfl, S1, b2⟩
 have o1 := S1.now
 obtain ⟨a1, c1, rfl, -⟩ := formStoreS o1.rd
 clear o1
 have z1 := b2.size
 have B1' := bT B1 b2
 have X1' := X1.below b2
 have Y1' := Y1.below b2
 have Z1' := Z1.below b2
 have P1' := (dU P0).below b2
 obtain ⟨e2, i2⟩ := Z1'.2 2 _ rfl
 have X2 := (X1'.farB (b' := w.heap.size + 1 + 1) (o := 2) (by omega) (.slice a1 m.stores.length c1))
 have Y2 := (Y1'.far (b' := w.heap.size + 1 + 1) (o := 2) (by omega) (.slice a1 m.stores.length c1))
 have Z2 := (Z1'.put 2 (.slice a1 m.stores.length c1))
 have B2 := (B1'.setCell (p := ⟨w.heap.size + 1 + 1, 2, none⟩) (by simp only; omega) (.slice a1 m.stores.length c1))
 have P1 := dH ((P1'.snoc S1 (by omega) (by omega)).put (b := w.heap.size + 1 + 1) (o := 2) (.inl (by omega)) (.slice a1 m.stores.length c1))
 have zz1 : w2.heap.size ≤ (w2.setCell ⟨w.heap.size + 1 + 1, 2, none⟩ (.slice a1 m.stores.length c1)).heap.size := by simp
 have k3 := X1' 3 _ rfl
 clear B1 X1 Y1 Z1 C1 b2 B1' X1' Y1' Z1' S1 P0 P1' k2
 simp only [List.set_cons_zero, List.set_cons_succ] at Z2
 have n3 := X2 3 _ rfl
 have XH := dH X2
 have YH := dH Y2
 have ZH := dH Z2
 have BH := dH B2
 clear X2 Y2 Z2 B2
 go_wp2_with fail
 generalize (w2.setCell ⟨w.heap.size + 1 + 1, 2, none⟩ (.slice a1 m.stores.length c1)) = w2b at *
 have X2 := dU XH
 have Y2 := dU YH
 have Z2 := dU ZH
 have B2 := dU BH
 clear XH YH ZH BH e2 i2 k3
 have k3 := n3
 clear n3
 refine (dU C2 _ B2).mono ?_
 rintro r w3 ⟨u2, rfl, S2, b3⟩
 have o2 := S2.now
 obtain ⟨-, a2, c2, rfl, -, -⟩ := o2.rd
 clear o2
 have z2 := b3.size
 have B2' := bT B2 b3
 have X2' := X2.below b3
 have Y2' := Y2.below b3
 have Z2' := Z2.below b3
 have P2' := (dU P1).below b3
 obtain ⟨e3, i3⟩ := Z2'.2 3 _ rfl
 have X3 := (X2'.farB (b' := w.heap.size + 1 + 1) (o := 3) (by omega) (.slice a2 m.lost.length c2))
 have Y3 := (Y2'.far (b' := w.heap.size + 1 + 1) (o := 3) (by omega) (.slice a2 m.lost.length c2))
 have Z3 := (Z2'.put 3 (.slice a2 m.lost.length c2))
 have B3 := (B2'.setCell (p := ⟨w.heap.size + 1 + 1, 3, none⟩) (by simp only; omega) (.slice a2 m.lost.length c2))
 have P2 := dH ((P2'.snoc S2 (by omega) (by omega)).put (b := w.heap.size + 1 + 1) (o := 3) (.inl (by omega)) (.slice a2 m.lost.length c2))
 have zz2 : w3.heap.size ≤ (w3.setCell ⟨w.heap.size + 1 + 1, 3, none⟩ (.slice a2 m.lost.length c2)).heap.size := by simp
 have k4 := X2' 4 _ rfl
 have k5 := X2' 5 _ rfl
 clear B2 X2 Y2 Z2 C2 b3 B2' X2' Y2' Z2' S2 P1 P2' k3
 simp only [List.set_cons_zero, List.set_cons_succ] at Z3
 have n4 := X3 4 _ rfl
 have n5 := X3 5 _ rfl
 have XH := dH X3
 have YH := dH Y3
 have ZH := dH Z3
 have BH := dH B3
 clear X3 Y3 Z3 B3
 go_wp2_with fail
 generalize (w3.setCell ⟨w.heap.size + 1 + 1, 3, none⟩ (.slice a2 m.lost.length c2)) = w3b at *
 have X3 := dU XH
 have Y3 := dU YH
 have Z3 := dU ZH
 have B3 := dU BH
 clear XH YH ZH BH e3 i3 k4 k5
 have k4 := n4
 clear n4
 have k5 := n5
 clear n5
 refine (dU C3 _ B3).mono ?_
 rintro r w4 ⟨u3, rfl, S3, b4⟩
 have o3 := S3.now
 obtain ⟨a3, c3, rfl, -⟩ := formRegister o3.rd
 clear o3
 have z3 := b4.size
 have B3' := bT B3 b4
 have X3' := X3.below b4
 have Y3' := Y3.below b4
 have Z3' := Z3.below b4
 have P3' := (dU P2).below b4
 obtain ⟨e4, i4⟩ := Z3'.2 4 _ rfl
 obtain ⟨e5, i5⟩ := Z3'.2 5 _ rfl
 have X4 := ((X3'.farB (b' := w.heap.size + 1 + 1) (o := 4) (by omega) (.slice a3 m.reg.eras.length c3)).farB (b' := w.heap.size + 1 + 1) (o := 5) (by omega) (.int .i64 m.reg.trim))
 have Y4 := ((Y3'.far (b' := w.heap.size + 1 + 1) (o := 4) (by omega) (.slice a3 m.reg.eras.length c3)).far (b' := w.heap.size + 1 + 1) (o := 5) (by omega) (.int .i64 m.reg.trim))
 have Z4 := ((Z3'.put 4 (.slice a3 m.reg.eras.length c3)).put 5 (.int .i64 m.reg.trim))
 have B4 := ((B3'.setCell (p := ⟨w.heap.size + 1 + 1, 4, none⟩) (by simp only; omega) (.slice a3 m.reg.eras.length c3)).setCell (p := ⟨w.heap.size + 1 + 1, 5, none⟩) (by simp only; omega) (.int .i64 m.reg.trim))
 have P3 := dH (((P3'.snoc S3 (by omega) (by omega)).put (b := w.heap.size + 1 + 1) (o := 4) (.inl (by omega)) (.slice a3 m.reg.eras.length c3)).put (b := w.heap.size + 1 + 1) (o := 5) (.inl (by omega)) (.int .i64 m.reg.trim))
 have zz3 : w4.heap.size ≤ ((w4.setCell ⟨w.heap.size + 1 + 1, 4, none⟩ (.slice a3 m.reg.eras.length c3)).setCell ⟨w.heap.size + 1 + 1, 5, none⟩ (.int .i64 m.reg.trim)).heap.size := by simp
 have k6 := X3' 6 _ rfl
 clear B3 X3 Y3 Z3 C3 b4 B3' X3' Y3' Z3' S3 P2 P3' k4 k5
 simp only [List.set_cons_zero, List.set_cons_succ] at Z4
 have n6 := X4 6 _ rfl
 have XH := dH X4
 have YH := dH Y4
 have ZH := dH Z4
 have BH := dH B4
 clear X4 Y4 Z4 B4
 go_wp2_with fail
 generalize ((w4.setCell ⟨w.heap.size + 1 + 1, 4, none⟩ (.slice a3 m.reg.eras.length c3)).setCell ⟨w.heap.size + 1 + 1, 5, none⟩ (.int .i64 m.reg.trim)) = w4b at *
 have X4 := dU XH
 have Y4 := dU YH
 have Z4 := dU ZH
 have B4 := dU BH
 clear XH YH ZH BH e4 i4 e5 i5 k6
 have k6 := n6
 clear n6
 refine (dU C4 _ B4).mono ?_
 rintro r w5 ⟨u4, rfl, S4, b5⟩
 have o4 := S4.now
 obtain ⟨a4, c4, rfl, -⟩ := formD o4.rd
 clear o4
 have z4 := b5.size
 have B4' := bT B4 b5
 have X4' := X4.below b5
 have Y4' := Y4.below b5
 have Z4' := Z4.below b5
 have P4' := (dU P3).below b5
 obtain ⟨e6, i6⟩ := Z4'.2 6 _ rfl
 have X5 := (X4'.farB (b' := w.heap.size + 1 + 1) (o := 6) (by omega) (.slice a4 m.writers.length c4))
 have Y5 := (Y4'.far (b' := w.heap.size + 1 + 1) (o := 6) (by omega) (.slice a4 m.writers.length c4))
 have Z5 := (Z4'.put 6 (.slice a4 m.writers.length c4))
 have B5 := (B4'.setCell (p := ⟨w.heap.size + 1 + 1, 6, none⟩) (by simp only; omega) (.slice a4 m.writers.length c4))
 have P4 := dH ((P4'.snoc S4 (by omega) (by omega)).put (b := w.heap.size + 1 + 1) (o := 6) (.inl (by omega)) (.slice a4 m.writers.length c4))
 have zz4 : w5.heap.size ≤ (w5.setCell ⟨w.heap.size + 1 + 1, 6, none⟩ (.slice a4 m.writers.length c4)).heap.size := by simp
 have k7 := X4' 7 _ rfl
 clear B4 X4 Y4 Z4 C4 b5 B4' X4' Y4' Z4' S4 P3 P4' k6
 simp only [List.set_cons_zero, List.set_cons_succ] at Z5
 have n7 := X5 7 _ rfl
 have XH := dH X5
 have YH := dH Y5
 have ZH := dH Z5
 have BH := dH B5
 clear X5 Y5 Z5 B5
 go_wp2_with fail
 generalize (w5.setCell ⟨w.heap.size + 1 + 1, 6, none⟩ (.slice a4 m.writers.length c4)) = w5b at *
 have X5 := dU XH
 have Y5 := dU YH
 have Z5 := dU ZH
 have B5 := dU BH
 clear XH YH ZH BH e6 i6 k7
 have k7 := n7
 clear n7
 refine (dU C5 _ B5).mono ?_
 rintro r w6 ⟨u5, rfl, S5, b6⟩
 have o5 := S5.now
 obtain ⟨a5, c5, rfl, -⟩ := formD o5.rd
 clear o5
 have z5 := b6.size
 have B5' := bT B5 b6
 have X5' := X5.below b6
 have Y5' := Y5.below b6
 have Z5' := Z5.below b6
 have P5' := (dU P4).below b6
 obtain ⟨e7, i7⟩ := Z5'.2 7 _ rfl
 have X6 := (X5'.farB (b' := w.heap.size + 1 + 1) (o := 7) (by omega) (.slice a5 m.mends.length c5))
 have Y6 := (Y5'.far (b' := w.heap.size + 1 + 1) (o := 7) (by omega) (.slice a5 m.mends.length c5))
 have Z6 := (Z5'.put 7 (.slice a5 m.mends.length c5))
 have B6 := (B5'.setCell (p := ⟨w.heap.size + 1 + 1, 7, none⟩) (by simp only; omega) (.slice a5 m.mends.length c5))
 have P5 := dH ((P5'.snoc S5 (by omega) (by omega)).put (b := w.heap.size + 1 + 1) (o := 7) (.inl (by omega)) (.slice a5 m.mends.length c5))
 have zz5 : w6.heap.size ≤ (w6.setCell ⟨w.heap.size + 1 + 1, 7, none⟩ (.slice a5 m.mends.length c5)).heap.size := by simp
 have k8 := X5' 8 _ rfl
 clear B5 X5 Y5 Z5 C5 b6 B5' X5' Y5' Z5' S5 P4 P5' k7
 simp only [List.set_cons_zero, List.set_cons_succ] at Z6
 have n8 := X6 8 _ rfl
 have XH := dH X6
 have YH := dH Y6
 have ZH := dH Z6
 have BH := dH B6
 clear X6 Y6 Z6 B6
 go_wp2_with fail
 generalize (w6.setCell ⟨w.heap.size + 1 + 1, 7, none⟩ (.slice a5 m.mends.length c5)) = w6b at *
 have X6 := dU XH
 have Y6 := dU YH
 have Z6 := dU ZH
 have B6 := dU BH
 clear XH YH ZH BH e7 i7 k8
 have k8 := n8
 clear n8
 refine (dU C6 _ B6).mono ?_
 rintro r w7 ⟨u6, rfl, S6, b7⟩
 have o6 := S6.now
 obtain ⟨a6, c6, rfl, -⟩ := formD o6.rd
 clear o6
 have z6 := b7.size
 have B6' := bT B6 b7
 have X6' := X6.below b7
 have Y6' := Y6.below b7
 have Z6' := Z6.below b7
 have P6' := (dU P5).below b7
 obtain ⟨e8, i8⟩ := Z6'.2 8 _ rfl
 have X7 := (X6'.farB (b' := w.heap.size + 1 + 1) (o := 8) (by omega) (.slice a6 m.readers.length c6))
 have Y7 := (Y6'.far (b' := w.heap.size + 1 + 1) (o := 8) (by omega) (.slice a6 m.readers.length c6))
 have Z7 := (Z6'.put 8 (.slice a6 m.readers.length c6))
 have B7 := (B6'.setCell (p := ⟨w.heap.size + 1 + 1, 8, none⟩) (by simp only; omega) (.slice a6 m.readers.length c6))
 have P6 := dH ((P6'.snoc S6 (by omega) (by omega)).put (b := w.heap.size + 1 + 1) (o := 8) (.inl (by omega)) (.slice a6 m.readers.length c6))
 have zz6 : w7.heap.size ≤ (w7.setCell ⟨w.heap.size + 1 + 1, 8, none⟩ (.slice a6 m.readers.length c6)).heap.size := by simp
 have k9 := X6' 9 _ rfl
 clear B6 X6 Y6 Z6 C6 b7 B6' X6' Y6' Z6' S6 P5 P6' k8
 simp only [List.set_cons_zero, List.set_cons_succ] at Z7
 have n9 := X7 9 _ rfl
 have XH := dH X7
 have YH := dH Y7
 have ZH := dH Z7
 have BH := dH B7
 clear X7 Y7 Z7 B7
 go_wp2_with fail
 generalize (w7.setCell ⟨w.heap.size + 1 + 1, 8, none⟩ (.slice a6 m.readers.length c6)) = w7b at *
 have X7 := dU XH
 have Y7 := dU YH
 have Z7 := dU ZH
 have B7 := dU BH
 clear XH YH ZH BH e8 i8 k9
 have k9 := n9
 clear n9
 refine (dU C7 _ B7).mono ?_
 rintro r w8 ⟨u7, rfl, S7, b8⟩
 have o7 := S7.now
 obtain ⟨a7, c7, rfl, -⟩ := formSentS o7.rd
 clear o7
 have z7 := b8.size
 have B7' := bT B7 b8
 have X7' := X7.below b8
 have Y7' := Y7.below b8
 have Z7' := Z7.below b8
 have P7' := (dU P6).below b8
 obtain ⟨e9, i9⟩ := Z7'.2 9 _ rfl
 have k10 := X7' 10 _ rfl
 have k10b := ((X7'.farB (b' := w.heap.size + 1 + 1) (o := 9) (by omega) (.slice a7 m.sent.length c7))) 10 _ rfl
 obtain ⟨e0, i0⟩ := Z7'.2 0 _ rfl
 obtain ⟨e1, i1⟩ := Z7'.2 1 _ rfl
 obtain ⟨e2, i2⟩ := Z7'.2 2 _ rfl
 obtain ⟨e3, i3⟩ := Z7'.2 3 _ rfl
 obtain ⟨e4, i4⟩ := Z7'.2 4 _ rfl
 obtain ⟨e5, i5⟩ := Z7'.2 5 _ rfl
 obtain ⟨e6, i6⟩ := Z7'.2 6 _ rfl
 obtain ⟨e7, i7⟩ := Z7'.2 7 _ rfl
 obtain ⟨e8, i8⟩ := Z7'.2 8 _ rfl
 obtain ⟨e10, i10⟩ := Z7'.2 10 _ rfl
 obtain ⟨y0, p0⟩ := Y7'.2 0 _ rfl
 obtain ⟨y1, p1⟩ := Y7'.2 1 _ rfl
 obtain ⟨y2, p2⟩ := Y7'.2 2 _ rfl
 obtain ⟨y3, p3⟩ := Y7'.2 3 _ rfl
 obtain ⟨y4, p4⟩ := Y7'.2 4 _ rfl
 obtain ⟨y5, p5⟩ := Y7'.2 5 _ rfl
 obtain ⟨y6, p6⟩ := Y7'.2 6 _ rfl
 obtain ⟨y7, p7⟩ := Y7'.2 7 _ rfl
 obtain ⟨y8, p8⟩ := Y7'.2 8 _ rfl
 obtain ⟨y9, p9⟩ := Y7'.2 9 _ rfl
 obtain ⟨y10, p10⟩ := Y7'.2 10 _ rfl
 have YY := dH (((((((((((((Y7'.far (b' := w.heap.size + 1 + 1) (o := 9) (by omega) (.slice a7 m.sent.length c7)).far (b' := w.heap.size + 1 + 1) (o := 10) (by omega) (.bool m.torn)).put 0 (.slice a0 m.cfg.1.length c0)).put 1 (.int .i64 m.cfg.2)).put 2 (.slice a1 m.stores.length c1)).put 3 (.slice a2 m.lost.length c2)).put 4 (.slice a3 m.reg.eras.length c3)).put 5 (.int .i64 m.reg.trim)).put 6 (.slice a4 m.writers.length c4)).put 7 (.slice a5 m.mends.length c5)).put 8 (.slice a6 m.readers.length c6)).put 9 (.slice a7 m.sent.length c7)).put 10 (.bool m.torn))
 have BB := dH (((((((((((((B7'.setCell (p := ⟨w.heap.size + 1 + 1, 9, none⟩) (by simp only; omega) (.slice a7 m.sent.length c7)).setCell (p := ⟨w.heap.size + 1 + 1, 10, none⟩) (by simp only; omega) (.bool m.torn)).setCell (p := ⟨w.heap.size + 1, 0, none⟩) (by simp only; omega) (.slice a0 m.cfg.1.length c0)).setCell (p := ⟨w.heap.size + 1, 1, none⟩) (by simp only; omega) (.int .i64 m.cfg.2)).setCell (p := ⟨w.heap.size + 1, 2, none⟩) (by simp only; omega) (.slice a1 m.stores.length c1)).setCell (p := ⟨w.heap.size + 1, 3, none⟩) (by simp only; omega) (.slice a2 m.lost.length c2)).setCell (p := ⟨w.heap.size + 1, 4, none⟩) (by simp only; omega) (.slice a3 m.reg.eras.length c3)).setCell (p := ⟨w.heap.size + 1, 5, none⟩) (by simp only; omega) (.int .i64 m.reg.trim)).setCell (p := ⟨w.heap.size + 1, 6, none⟩) (by simp only; omega) (.slice a4 m.writers.length c4)).setCell (p := ⟨w.heap.size + 1, 7, none⟩) (by simp only; omega) (.slice a5 m.mends.length c5)).setCell (p := ⟨w.heap.size + 1, 8, none⟩) (by simp only; omega) (.slice a6 m.readers.length c6)).setCell (p := ⟨w.heap.size + 1, 9, none⟩) (by simp only; omega) (.slice a7 m.sent.length c7)).setCell (p := ⟨w.heap.size + 1, 10, none⟩) (by simp only; omega) (.bool m.torn))
 have PP := dH ((((((((((((((P7'.snoc S7 (by omega) (by omega)).put (b := w.heap.size + 1 + 1) (o := 9) (.inl (by omega)) (.slice a7 m.sent.length c7)).put (b := w.heap.size + 1 + 1) (o := 10) (.inl (by omega)) (.bool m.torn)).put (b := w.heap.size + 1) (o := 0) (.inl (by omega)) (.slice a0 m.cfg.1.length c0)).put (b := w.heap.size + 1) (o := 1) (.inl (by omega)) (.int .i64 m.cfg.2)).put (b := w.heap.size + 1) (o := 2) (.inl (by omega)) (.slice a1 m.stores.length c1)).put (b := w.heap.size + 1) (o := 3) (.inl (by omega)) (.slice a2 m.lost.length c2)).put (b := w.heap.size + 1) (o := 4) (.inl (by omega)) (.slice a3 m.reg.eras.length c3)).put (b := w.heap.size + 1) (o := 5) (.inl (by omega)) (.int .i64 m.reg.trim)).put (b := w.heap.size + 1) (o := 6) (.inl (by omega)) (.slice a4 m.writers.length c4)).put (b := w.heap.size + 1) (o := 7) (.inl (by omega)) (.slice a5 m.mends.length c5)).put (b := w.heap.size + 1) (o := 8) (.inl (by omega)) (.slice a6 m.readers.length c6)).put (b := w.heap.size + 1) (o := 9) (.inl (by omega)) (.slice a7 m.sent.length c7)).put (b := w.heap.size + 1) (o := 10) (.inl (by omega)) (.bool m.torn))
 have hV : w8.heap.size = (((((((((((((w8.setCell ⟨w.heap.size + 1 + 1, 9, none⟩ (.slice a7 m.sent.length c7)).setCell ⟨w.heap.size + 1 + 1, 10, none⟩ (.bool m.torn)).setCell ⟨w.heap.size + 1, 0, none⟩ (.slice a0 m.cfg.1.length c0)).setCell ⟨w.heap.size + 1, 1, none⟩ (.int .i64 m.cfg.2)).setCell ⟨w.heap.size + 1, 2, none⟩ (.slice a1 m.stores.length c1)).setCell ⟨w.heap.size + 1, 3, none⟩ (.slice a2 m.lost.length c2)).setCell ⟨w.heap.size + 1, 4, none⟩ (.slice a3 m.reg.eras.length c3)).setCell ⟨w.heap.size + 1, 5, none⟩ (.int .i64 m.reg.trim)).setCell ⟨w.heap.size + 1, 6, none⟩ (.slice a4 m.writers.length c4)).setCell ⟨w.heap.size + 1, 7, none⟩ (.slice a5 m.mends.length c5)).setCell ⟨w.heap.size + 1, 8, none⟩ (.slice a6 m.readers.length c6)).setCell ⟨w.heap.size + 1, 9, none⟩ (.slice a7 m.sent.length c7)).setCell ⟨w.heap.size + 1, 10, none⟩ (.bool m.torn)).heap.size := by simp
 clear B7 X7 Y7 Z7 C7 b8 B7' X7' Y7' Z7' S7 P6 P7' k9
 go_wp2_with fail
 generalize (((((((((((((w8.setCell ⟨w.heap.size + 1 + 1, 9, none⟩ (.slice a7 m.sent.length c7)).setCell ⟨w.heap.size + 1 + 1, 10, none⟩ (.bool m.torn)).setCell ⟨w.heap.size + 1, 0, none⟩ (.slice a0 m.cfg.1.length c0)).setCell ⟨w.heap.size + 1, 1, none⟩ (.int .i64 m.cfg.2)).setCell ⟨w.heap.size + 1, 2, none⟩ (.slice a1 m.stores.length c1)).setCell ⟨w.heap.size + 1, 3, none⟩ (.slice a2 m.lost.length c2)).setCell ⟨w.heap.size + 1, 4, none⟩ (.slice a3 m.reg.eras.length c3)).setCell ⟨w.heap.size + 1, 5, none⟩ (.int .i64 m.reg.trim)).setCell ⟨w.heap.size + 1, 6, none⟩ (.slice a4 m.writers.length c4)).setCell ⟨w.heap.size + 1, 7, none⟩ (.slice a5 m.mends.length c5)).setCell ⟨w.heap.size + 1, 8, none⟩ (.slice a6 m.readers.length c6)).setCell ⟨w.heap.size + 1, 9, none⟩ (.slice a7 m.sent.length c7)).setCell ⟨w.heap.size + 1, 10, none⟩ (.bool m.torn)) = V at *
 have q0 := ((dU YY).2 0 _ rfl).1
 have q1 := ((dU YY).2 1 _ rfl).1
 have q2 := ((dU YY).2 2 _ rfl).1
 have q3 := ((dU YY).2 3 _ rfl).1
 have q4 := ((dU YY).2 4 _ rfl).1
 have q5 := ((dU YY).2 5 _ rfl).1
 have q6 := ((dU YY).2 6 _ rfl).1
 have q7 := ((dU YY).2 7 _ rfl).1
 have q8 := ((dU YY).2 8 _ rfl).1
 have q9 := ((dU YY).2 9 _ rfl).1
 have q10 := ((dU YY).2 10 _ rfl).1
 clear e0 i0 y0 p0 e1 i1 y1 p1 e2 i2 y2 p2 e3 i3 y3 p3 e4 i4 y4 p4 e5 i5 y5 p5 e6 i6 y6 p6 e7 i7 y7 p7 e8 i8 y8 p8 e9 i9 y9 p9 e10 i10 y10 p10 k10 k10b
 have ZZ : w8.heap.size ≤ V.heap.size := by omega
 refine bodyPost_ret (v := .agg #[.slice a0 m.cfg.1.length c0, .int .i64 m.cfg.2, .slice a1 m.stores.length c1, .slice a2 m.lost.length c2, .slice a3 m.reg.eras.length c3, .int .i64 m.reg.trim, .slice a4 m.writers.length c4, .slice a5 m.mends.length c5, .slice a6 m.readers.length c6, .slice a7 m.sent.length c7, .bool m.torn]) (by simp [results, Tryz.results8, go_sem, q0, q1, q2, q3, q4, q5, q6, q7, q8, q9, q10]) rfl ⟨_, rfl, dU EX V _ _ _ _ _ _ _ _ _ _ _ _ _ _ _ _ _ _ _ _ _ _ _ _ (by omega) (by omega) (by omega) (by omega) (by omega) (by omega) (by omega) (by omega) (by omega) (by omega) (by omega) (by omega) (by omega) (by omega) (by omega) (by omega) ZZ (dU PP), dU BB⟩
end Go.Proofs.YtkiclbbialadlaaGreat
