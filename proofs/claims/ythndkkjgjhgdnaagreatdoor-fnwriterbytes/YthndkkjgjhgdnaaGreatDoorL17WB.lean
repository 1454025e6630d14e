/- The walk of the law FnWriterBytes (printed by tools/mkl17gb.py). -/
import Derived.Test.YthndkkjgjhgdnaaGreatDoorWbA
import Derived.Test.YthndkkjgjhgdnaaGreatDoorWbQ
import Derived.Test.YthndkkjgjhgdnaaGreatDoorGk78
import Derived.Test.YthndkkjgjhgdnaaGreatDoorPkS
import Derived.Test.YthndkkjgjhgdnaaGreatDoorGk60
import Derived.Test.YthndkkjgjhgdnaaGreatDoorGk77
namespace Go.Proofs.YthndkkjgjhgdnaaGreatDoor
open Go.ChangeShapes Go.WideShapes Go.ChangeAt Go.RowKit
set_option linter.unusedVariables false
set_option linter.unusedSimpArgs false
set_option maxRecDepth 100000

set_option maxHeartbeats 8000000 in
theorem walkWriterBytes (a0 : Option Addr) (len0 cap0 : Nat) (w : World) (hr : Row8 w a0 len0) (hS : Hnd w) :
    Calls Tryz.prog 4 #[.slice a0 len0 cap0] w fun e w' => e = .returned (.bool true) ∧ Below w.heap.size w w' := by
  have hlen := hr.1
  by_cases hbig : 1048576 < len0
  · have CB := dHide (big_yes a0 len0 cap0 hbig hlen)
    go_enter Tryz.func4, Tryz.ntmps4
    go_wp2_with fail
    refine (dUnhide CB _).mono ?_
    rintro e w1 ⟨rfl, rfl⟩
    go_wp2
    go_ret
    exact ⟨rfl, Below.refl _ _⟩
  have CB := dHide (big_no a0 len0 cap0 hbig)
  have CD := dHide (drawWriterPack_any a0 len0 cap0 w hr)
  have CR := dHide fun W (hb : Below w.heap.size w W) => drawWriterRead_any a0 len0 cap0 W (hr.below hb)
  have HS := dHide fun W (hb : Below w.heap.size w W) => (hS.below hb (Nat.le_refl _) : Hnd W)
  have ba : ∀ (w : World) o, Below w.heap.size w (w.alloc o) := fun w o => (Below.refl _ _).alloc (Nat.le_refl _) o
  clear hbig hr hS
  go_enter Tryz.func4, Tryz.ntmps4
  go_wp2_with fail
  refine (dUnhide CB _).mono ?_
  rintro e w1 ⟨rfl, rfl⟩
  clear CB
  go_wp2_with fail
  refine (dUnhide CD).mono ?_
  rintro e w1 ⟨⟨cv, rv, rfl, ds, cop, m, ⟨ca, cc, rfl, NC⟩, hdl, hdd, hco, ⟨a, c, rfl⟩, O1, hf⟩, B1⟩
  clear CD
  have bA := ba w1 (.cells #[.slice ca ds.length cc, .int .i64 cop] 26)
  have bB := ba (w1.alloc (.cells #[.slice ca ds.length cc, .int .i64 cop] 26)) (.cells #[.int .i64 m.epoch, .slice a m.words.length c] 40)
  have bC := belowThen bA bB
  have K2 := (Bx.new w1 [.slice ca ds.length cc, .int .i64 cop] 26).below bB
  have X2 := Bx.new (w1.alloc (.cells #[.slice ca ds.length cc, .int .i64 cop] 26)) [.int .i64 m.epoch, .slice a m.words.length c] 40
  rw [show (w1.alloc (.cells #[.slice ca ds.length cc, .int .i64 cop] 26)).heap.size = w1.heap.size + 1 by simp] at X2
  have O2 := O1.below bC
  have NC2 := NC.below bC
  have B2 := belowThen B1 bC
  have okc : okConfig (ds, cop) := ⟨fun d hd => by have := hdd d hd; omega, by simp only; omega, by simp only; omega⟩
  have hsc : sizConfig (ds, cop) ≤ 1048576 := by unfold sizConfig; simp only; omega
  have hsm : sizWriter m ≤ 1048576 := by have := fitW_siz hf; omega
  have okm := hf.ok
  clear O1 B1 bA bB bC NC hdd
  have k0 := K2 0 _ rfl
  have k1 := K2 1 _ rfl
  have y0 := X2 0 _ rfl
  have y1 := X2 1 _ rfl
  go_wp2_with fail
  generalize hbx : w1.heap.size = bx at *
  generalize ((w1.alloc (.cells #[.slice ca ds.length cc, .int .i64 cop] 26)).alloc (.cells #[.int .i64 m.epoch, .slice a m.words.length c] 40)) = w2 at *
  clear hbx
  have C1 := dHide (implWriterPack_any _ _ (ds, cop) m w2 ⟨_, rfl, NC2⟩ O2 okc okm hsc hsm)
  have CS := dHide fun W (hb : Below w2.heap.size w2 W) => specWriterPack_any _ _ (ds, cop) m W ⟨_, rfl, NC2.below hb⟩ (O2.below hb) hsm
  have PT : Hid ((wtM ds cop m).2 = true → wrP ds cop m ∧ (wtM ds cop m).1 = wtB m) := fun h => wtM_true rfl h
  simp only at C1 CS
  generalize wtM ds cop m = M at *
  obtain ⟨PB, pb⟩ := M
  simp only at C1 CS PT
  refine (dUnhide C1).mono ?_
  rintro e w3 ⟨⟨u3, rfl, Q3⟩, b3⟩
  have K3 := K2.below b3
  have X3 := X2.below b3
  have O3 := O2.below b3
  have NC3 := NC2.below b3
  have B3 := belowThen B2 b3
  have CS3 := dHide (dUnhide CS _ b3)
  clear C1 CS X2 O2 B2 b3 y0 y1 k0 k1 K2 NC2
  have k0 := K3 0 _ rfl
  have k1 := K3 1 _ rfl
  have y0 := X3 0 _ rfl
  have y1 := X3 1 _ rfl
  have Q3' := Q3.own.bs
  clear Q3
  go_wp2_with fail
  refine (dUnhide CS3).mono ?_
  rintro e w4 ⟨⟨u4, rfl, -⟩, b4⟩
  have K4 := K3.below b4
  have X4 := X3.below b4
  have O4 := O3.below b4
  have NC4 := NC3.below b4
  have B4 := belowThen B3 b4
  have Q34 := dHide (Q3'.below b4)
  clear CS3 X3 O3 B3 y0 y1 k0 k1 K3 NC3 Q3' b4
  have k0 := K4 0 _ rfl
  have k1 := K4 1 _ rfl
  have y0 := X4 0 _ rfl
  have y1 := X4 1 _ rfl
  cases pb
  · have hbS := B4
    clear PT Q34 X4 O4 B4 y0 y1 k0 k1 K4 NC4 okc hsc hsm okm
    go_wp2_with fail
    refine (dUnhide CR _ hbS).mono ?_
    rintro e w7 ⟨⟨cv2, v8, rfl, gs, gop, bs, ⟨ga, gc, rfl, NG⟩, gl, gi, gco, q8, hl8⟩, b8⟩
    have bG := ba w7 (.cells #[.slice ga gs.length gc, .int .i64 gop] 26)
    have B8 := belowThen (belowThen hbS b8) bG
    have G8 := Bx.new w7 [.slice ga gs.length gc, .int .i64 gop] 26
    have NG8 := NG.below bG
    have q8' := q8.below bG
    have okg : okConfig (gs, gop) := ⟨fun d hd => by have := gi d hd; omega, by simp only; omega, by simp only; omega⟩
    have hsg : sizConfig (gs, gop) ≤ 1048576 := by unfold sizConfig; simp only; omega
    clear hbS b8 CR NG q8 bG gi
    have g0 := G8 0 _ rfl
    have g1 := G8 1 _ rfl
    go_wp2_with fail
    generalize hw7 : w7.heap.size = x7 at *
    generalize w7.alloc (.cells #[.slice ga gs.length gc, .int .i64 gop] 26) = w8 at *
    clear hw7
    have CI := dHide (implWriterRead_any _ v8 (gs, gop) bs w8 (dUnhide HS _ B8) ⟨_, rfl, NG8⟩ okg hsg q8' (by omega))
    have CT := dHide fun W (hb : Below w8.heap.size w8 W) => specWriterRead_any _ v8 (gs, gop) bs W ⟨_, rfl, NG8.below hb⟩ (q8'.below hb) (by omega)
    have PR : Hid ((wtR gs gop bs).2 = true → wrP gs gop (wtR gs gop bs).1 ∧ wtB (wtR gs gop bs).1 = bs) := fun h => wtR_inv (Prod.ext rfl h)
    have PF : Hid ((wtR gs gop bs).2 = false → wtR gs gop bs = (⟨0, []⟩, false)) := fun h => wtR_bad h
    have PO : Hid (okWriter (wtR gs gop bs).1 ∧ sizWriter (wtR gs gop bs).1 ≤ 1048576) := wtR_ok (gs, gop) bs (by omega)
    generalize wtR gs gop bs = RM at *
    obtain ⟨y, mb⟩ := RM
    clear HS
    simp only at CI CT PR PF PO
    refine (dUnhide CI).mono ?_
    rintro e w9 ⟨⟨a9, c9, rfl, O9⟩, b9⟩
    have bC := ba w9 (.cells #[.int .i64 y.epoch, .slice a9 y.words.length c9] 40)
    have b10 := belowThen b9 bC
    have N10 := Bx.new w9 [.int .i64 y.epoch, .slice a9 y.words.length c9] 40
    have O9' : RdWriter (.agg #[.int .i64 y.epoch, .slice a9 y.words.length c9]) y w9 := ⟨_, rfl, OwK.rd O9.ow⟩
    have O10 := O9'.below bC
    have q10 := q8'.below b10
    have NG10 := NG8.below b10
    have G10 := G8.below b10
    have B10 := belowThen B8 b10
    have CT10 := dHide (dUnhide CT _ b10)
    clear CI CT O9 O9' q8' B8 b9 b10 bC NG8 G8 g0 g1
    have g0 := G10 0 _ rfl
    have g1 := G10 1 _ rfl
    go_wp2_with fail
    generalize hb9 : w9.heap.size = x9 at *
    generalize w9.alloc (.cells #[.int .i64 y.epoch, .slice a9 y.words.length c9] 40) = w10 at *
    clear hb9
    refine (dUnhide CT10).mono ?_
    rintro e w11 ⟨⟨a11, c11, rfl, O11⟩, b11⟩
    have bD := ba w11 (.cells #[.int .i64 y.epoch, .slice a11 y.words.length c11] 40)
    have b12 := belowThen b11 bD
    have N12 := N10.below b12
    have O12 := O10.below b12
    have q12 := q10.below b12
    have NG12 := NG10.below b12
    have G12 := G10.below b12
    have B12 := belowThen B10 b12
    clear CT10 N10 O10 q10 B10 b11 b12 bD O11 NG10 G10 g0 g1
    have n0 := N12 0 _ rfl
    have n1 := N12 1 _ rfl
    have g0 := G12 0 _ rfl
    have g1 := G12 1 _ rfl
    have CP := dHide (implWriterPack_any _ _ (gs, gop) y _ ⟨_, rfl, NG12⟩ O12 okg (dUnhide PO).1 hsg (dUnhide PO).2)
    simp only at CP
    clear NG12 O12 okg hsg G12 PO
    cases mb
    · obtain rfl : y = ⟨0, []⟩ := by have := dUnhide PF rfl; simp only [Prod.mk.injEq, and_true] at this; exact this
      clear PF PR q12
      simp only [List.length_nil] at *
      go_wp2_with fail
      generalize w11.alloc (.cells #[.int .i64 0, .slice a11 0 c11] 40) = w12 at *
      refine (dUnhide CP).mono ?_
      rintro e w13 ⟨⟨u13, rfl, Q13⟩, b13⟩
      have B13 := belowThen B12 b13
      have N13 := N12.below b13
      clear n0 n1 g0 g1 CP N12 B12 b13 Q13
      have n1 := N13 1 _ rfl
      clear N13
      go_wp2
      go_ret
      exact ⟨rfl, B13⟩
    · obtain ⟨hP, hB⟩ := dUnhide PR rfl
      have hpos := wtB_pos y
      rw [hB] at hpos
      rw [wtM_yes hP, hB] at CP
      (try simp only at CP)
      clear PF PR hP hB
      go_wp2_with fail
      generalize w11.alloc (.cells #[.int .i64 y.epoch, .slice a11 y.words.length c11] 40) = w12 at *
      refine (dUnhide CP).mono ?_
      rintro e w13 ⟨⟨u13, rfl, Q13⟩, b13⟩
      have B13 := belowThen B12 b13
      have N13 := N12.below b13
      have q13 := q12.below b13
      have cA := conv_bsS Q13.own.bs hpos
      have cB := conv_bsS q13 hpos
      clear n0 n1 g0 g1 CP N12 B12 b13 q12 q13 Q13
      have n1 := N13 1 _ rfl
      clear N13
      go_wp2
      go_ret
      exact ⟨rfl, B13⟩
  · obtain ⟨hP, rfl⟩ := dUnhide PT rfl
    have hps : Hid ((wtB m).length ≤ 1048576) := by
      unfold Hid
      have h1 := wdsB_len m.words
      obtain ⟨h2, h2'⟩ := sumW_fit hf.2.1
      have h3 := hf.1
      have h4 := numB_len m.epoch.toNat
      have h5 := numB_len m.words.length
      have h6 : 60 * m.words.length ≤ 60 * 60 := Nat.mul_le_mul (Nat.le_refl _) h3
      simp only [wtB, List.length_append]
      omega
    have hG := wr_wdG hP (by omega) (fun e he => by have := (hf.2.1 e he).2.1; omega)
    have C5 := dHide (implWriterRead_any _ u3 (ds, cop) (wtB m) w4 (dUnhide HS _ B4) ⟨_, rfl, NC4⟩ okc hsc (dUnhide Q34) (dUnhide hps))
    simp only at C5
    rw [wtR_pack hP hG] at C5
    (try simp only at C5)
    clear PT Q34 hP hps hG okc hsc hsm okm
    go_wp2_with fail
    refine (dUnhide C5).mono ?_
    rintro e w5 ⟨⟨a5, c5, rfl, O5⟩, b5⟩
    have bB := ba w5 (.cells #[.int .i64 m.epoch, .slice a5 m.words.length c5] 40)
    have b6 := belowThen b5 bB
    have X6 := X4.below b6
    have N6 := Bx.new w5 [.int .i64 m.epoch, .slice a5 m.words.length c5] 40
    have B6 := belowThen B4 b6
    have O5' : RdWriter (.agg #[.int .i64 m.epoch, .slice a5 m.words.length c5]) m w5 := ⟨_, rfl, OwK.rd O5.ow⟩
    have O6 := O5'.below bB
    have P6 := O4.below b6
    clear C5 y0 y1 k0 k1 K4 NC4 O5 O5' X4 O4 B4 b5 bB b6
    have y0 := X6 0 _ rfl
    have y1 := X6 1 _ rfl
    have n0 := N6 0 _ rfl
    have n1 := N6 1 _ rfl
    go_wp2_with fail
    generalize hb6 : w5.heap.size = x6 at *
    generalize w5.alloc (.cells #[.int .i64 m.epoch, .slice a5 m.words.length c5] 40) = w6 at *
    clear hb6
    have hwl : m.words.length ≤ 1073741824 := by have := hf.1; omega
    have hd6 : Below w6.heap.size w6 w6.drew := (Below.refl _ _).drew
    have CA := dHide fun W (hb : Below w6.heap.size w6 W) => implSure_any _ m W hwl (O6.below hb)
    have CE := dHide fun W (hb : Below w6.heap.size w6 W) => implSure_any _ m W hwl (P6.below hb)
    have HC : Hid (∀ W, Below w6.heap.size w6 W → ((W.cell? ⟨bx + 1, 0, none⟩ = some (.int .i64 m.epoch) ∧ W.cell? ⟨bx + 1, 1, none⟩ = some (.slice a m.words.length c)) ∧ (W.cell? ⟨x6, 0, none⟩ = some (.int .i64 m.epoch) ∧ W.cell? ⟨x6, 1, none⟩ = some (.slice a5 m.words.length c5)))) := fun W hb => ⟨⟨X6.below hb 0 _ rfl, X6.below hb 1 _ rfl⟩, ⟨N6.below hb 0 _ rfl, N6.below hb 1 _ rfl⟩⟩
    have hbF := dHide fun W (hb : Below w6.heap.size w6 W) => belowThen B6 hb
    have p := dUnhide HC _ (Below.refl _ _)
    have pd := dUnhide HC _ hd6
    clear O6 P6 X6 N6 B6 y0 y1 n0 n1 hf hwl
    go_region_held3 (fun W => (W.cell? ⟨bx + 1, 0, none⟩ = some (.int .i64 m.epoch) ∧ W.cell? ⟨bx + 1, 1, none⟩ = some (.slice a m.words.length c)) ∧ (W.cell? ⟨x6, 0, none⟩ = some (.int .i64 m.epoch) ∧ W.cell? ⟨x6, 1, none⟩ = some (.slice a5 m.words.length c5))) (first | with_reducible exact p | with_reducible exact pd | with_reducible exact q7 | with_reducible exact q8 | go_keep)
      (first
        | (go_at_call 16; refine (dUnhide CA _ hd6).mono ?_; rintro e w7 ⟨rfl, b7⟩; have h7 := belowThen hd6 b7; have q7 := dUnhide HC _ h7)
        | (go_at_call 16; refine (dUnhide CE _ h7).mono ?_; rintro e w8 ⟨rfl, b8⟩; have h8 := belowThen h7 b8; have q8 := dUnhide HC _ h8)
        | fail)
    all_goals
      have hbS := dUnhide hbF _ h8
      clear HC hbF p pd q7 q8 CA CE h7 h8 hd6 b7 b8
      go_wp2_with fail
      refine (dUnhide CR _ hbS).mono ?_
      rintro e w7 ⟨⟨cv2, v8, rfl, gs, gop, bs, ⟨ga, gc, rfl, NG⟩, gl, gi, gco, q8, hl8⟩, b8⟩
      have bG := ba w7 (.cells #[.slice ga gs.length gc, .int .i64 gop] 26)
      have B8 := belowThen (belowThen hbS b8) bG
      have G8 := Bx.new w7 [.slice ga gs.length gc, .int .i64 gop] 26
      have NG8 := NG.below bG
      have q8' := q8.below bG
      have okg : okConfig (gs, gop) := ⟨fun d hd => by have := gi d hd; omega, by simp only; omega, by simp only; omega⟩
      have hsg : sizConfig (gs, gop) ≤ 1048576 := by unfold sizConfig; simp only; omega
      clear hbS b8 CR NG q8 bG gi
      have g0 := G8 0 _ rfl
      have g1 := G8 1 _ rfl
      go_wp2_with fail
      generalize hw7 : w7.heap.size = x7 at *
      generalize w7.alloc (.cells #[.slice ga gs.length gc, .int .i64 gop] 26) = w8 at *
      clear hw7
      have CI := dHide (implWriterRead_any _ v8 (gs, gop) bs w8 (dUnhide HS _ B8) ⟨_, rfl, NG8⟩ okg hsg q8' (by omega))
      have CT := dHide fun W (hb : Below w8.heap.size w8 W) => specWriterRead_any _ v8 (gs, gop) bs W ⟨_, rfl, NG8.below hb⟩ (q8'.below hb) (by omega)
      have PR : Hid ((wtR gs gop bs).2 = true → wrP gs gop (wtR gs gop bs).1 ∧ wtB (wtR gs gop bs).1 = bs) := fun h => wtR_inv (Prod.ext rfl h)
      have PF : Hid ((wtR gs gop bs).2 = false → wtR gs gop bs = (⟨0, []⟩, false)) := fun h => wtR_bad h
      have PO : Hid (okWriter (wtR gs gop bs).1 ∧ sizWriter (wtR gs gop bs).1 ≤ 1048576) := wtR_ok (gs, gop) bs (by omega)
      generalize wtR gs gop bs = RM at *
      obtain ⟨y, mb⟩ := RM
      clear HS
      simp only at CI CT PR PF PO
      refine (dUnhide CI).mono ?_
      rintro e w9 ⟨⟨a9, c9, rfl, O9⟩, b9⟩
      have bC := ba w9 (.cells #[.int .i64 y.epoch, .slice a9 y.words.length c9] 40)
      have b10 := belowThen b9 bC
      have N10 := Bx.new w9 [.int .i64 y.epoch, .slice a9 y.words.length c9] 40
      have O9' : RdWriter (.agg #[.int .i64 y.epoch, .slice a9 y.words.length c9]) y w9 := ⟨_, rfl, OwK.rd O9.ow⟩
      have O10 := O9'.below bC
      have q10 := q8'.below b10
      have NG10 := NG8.below b10
      have G10 := G8.below b10
      have B10 := belowThen B8 b10
      have CT10 := dHide (dUnhide CT _ b10)
      clear CI CT O9 O9' q8' B8 b9 b10 bC NG8 G8 g0 g1
      have g0 := G10 0 _ rfl
      have g1 := G10 1 _ rfl
      go_wp2_with fail
      generalize hb9 : w9.heap.size = x9 at *
      generalize w9.alloc (.cells #[.int .i64 y.epoch, .slice a9 y.words.length c9] 40) = w10 at *
      clear hb9
      refine (dUnhide CT10).mono ?_
      rintro e w11 ⟨⟨a11, c11, rfl, O11⟩, b11⟩
      have bD := ba w11 (.cells #[.int .i64 y.epoch, .slice a11 y.words.length c11] 40)
      have b12 := belowThen b11 bD
      have N12 := N10.below b12
      have O12 := O10.below b12
      have q12 := q10.below b12
      have NG12 := NG10.below b12
      have G12 := G10.below b12
      have B12 := belowThen B10 b12
      clear CT10 N10 O10 q10 B10 b11 b12 bD O11 NG10 G10 g0 g1
      have n0 := N12 0 _ rfl
      have n1 := N12 1 _ rfl
      have g0 := G12 0 _ rfl
      have g1 := G12 1 _ rfl
      have CP := dHide (implWriterPack_any _ _ (gs, gop) y _ ⟨_, rfl, NG12⟩ O12 okg (dUnhide PO).1 hsg (dUnhide PO).2)
      simp only at CP
      clear NG12 O12 okg hsg G12 PO
      cases mb
      · obtain rfl : y = ⟨0, []⟩ := by have := dUnhide PF rfl; simp only [Prod.mk.injEq, and_true] at this; exact this
        clear PF PR q12
        simp only [List.length_nil] at *
        go_wp2_with fail
        generalize w11.alloc (.cells #[.int .i64 0, .slice a11 0 c11] 40) = w12 at *
        refine (dUnhide CP).mono ?_
        rintro e w13 ⟨⟨u13, rfl, Q13⟩, b13⟩
        have B13 := belowThen B12 b13
        have N13 := N12.below b13
        clear n0 n1 g0 g1 CP N12 B12 b13 Q13
        have n1 := N13 1 _ rfl
        clear N13
        go_wp2
        go_ret
        exact ⟨rfl, B13⟩
      · obtain ⟨hP, hB⟩ := dUnhide PR rfl
        have hpos := wtB_pos y
        rw [hB] at hpos
        rw [wtM_yes hP, hB] at CP
        (try simp only at CP)
        clear PF PR hP hB
        go_wp2_with fail
        generalize w11.alloc (.cells #[.int .i64 y.epoch, .slice a11 y.words.length c11] 40) = w12 at *
        refine (dUnhide CP).mono ?_
        rintro e w13 ⟨⟨u13, rfl, Q13⟩, b13⟩
        have B13 := belowThen B12 b13
        have N13 := N12.below b13
        have q13 := q12.below b13
        have cA := conv_bsS Q13.own.bs hpos
        have cB := conv_bsS q13 hpos
        clear n0 n1 g0 g1 CP N12 B12 b13 q12 q13 Q13
        have n1 := N13 1 _ rfl
        clear N13
        go_wp2
        go_ret
        exact ⟨rfl, B13⟩
theorem walkFnWriterBytes (v0 : Value) (m0 : List UInt8) (w : World) (i0 : Bs w v0 m0) (hS : Hnd w) :
    Calls Tryz.prog 4 #[v0] w fun e w' => e = .returned (.bool true) ∧ Below w.heap.size w w' := by
  have i0' := i0
  obtain ⟨-, a, cap, rfl, -, -⟩ := i0'
  exact walkWriterBytes a m0.length cap w (Bs.row8 i0) hS
end Go.Proofs.YthndkkjgjhgdnaaGreatDoor
