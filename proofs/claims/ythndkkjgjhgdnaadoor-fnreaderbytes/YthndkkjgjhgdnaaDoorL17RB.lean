/- The walk of the law FnReaderBytes (printed by tools/mkl17rb.py). -/
import Derived.Test.YthndkkjgjhgdnaaDoorRbA
import Derived.Test.YthndkkjgjhgdnaaDoorRbP
import Derived.Test.YthndkkjgjhgdnaaDoorHi1
import Derived.Test.YthndkkjgjhgdnaaDoorHr3
import Derived.Test.YthndkkjgjhgdnaaDoorGk14
import Derived.Test.YthndkkjgjhgdnaaDoorGk12
namespace Go.Proofs.YthndkkjgjhgdnaaDoor
open Go.ChangeShapes Go.WideShapes Go.ChangeAt Go.RowKit
set_option linter.unusedVariables false
set_option linter.unusedSimpArgs false
set_option maxRecDepth 100000

set_option maxHeartbeats 8000000 in
theorem walkReaderBytes (a0 : Option Addr) (len0 cap0 : Nat) (w : World) (hr : Row8 w a0 len0) (hS : Hnd w) :
    Calls Tryd.prog 4 #[.slice a0 len0 cap0] w fun e w' => e = .returned (.bool true) ∧ Below w.heap.size w w' := by
  have hlen := hr.1
  by_cases hbig : 1048576 < len0
  · have CB := dHide (big_yes a0 len0 cap0 hbig hlen)
    go_enter Tryd.func4, Tryd.ntmps4
    go_wp2_with fail
    refine (dUnhide CB _).mono ?_
    rintro e w1 ⟨rfl, rfl⟩
    go_wp2
    go_ret
    exact ⟨rfl, Below.refl _ _⟩
  have CB := dHide (big_no a0 len0 cap0 hbig)
  have CD := dHide (drawReaderPack_any a0 len0 cap0 w hr)
  have CR := dHide fun W (hb : Below w.heap.size w W) => drawReaderRead_any a0 len0 cap0 W (hr.below hb)
  have HS := dHide fun W (hb : Below w.heap.size w W) => (hS.below hb (Nat.le_refl _) : Hnd W)
  have ba : ∀ (w : World) o, Below w.heap.size w (w.alloc o) := fun w o => (Below.refl _ _).alloc (Nat.le_refl _) o
  clear hbig hr hS
  go_enter Tryd.func4, Tryd.ntmps4
  go_wp2_with fail
  refine (dUnhide CB _).mono ?_
  rintro e w1 ⟨rfl, rfl⟩
  clear CB
  go_wp2_with fail
  refine (dUnhide CD).mono ?_
  rintro e w1 ⟨⟨u, rfl, ⟨ep, off, es⟩, sa, sc, rfl, O1, hf⟩, B1⟩
  obtain ⟨he0, ho0, hl, hev⟩ := hf
  simp only at O1 he0 ho0 hl hev
  have hI : ∀ e ∈ es, e.pl ≤ 9223372036854775807 := fun e h => (hev e h).2.1.2
  clear hev
  clear CD
  have bA := ba w1 (.cells #[.int .i64 ep, .int .i64 off, .slice sa es.length sc] 36)
  have X2 := Bx.new w1 [.int .i64 ep, .int .i64 off, .slice sa es.length sc] 36
  have O2 := O1.below bA
  have B2 := belowThen B1 bA
  clear O1 B1 bA
  have y0 := X2 0 _ rfl
  have y1 := X2 1 _ rfl
  have y2 := X2 2 _ rfl
  go_wp2_with fail
  generalize hbx : w1.heap.size = bx at *
  generalize w1.alloc (.cells #[.int .i64 ep, .int .i64 off, .slice sa es.length sc] 36) = w2 at *
  clear hbx
  have C1 := dHide (implReaderPack_any _ ⟨ep, off, es⟩ w2 ⟨_, rfl, O2⟩ hI (by simp only; omega))
  have CS := dHide fun W (hb : Below w2.heap.size w2 W) => specReaderPack_any _ ⟨ep, off, es⟩ W ⟨_, rfl, O2.below hb⟩ hI
  have PT : Hid ((rdM ⟨ep, off, es⟩).2 = true → rdPk ⟨ep, off, es⟩ ∧ (rdM ⟨ep, off, es⟩).1 = rdB ⟨ep, off, es⟩) := fun h => rdM_true rfl h
  generalize rdM ⟨ep, off, es⟩ = M at *
  obtain ⟨PB, pb⟩ := M
  simp only at C1 CS PT
  refine (dUnhide C1).mono ?_
  rintro e w3 ⟨⟨u3, rfl, Q3⟩, b3⟩
  have X3 := X2.below b3
  have O3 := O2.below b3
  have B3 := belowThen B2 b3
  have CS3 := dHide (dUnhide CS _ b3)
  clear C1 CS X2 O2 B2 b3 y0 y1 y2
  have y0 := X3 0 _ rfl
  have y1 := X3 1 _ rfl
  have y2 := X3 2 _ rfl
  have Q3' := Q3.own.bs
  clear Q3
  go_wp2_with fail
  refine (dUnhide CS3).mono ?_
  rintro e w4 ⟨⟨u4, rfl, -⟩, b4⟩
  have X4 := X3.below b4
  have O4 := O3.below b4
  have B4 := belowThen B3 b4
  have Q34 := dHide (Q3'.below b4)
  clear CS3 X3 O3 B3 y0 y1 y2 Q3' b4
  have y0 := X4 0 _ rfl
  have y1 := X4 1 _ rfl
  have y2 := X4 2 _ rfl
  cases pb
  · have hbS := B4
    clear PT Q34 X4 O4 B4 y0 y1 y2 hI
    go_wp2_with fail
    refine (dUnhide CR _ hbS).mono ?_
    rintro e w8 ⟨⟨v8, rfl, bs, q8, hl8⟩, b8⟩
    have B8 := belowThen hbS b8
    have CI := dHide (implReaderRead_any v8 bs w8 (dUnhide HS _ B8) q8 (by omega))
    have CT := dHide fun W (hb : Below w8.heap.size w8 W) => specReaderRead_any v8 bs W (q8.below hb) (by omega)
    have PR : Hid ((rdR bs).2 = true → rdPk (rdR bs).1 ∧ rdB (rdR bs).1 = bs ∧ ∀ e ∈ (rdR bs).1.out, e.pl ≤ 9223372036854775807) := fun h => rdR_inv (Prod.ext rfl h)
    have PF : Hid ((rdR bs).2 = false → rdR bs = (⟨0, 0, []⟩, false)) := fun h => rdR_bad h
    generalize rdR bs = RM at *
    obtain ⟨⟨mp, mo, ms⟩, mb⟩ := RM
    simp only at CI CT PR PF
    clear hbS b8 CR HS
    go_wp2_with fail
    refine (dUnhide CI).mono ?_
    rintro e w9 ⟨⟨a9, c9, rfl, O9⟩, b9⟩
    have bC := ba w9 (.cells #[.int .i64 mp, .int .i64 mo, .slice a9 ms.length c9] 36)
    have b10 := belowThen b9 bC
    have N10 := Bx.new w9 [.int .i64 mp, .int .i64 mo, .slice a9 ms.length c9] 36
    have O10 : RdEventS (.slice a9 ms.length c9) ms _ := RdEventS.below (ApR.own elemEvent O9).rw bC
    have q10 := q8.below b10
    have B10 := belowThen B8 b10
    have CT10 := dHide (dUnhide CT _ b10)
    clear CI CT O9 q8 B8 b9 b10 bC
    go_wp2_with fail
    generalize hb9 : w9.heap.size = x9 at *
    generalize w9.alloc (.cells #[.int .i64 mp, .int .i64 mo, .slice a9 ms.length c9] 36) = w10 at *
    clear hb9
    refine (dUnhide CT10).mono ?_
    rintro e w11 ⟨⟨a11, c11, rfl, O11⟩, b11⟩
    have bD := ba w11 (.cells #[.int .i64 mp, .int .i64 mo, .slice a11 ms.length c11] 36)
    have b12 := belowThen b11 bD
    have N12 := N10.below b12
    have O12 : RdEventS (.slice a9 ms.length c9) ms _ := RdEventS.below O10 b12
    have q12 := q10.below b12
    have B12 := belowThen B10 b12
    clear CT10 N10 O10 q10 B10 b11 b12 bD O11
    have n0 := N12 0 _ rfl
    have n1 := N12 1 _ rfl
    have n2 := N12 2 _ rfl
    cases mb
    · obtain ⟨rfl, rfl, rfl⟩ : mp = 0 ∧ mo = 0 ∧ ms = [] := by have := dUnhide PF rfl; simp only [Prod.mk.injEq, Rr.mk.injEq] at this; exact ⟨this.1.1, this.1.2.1, this.1.2.2⟩
      have CP := dHide (implReaderPack_any _ ⟨0, 0, []⟩ _ ⟨_, rfl, O12⟩ (fun _ h => by cases h) (by simp))
      clear PF PR O12 q12
      simp only [List.length_nil] at *
      go_wp2_with fail
      generalize w11.alloc (.cells #[.int .i64 0, .int .i64 0, .slice a11 0 c11] 36) = w12 at *
      refine (dUnhide CP).mono ?_
      rintro e w13 ⟨⟨u13, rfl, Q13⟩, b13⟩
      have B13 := belowThen B12 b13
      have N13 := N12.below b13
      clear n0 n1 n2 CP N12 B12 b13 Q13
      have n2 := N13 2 _ rfl
      clear N13
      go_wp2
      go_ret
      exact ⟨rfl, B13⟩
    · obtain ⟨hP, hB, hI2⟩ := dUnhide PR rfl
      have hpos := rdB_pos ⟨mp, mo, ms⟩
      (try simp only at hP hB hI2)
      rw [hB] at hpos
      have hl2 := hP.2.2.2
      have CP := dHide (implReaderPack_any _ ⟨mp, mo, ms⟩ _ ⟨_, rfl, O12⟩ hI2 (by simp only at hl2 ⊢; omega))
      rw [rdM_yes hP, hB] at CP
      (try simp only at CP)
      clear PF PR O12 hP hB hI2 hl2
      go_wp2_with fail
      generalize w11.alloc (.cells #[.int .i64 mp, .int .i64 mo, .slice a11 ms.length c11] 36) = w12 at *
      refine (dUnhide CP).mono ?_
      rintro e w13 ⟨⟨u13, rfl, Q13⟩, b13⟩
      have B13 := belowThen B12 b13
      have N13 := N12.below b13
      have q13 := q12.below b13
      have cA := conv_bsS Q13.own.bs hpos
      have cB := conv_bsS q13 hpos
      clear n0 n1 n2 CP N12 B12 b13 q12 q13 Q13
      have n2 := N13 2 _ rfl
      clear N13
      go_wp2
      go_ret
      exact ⟨rfl, B13⟩
  · obtain ⟨hP, rfl⟩ := dUnhide PT rfl
    have hps : Hid ((rdB ⟨ep, off, es⟩).length ≤ 1048576) := by
      unfold Hid
      have h1 := evsB_len es hP.1
      have h2 := numB_len ep.toNat
      have h3 := numB_len off.toNat
      have h4 := numB_len es.length
      simp only [rdB, List.length_append]
      omega
    have C5 := dHide (implReaderRead_any u3 (rdB ⟨ep, off, es⟩) w4 (dUnhide HS _ B4) (dUnhide Q34) (dUnhide hps))
    rw [rdR_pack hP hI] at C5
    simp only at C5
    clear PT Q34 hP hps hI
    go_wp2_with fail
    refine (dUnhide C5).mono ?_
    rintro e w5 ⟨⟨a5, c5, rfl, O5⟩, b5⟩
    have bB := ba w5 (.cells #[.int .i64 ep, .int .i64 off, .slice a5 es.length c5] 36)
    have b6 := belowThen b5 bB
    have X6 := X4.below b6
    have N6 := Bx.new w5 [.int .i64 ep, .int .i64 off, .slice a5 es.length c5] 36
    have RU : RdEventS (.slice a5 es.length c5) es _ := RdEventS.below (ApR.own elemEvent O5).rw bB
    have RV : RdEventS (.slice sa es.length sc) es _ := RdEventS.below O4 b6
    have B6 := belowThen B4 b6
    have CQ := dHide (sameEvents_any _ _ es _ RU RV)
    clear C5 y0 y1 y2 O5 X4 O4 B4 b5 bB RU RV
    have y0 := X6 0 _ rfl
    have y1 := X6 1 _ rfl
    have y2 := X6 2 _ rfl
    have n0 := N6 0 _ rfl
    have n1 := N6 1 _ rfl
    have n2 := N6 2 _ rfl
    go_wp2_with fail
    generalize hb6 : w5.heap.size = x6 at *
    generalize w5.alloc (.cells #[.int .i64 ep, .int .i64 off, .slice a5 es.length c5] 36) = w6 at *
    refine (dUnhide CQ).mono ?_
    rintro e w7 ⟨rfl, b7⟩
    have hbS := belowThen B6 b7
    clear CQ b7 B6 X6 N6 y0 y1 y2 n0 n1 n2 hb6 b6
    go_wp2_with fail
    refine (dUnhide CR _ hbS).mono ?_
    rintro e w8 ⟨⟨v8, rfl, bs, q8, hl8⟩, b8⟩
    have B8 := belowThen hbS b8
    have CI := dHide (implReaderRead_any v8 bs w8 (dUnhide HS _ B8) q8 (by omega))
    have CT := dHide fun W (hb : Below w8.heap.size w8 W) => specReaderRead_any v8 bs W (q8.below hb) (by omega)
    have PR : Hid ((rdR bs).2 = true → rdPk (rdR bs).1 ∧ rdB (rdR bs).1 = bs ∧ ∀ e ∈ (rdR bs).1.out, e.pl ≤ 9223372036854775807) := fun h => rdR_inv (Prod.ext rfl h)
    have PF : Hid ((rdR bs).2 = false → rdR bs = (⟨0, 0, []⟩, false)) := fun h => rdR_bad h
    generalize rdR bs = RM at *
    obtain ⟨⟨mp, mo, ms⟩, mb⟩ := RM
    simp only at CI CT PR PF
    clear hbS b8 CR HS
    go_wp2_with fail
    refine (dUnhide CI).mono ?_
    rintro e w9 ⟨⟨a9, c9, rfl, O9⟩, b9⟩
    have bC := ba w9 (.cells #[.int .i64 mp, .int .i64 mo, .slice a9 ms.length c9] 36)
    have b10 := belowThen b9 bC
    have N10 := Bx.new w9 [.int .i64 mp, .int .i64 mo, .slice a9 ms.length c9] 36
    have O10 : RdEventS (.slice a9 ms.length c9) ms _ := RdEventS.below (ApR.own elemEvent O9).rw bC
    have q10 := q8.below b10
    have B10 := belowThen B8 b10
    have CT10 := dHide (dUnhide CT _ b10)
    clear CI CT O9 q8 B8 b9 b10 bC
    go_wp2_with fail
    generalize hb9 : w9.heap.size = x9 at *
    generalize w9.alloc (.cells #[.int .i64 mp, .int .i64 mo, .slice a9 ms.length c9] 36) = w10 at *
    clear hb9
    refine (dUnhide CT10).mono ?_
    rintro e w11 ⟨⟨a11, c11, rfl, O11⟩, b11⟩
    have bD := ba w11 (.cells #[.int .i64 mp, .int .i64 mo, .slice a11 ms.length c11] 36)
    have b12 := belowThen b11 bD
    have N12 := N10.below b12
    have O12 : RdEventS (.slice a9 ms.length c9) ms _ := RdEventS.below O10 b12
    have q12 := q10.below b12
    have B12 := belowThen B10 b12
    clear CT10 N10 O10 q10 B10 b11 b12 bD O11
    have n0 := N12 0 _ rfl
    have n1 := N12 1 _ rfl
    have n2 := N12 2 _ rfl
    cases mb
    · obtain ⟨rfl, rfl, rfl⟩ : mp = 0 ∧ mo = 0 ∧ ms = [] := by have := dUnhide PF rfl; simp only [Prod.mk.injEq, Rr.mk.injEq] at this; exact ⟨this.1.1, this.1.2.1, this.1.2.2⟩
      have CP := dHide (implReaderPack_any _ ⟨0, 0, []⟩ _ ⟨_, rfl, O12⟩ (fun _ h => by cases h) (by simp))
      clear PF PR O12 q12
      simp only [List.length_nil] at *
      go_wp2_with fail
      generalize w11.alloc (.cells #[.int .i64 0, .int .i64 0, .slice a11 0 c11] 36) = w12 at *
      refine (dUnhide CP).mono ?_
      rintro e w13 ⟨⟨u13, rfl, Q13⟩, b13⟩
      have B13 := belowThen B12 b13
      have N13 := N12.below b13
      clear n0 n1 n2 CP N12 B12 b13 Q13
      have n2 := N13 2 _ rfl
      clear N13
      go_wp2
      go_ret
      exact ⟨rfl, B13⟩
    · obtain ⟨hP, hB, hI2⟩ := dUnhide PR rfl
      have hpos := rdB_pos ⟨mp, mo, ms⟩
      (try simp only at hP hB hI2)
      rw [hB] at hpos
      have hl2 := hP.2.2.2
      have CP := dHide (implReaderPack_any _ ⟨mp, mo, ms⟩ _ ⟨_, rfl, O12⟩ hI2 (by simp only at hl2 ⊢; omega))
      rw [rdM_yes hP, hB] at CP
      (try simp only at CP)
      clear PF PR O12 hP hB hI2 hl2
      go_wp2_with fail
      generalize w11.alloc (.cells #[.int .i64 mp, .int .i64 mo, .slice a11 ms.length c11] 36) = w12 at *
      refine (dUnhide CP).mono ?_
      rintro e w13 ⟨⟨u13, rfl, Q13⟩, b13⟩
      have B13 := belowThen B12 b13
      have N13 := N12.below b13
      have q13 := q12.below b13
      have cA := conv_bsS Q13.own.bs hpos
      have cB := conv_bsS q13 hpos
      clear n0 n1 n2 CP N12 B12 b13 q12 q13 Q13
      have n2 := N13 2 _ rfl
      clear N13
      go_wp2
      go_ret
      exact ⟨rfl, B13⟩
theorem walkFnReaderBytes (v0 : Value) (m0 : List UInt8) (w : World) (i0 : Bs w v0 m0) (hS : Hnd w) :
    Calls Tryd.prog 4 #[v0] w fun e w' => e = .returned (.bool true) ∧ Below w.heap.size w w' := by
  have i0' := i0
  obtain ⟨-, a, cap, rfl, -, -⟩ := i0'
  exact walkReaderBytes a m0.length cap w (Bs.row8 i0) hS
end Go.Proofs.YthndkkjgjhgdnaaDoor
