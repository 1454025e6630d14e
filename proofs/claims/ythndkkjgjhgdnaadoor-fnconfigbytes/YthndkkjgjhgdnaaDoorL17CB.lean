/- The walk of the law FnConfigBytes (printed by tools/mkl17cb.py). -/
import Derived.Test.YthndkkjgjhgdnaaDoorCbA
import Derived.Test.YthndkkjgjhgdnaaDoorPiB
import Derived.Test.YthndkkjgjhgdnaaDoorPvD
import Derived.Test.YthndkkjgjhgdnaaDoorPkI
import Derived.Test.YthndkkjgjhgdnaaDoorWithN
import Derived.Test.YthndkkjgjhgdnaaDoorBigB
namespace Go.Proofs.YthndkkjgjhgdnaaDoor
open Go.ChangeShapes Go.WideShapes Go.ChangeAt Go.RowKit
set_option linter.unusedVariables false
set_option linter.unusedSimpArgs false
set_option maxRecDepth 100000

theorem cfg_allInt {ds : List Int} {cop : Int} (h : cfgP ds cop) : allInt ds := fun d hd => by
  obtain ⟨i, hi, rfl⟩ := List.getElem_of_mem hd
  have := h.2.2 i hi
  omega
theorem cfgB_pos (ds : List Int) (cop : Int) : 0 < (cfgB ds cop).length := by
  have h1 := lstB_pos ds
  simp only [cfgB, List.length_append]
  omega
theorem cfgM_true {ds : List Int} {cop : Int} {M : List UInt8 × Bool} (h : cfgM ds cop = M) (hb : M.2 = true) : cfgP ds cop ∧ M.1 = cfgB ds cop := by
  by_cases hp : cfgP ds cop
  · rw [cfgM_yes hp] at h; subst h; exact ⟨hp, rfl⟩
  · rw [cfgM_no hp] at h; subst h; cases hb
theorem cfgR_bad {bs : List UInt8} (h : (cfgR bs).2.2 = false) : cfgR bs = ([], 0, false) := by
  by_cases hc : endB bs (rdN bs (rdL bs 0 true).2.1 (rdL bs 0 true).2.2).2.1 (rdN bs (rdL bs 0 true).2.1 (rdL bs 0 true).2.2).2.2 = true ∧ cfgP (rdL bs 0 true).1 (rdN bs (rdL bs 0 true).2.1 (rdL bs 0 true).2.2).1
  · rw [cfgR_yes bs hc] at h; cases h
  · exact cfgR_no bs hc
set_option maxHeartbeats 8000000 in
theorem walkConfigBytes (a0 : Option Addr) (len0 cap0 : Nat) (w : World) (hr : Row8 w a0 len0) (hS : Hnd w) :
    Calls Tryd.prog 3 #[.slice a0 len0 cap0] w fun e w' => e = .returned (.bool true) ∧ Below w.heap.size w w' := by
  have hlen := hr.1
  by_cases hbig : 1048576 < len0
  · have CB := dHide (big_yes a0 len0 cap0 hbig hlen)
    go_enter Tryd.func3, Tryd.ntmps3
    go_wp2_with fail
    refine (dUnhide CB _).mono ?_
    rintro e w1 ⟨rfl, rfl⟩
    go_wp2
    go_ret
    exact ⟨rfl, Below.refl _ _⟩
  have CB := dHide (big_no a0 len0 cap0 hbig)
  have CD := dHide (drawConfigPack_any a0 len0 cap0 w hr)
  have CR := dHide fun W (hb : Below w.heap.size w W) => drawConfigRead_any a0 len0 cap0 W (hr.below hb)
  have HS := dHide fun W (hb : Below w.heap.size w W) => (hS.below hb (Nat.le_refl _) : Hnd W)
  have ba : ∀ (w : World) o, Below w.heap.size w (w.alloc o) := fun w o => (Below.refl _ _).alloc (Nat.le_refl _) o
  clear hbig hr hS
  go_enter Tryd.func3, Tryd.ntmps3
  go_wp2_with fail
  refine (dUnhide CB _).mono ?_
  rintro e w1 ⟨rfl, rfl⟩
  clear CB
  go_wp2_with fail
  refine (dUnhide CD).mono ?_
  rintro e w1 ⟨⟨u, rfl, sv, ds, cop, rfl, O1, hl, hI, hc0, hc5⟩, B1⟩
  obtain ⟨sa, sc, rfl⟩ : ∃ a c, sv = .slice a ds.length c := by obtain ⟨-, a, c, e, -⟩ := O1; exact ⟨a, c, e⟩
  clear CD
  have bA := ba w1 (.cells #[.slice sa ds.length sc, .int .i64 cop] 26)
  have X2 := Bx.new w1 [.slice sa ds.length sc, .int .i64 cop] 26
  have O2 := O1.below bA
  have B2 := belowThen B1 bA
  clear O1 B1 bA
  have y0 := X2 0 _ rfl
  have y1 := X2 1 _ rfl
  go_wp2_with fail
  generalize hbx : w1.heap.size = bx at *
  generalize w1.alloc (.cells #[.slice sa ds.length sc, .int .i64 cop] 26) = w2 at *
  clear hbx
  have C1 := dHide (implConfigPack_any _ ds cop w2 O2 hI (by omega) (by omega) (by omega))
  have CS := dHide fun W (hb : Below w2.heap.size w2 W) => specConfigPack_any _ ds cop W (O2.below hb)
  have PT : Hid ((cfgM ds cop).2 = true → cfgP ds cop ∧ (cfgM ds cop).1 = cfgB ds cop) := fun h => cfgM_true rfl h
  generalize cfgM ds cop = M at *
  obtain ⟨PB, pb⟩ := M
  simp only at C1 CS PT
  refine (dUnhide C1).mono ?_
  rintro e w3 ⟨⟨u3, rfl, Q3⟩, b3⟩
  have X3 := X2.below b3
  have O3 := O2.below b3
  have B3 := belowThen B2 b3
  have CS3 := dHide (dUnhide CS _ b3)
  clear C1 CS X2 O2 B2 b3 y0 y1
  have y0 := X3 0 _ rfl
  have y1 := X3 1 _ rfl
  have Q3' := Q3.own.bs
  clear Q3
  go_wp2_with fail
  refine (dUnhide CS3).mono ?_
  rintro e w4 ⟨⟨u4, rfl, -⟩, b4⟩
  have X4 := X3.below b4
  have O4 := O3.below b4
  have B4 := belowThen B3 b4
  have Q34 := dHide (Q3'.below b4)
  clear CS3 X3 O3 B3 y0 y1 Q3' b4
  have y0 := X4 0 _ rfl
  have y1 := X4 1 _ rfl
  cases pb
  · have hbS := B4
    clear PT Q34 X4 O4 B4 y0 y1 hI
    go_wp2_with fail
    refine (dUnhide CR _ hbS).mono ?_
    rintro e w8 ⟨⟨v8, rfl, bs, q8, hl8⟩, b8⟩
    have B8 := belowThen hbS b8
    have CI := dHide (implConfigRead_any v8 bs w8 (dUnhide HS _ B8) q8 (by omega))
    have CT := dHide fun W (hb : Below w8.heap.size w8 W) => specConfigRead_any v8 bs W (q8.below hb) (by omega)
    have PR : Hid ((cfgR bs).2.2 = true → cfgP (cfgR bs).1 (cfgR bs).2.1 ∧ cfgB (cfgR bs).1 (cfgR bs).2.1 = bs) := fun h => cfgR_inv (Prod.ext rfl (Prod.ext rfl h))
    have PF : Hid ((cfgR bs).2.2 = false → cfgR bs = ([], 0, false)) := fun h => cfgR_bad h
    generalize cfgR bs = RM at *
    obtain ⟨ms, mc, mb⟩ := RM
    simp only at CI CT PR PF
    clear hbS b8 CR HS
    go_wp2_with fail
    refine (dUnhide CI).mono ?_
    rintro e w9 ⟨⟨u9, rfl, O9⟩, b9⟩
    obtain ⟨a9, c9, rfl⟩ : ∃ a c, u9 = .slice a ms.length c := by obtain ⟨-, a, c, e, -⟩ := O9.bs; exact ⟨a, c, e⟩
    have bC := ba w9 (.cells #[.slice a9 ms.length c9, .int .i64 mc] 26)
    have b10 := belowThen b9 bC
    have N10 := Bx.new w9 [.slice a9 ms.length c9, .int .i64 mc] 26
    have O10 := O9.bs.below bC
    have q10 := q8.below b10
    have B10 := belowThen B8 b10
    have CT10 := dHide (dUnhide CT _ b10)
    clear CI CT O9 q8 B8 b9 b10 bC
    go_wp2_with fail
    generalize hb9 : w9.heap.size = x9 at *
    generalize w9.alloc (.cells #[.slice a9 ms.length c9, .int .i64 mc] 26) = w10 at *
    clear hb9
    refine (dUnhide CT10).mono ?_
    rintro e w11 ⟨⟨u11, rfl, O11⟩, b11⟩
    obtain ⟨a11, c11, rfl⟩ : ∃ a c, u11 = .slice a ms.length c := by obtain ⟨-, a, c, e, -⟩ := O11.bs; exact ⟨a, c, e⟩
    have bD := ba w11 (.cells #[.slice a11 ms.length c11, .int .i64 mc] 26)
    have b12 := belowThen b11 bD
    have N12 := N10.below b12
    have O12 := O10.below b12
    have q12 := q10.below b12
    have B12 := belowThen B10 b12
    clear CT10 N10 O10 q10 B10 b11 b12 bD O11
    have n0 := N12 0 _ rfl
    have n1 := N12 1 _ rfl
    cases mb
    · obtain ⟨rfl, rfl⟩ : ms = [] ∧ mc = 0 := by have := dUnhide PF rfl; simp only [Prod.mk.injEq] at this; exact ⟨this.1, this.2.1⟩
      have CP := dHide (implConfigPack_any _ [] 0 _ O12 (fun _ h => by cases h) (by simp) (by omega) (by omega))
      clear PF PR O12 q12
      simp only [List.length_nil] at *
      go_wp2_with fail
      generalize w11.alloc (.cells #[.slice a11 0 c11, .int .i64 0] 26) = w12 at *
      refine (dUnhide CP).mono ?_
      rintro e w13 ⟨⟨u13, rfl, Q13⟩, b13⟩
      have B13 := belowThen B12 b13
      have N13 := N12.below b13
      clear n0 n1 CP N12 B12 b13 Q13
      have n0 := N13 0 _ rfl
      clear N13
      go_wp2
      go_ret
      exact ⟨rfl, B13⟩
    · obtain ⟨hP, hB⟩ := dUnhide PR rfl
      have hpos := cfgB_pos ms mc
      rw [hB] at hpos
      have hI2 := cfg_allInt hP
      have hl2 := hP.1.2
      have hc2 := hP.2.1
      have CP := dHide (implConfigPack_any _ ms mc _ O12 hI2 (by omega) (by omega) (by omega))
      rw [cfgM_yes hP, hB] at CP
      simp only at CP
      clear PF PR O12 hP hB hI2 hl2 hc2
      go_wp2_with fail
      generalize w11.alloc (.cells #[.slice a11 ms.length c11, .int .i64 mc] 26) = w12 at *
      refine (dUnhide CP).mono ?_
      rintro e w13 ⟨⟨u13, rfl, Q13⟩, b13⟩
      have B13 := belowThen B12 b13
      have N13 := N12.below b13
      have q13 := q12.below b13
      have cA := conv_bsS Q13.own.bs hpos
      have cB := conv_bsS q13 hpos
      clear n0 n1 CP N12 B12 b13 q12 q13 Q13
      have n0 := N13 0 _ rfl
      clear N13
      go_wp2
      go_ret
      exact ⟨rfl, B13⟩
  · obtain ⟨hP, rfl⟩ := dUnhide PT rfl
    have hps : Hid ((cfgB ds cop).length ≤ 1048576) := by
      unfold Hid
      have h1 := lstB_len ds
      have h2 := numB_len cop.toNat
      simp only [cfgB, List.length_append]
      omega
    have C5 := dHide (implConfigRead_any u3 (cfgB ds cop) w4 (dUnhide HS _ B4) (dUnhide Q34) (dUnhide hps))
    rw [cfgR_pack hP] at C5
    simp only at C5
    clear PT Q34 hP hps hI
    go_wp2_with fail
    refine (dUnhide C5).mono ?_
    rintro e w5 ⟨⟨u5, rfl, O5⟩, b5⟩
    obtain ⟨a5, c5, rfl⟩ : ∃ a c, u5 = .slice a ds.length c := by obtain ⟨-, a, c, e, -⟩ := O5.bs; exact ⟨a, c, e⟩
    have bB := ba w5 (.cells #[.slice a5 ds.length c5, .int .i64 cop] 26)
    have b6 := belowThen b5 bB
    have X6 := X4.below b6
    have N6 := Bx.new w5 [.slice a5 ds.length c5, .int .i64 cop] 26
    have RU := O5.bs.below bB
    have RV := O4.below b6
    have B6 := belowThen B4 b6
    have CQ := dHide (sameInts_yes _ _ ds _ RU RV)
    clear C5 y0 y1 O5 X4 O4 B4 b5 bB RU RV
    have y0 := X6 0 _ rfl
    have y1 := X6 1 _ rfl
    have n0 := N6 0 _ rfl
    have n1 := N6 1 _ rfl
    go_wp2_with fail
    generalize hb6 : w5.heap.size = x6 at *
    generalize w5.alloc (.cells #[.slice a5 ds.length c5, .int .i64 cop] 26) = w6 at *
    refine (dUnhide CQ).mono ?_
    rintro e w7 ⟨rfl, b7⟩
    have hbS := belowThen B6 b7
    have X7 := X6.below b7
    have N7 := N6.below b7
    clear CQ b7 B6 X6 N6 y0 y1 n0 n1 hb6 b6
    have y0 := X7 0 _ rfl
    have y1 := X7 1 _ rfl
    have n0 := N7 0 _ rfl
    have n1 := N7 1 _ rfl
    clear X7 N7
    go_wp2_with fail
    refine (dUnhide CR _ hbS).mono ?_
    rintro e w8 ⟨⟨v8, rfl, bs, q8, hl8⟩, b8⟩
    have B8 := belowThen hbS b8
    have CI := dHide (implConfigRead_any v8 bs w8 (dUnhide HS _ B8) q8 (by omega))
    have CT := dHide fun W (hb : Below w8.heap.size w8 W) => specConfigRead_any v8 bs W (q8.below hb) (by omega)
    have PR : Hid ((cfgR bs).2.2 = true → cfgP (cfgR bs).1 (cfgR bs).2.1 ∧ cfgB (cfgR bs).1 (cfgR bs).2.1 = bs) := fun h => cfgR_inv (Prod.ext rfl (Prod.ext rfl h))
    have PF : Hid ((cfgR bs).2.2 = false → cfgR bs = ([], 0, false)) := fun h => cfgR_bad h
    generalize cfgR bs = RM at *
    obtain ⟨ms, mc, mb⟩ := RM
    simp only at CI CT PR PF
    clear hbS b8 CR HS y0 y1 n0 n1
    go_wp2_with fail
    refine (dUnhide CI).mono ?_
    rintro e w9 ⟨⟨u9, rfl, O9⟩, b9⟩
    obtain ⟨a9, c9, rfl⟩ : ∃ a c, u9 = .slice a ms.length c := by obtain ⟨-, a, c, e, -⟩ := O9.bs; exact ⟨a, c, e⟩
    have bC := ba w9 (.cells #[.slice a9 ms.length c9, .int .i64 mc] 26)
    have b10 := belowThen b9 bC
    have N10 := Bx.new w9 [.slice a9 ms.length c9, .int .i64 mc] 26
    have O10 := O9.bs.below bC
    have q10 := q8.below b10
    have B10 := belowThen B8 b10
    have CT10 := dHide (dUnhide CT _ b10)
    clear CI CT O9 q8 B8 b9 b10 bC
    go_wp2_with fail
    generalize hb9 : w9.heap.size = x9 at *
    generalize w9.alloc (.cells #[.slice a9 ms.length c9, .int .i64 mc] 26) = w10 at *
    clear hb9
    refine (dUnhide CT10).mono ?_
    rintro e w11 ⟨⟨u11, rfl, O11⟩, b11⟩
    obtain ⟨a11, c11, rfl⟩ : ∃ a c, u11 = .slice a ms.length c := by obtain ⟨-, a, c, e, -⟩ := O11.bs; exact ⟨a, c, e⟩
    have bD := ba w11 (.cells #[.slice a11 ms.length c11, .int .i64 mc] 26)
    have b12 := belowThen b11 bD
    have N12 := N10.below b12
    have O12 := O10.below b12
    have q12 := q10.below b12
    have B12 := belowThen B10 b12
    clear CT10 N10 O10 q10 B10 b11 b12 bD O11
    have n0 := N12 0 _ rfl
    have n1 := N12 1 _ rfl
    cases mb
    · obtain ⟨rfl, rfl⟩ : ms = [] ∧ mc = 0 := by have := dUnhide PF rfl; simp only [Prod.mk.injEq] at this; exact ⟨this.1, this.2.1⟩
      have CP := dHide (implConfigPack_any _ [] 0 _ O12 (fun _ h => by cases h) (by simp) (by omega) (by omega))
      clear PF PR O12 q12
      simp only [List.length_nil] at *
      go_wp2_with fail
      generalize w11.alloc (.cells #[.slice a11 0 c11, .int .i64 0] 26) = w12 at *
      refine (dUnhide CP).mono ?_
      rintro e w13 ⟨⟨u13, rfl, Q13⟩, b13⟩
      have B13 := belowThen B12 b13
      have N13 := N12.below b13
      clear n0 n1 CP N12 B12 b13 Q13
      have n0 := N13 0 _ rfl
      clear N13
      go_wp2
      go_ret
      exact ⟨rfl, B13⟩
    · obtain ⟨hP, hB⟩ := dUnhide PR rfl
      have hpos := cfgB_pos ms mc
      rw [hB] at hpos
      have hI2 := cfg_allInt hP
      have hl2 := hP.1.2
      have hc2 := hP.2.1
      have CP := dHide (implConfigPack_any _ ms mc _ O12 hI2 (by omega) (by omega) (by omega))
      rw [cfgM_yes hP, hB] at CP
      simp only at CP
      clear PF PR O12 hP hB hI2 hl2 hc2
      go_wp2_with fail
      generalize w11.alloc (.cells #[.slice a11 ms.length c11, .int .i64 mc] 26) = w12 at *
      refine (dUnhide CP).mono ?_
      rintro e w13 ⟨⟨u13, rfl, Q13⟩, b13⟩
      have B13 := belowThen B12 b13
      have N13 := N12.below b13
      have q13 := q12.below b13
      have cA := conv_bsS Q13.own.bs hpos
      have cB := conv_bsS q13 hpos
      clear n0 n1 CP N12 B12 b13 q12 q13 Q13
      have n0 := N13 0 _ rfl
      clear N13
      go_wp2
      go_ret
      exact ⟨rfl, B13⟩
theorem walkFnConfigBytes (v0 : Value) (m0 : List UInt8) (w : World) (i0 : Bs w v0 m0) (hS : Hnd w) :
    Calls Tryd.prog 3 #[v0] w fun e w' => e = .returned (.bool true) ∧ Below w.heap.size w w' := by
  have i0' := i0
  obtain ⟨-, a, cap, rfl, -, -⟩ := i0'
  exact walkConfigBytes a m0.length cap w (Bs.row8 i0) hS
end Go.Proofs.YthndkkjgjhgdnaaDoor
