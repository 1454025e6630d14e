/- Worlds, measured as the exact laws do (printed by tools/mkwo.py). -/
import Derived.Test.YtnogallomdckiaaWoA
import Derived.Deep.DeepCutAuto
namespace Go.Proofs.Ytnogallomdckiaa
open Go.ChangeShapes Go.WideShapes Go.ChangeAt Go.RowKit
set_option linter.unusedVariables false
set_option linter.unusedSimpArgs false
set_option maxRecDepth 100000

set_option maxHeartbeats 4000000 in
theorem szWorld_ (v : Value) (m : Wo) (left : Int) (l0 : 0 ≤ left) (l1 : left ≤ 1048576) (ht : txtWo m) (w : World) (h : RdWorld v m w) :
    Calls Try.prog 14 #[v, .int .i64 left] w fun e w' => e = .returned (.int .i64 (lft left (sizWorld m))) ∧ Below w.heap.size w w' := by
  have hb0 : ∀ o, Below w.heap.size w (w.alloc o) := fun o => (Below.refl _ _).alloc (Nat.le_refl _) o
  obtain ⟨dv, sv, lv, ev, wv, nv, rv, tv, rfl, h0, h1, h2, h3, h4, h5, h6, h7⟩ := h
  have C0 := dHide fun (q : Int) (q0 : 0 ≤ q) (q1 : q ≤ 1048576) W (hb : Below w.heap.size w W) => szConfig_ (.agg #[dv, .int .i64 m.cfg.2]) m.cfg q q0 q1 W ⟨_, rfl, h0.below hb⟩
  have C1 := dHide fun (q : Int) (q0 : 0 ≤ q) (q1 : q ≤ 1048576) W (hb : Below w.heap.size w W) => szStoreS_ (sv) m.stores q q0 q1 ht.1 W (h1.below hb)
  have C2 := dHide fun (q : Int) (q0 : 0 ≤ q) (q1 : q ≤ 1048576) W (hb : Below w.heap.size w W) => szIntS_w (lv) m.lost q q0 q1 W (h2.below hb)
  have C3 := dHide fun (q : Int) (q0 : 0 ≤ q) (q1 : q ≤ 1048576) W (hb : Below w.heap.size w W) => szRegister_ (.agg #[ev, .int .i64 m.reg.trim]) m.reg q q0 q1 W ⟨_, rfl, RdK.below h3 hb⟩
  have C4 := dHide fun (q : Int) (q0 : 0 ≤ q) (q1 : q ≤ 1048576) W (hb : Below w.heap.size w W) => szWriterS_ (wv) m.writers q q0 q1 ht.2.1 W (h4.below hb)
  have C5 := dHide fun (q : Int) (q0 : 0 ≤ q) (q1 : q ≤ 1048576) W (hb : Below w.heap.size w W) => szMendS_ (nv) m.mends q q0 q1 ht.2.2.1 W (h5.below hb)
  have C6 := dHide fun (q : Int) (q0 : 0 ≤ q) (q1 : q ≤ 1048576) W (hb : Below w.heap.size w W) => szReaderS_ (rv) m.readers q q0 q1 ht.2.2.2.1 W (h6.below hb)
  have C7 := dHide fun (q : Int) (q0 : 0 ≤ q) (q1 : q ≤ 1048576) W (hb : Below w.heap.size w W) => szSentS_ (tv) m.sent q q0 q1 ht.2.2.2.2 W (h7.below hb)
  obtain ⟨zd, da, dc, rfl, -, -⟩ := h0
  obtain ⟨sa, sc, rfl, zs⟩ := formStoreS h1
  obtain ⟨zl, la, lc, rfl, -, -⟩ := h2
  obtain ⟨ea, ec, rfl, ze⟩ := formK h3
  obtain ⟨wa, wc, rfl, zw⟩ := formD h4
  obtain ⟨na, nc, rfl, zn⟩ := formD h5
  obtain ⟨ra, rc, rfl, zr⟩ := formD h6
  obtain ⟨ta, tc, rfl, zt⟩ := formSentS h7
  have e0 : sizWorld m = sizConfig m.cfg + (sizStoreS m.stores + (sizIntS m.lost + (sizRegister m.reg + (sizWriterS m.writers + (sizMendS m.mends + (sizReaderS m.readers + (sizSentS m.sent))))))) := rfl
  rw [e0]
  clear e0 ht h1 h3 h4 h5 h6 h7
  generalize sizConfig m.cfg = n0 at *
  generalize sizStoreS m.stores = n1 at *
  generalize sizIntS m.lost = n2 at *
  generalize sizRegister m.reg = n3 at *
  generalize sizWriterS m.writers = n4 at *
  generalize sizMendS m.mends = n5 at *
  generalize sizReaderS m.readers = n6 at *
  generalize sizSentS m.sent = n7 at *
  generalize m.cfg.1.length = gd at *
  generalize m.stores.length = gs at *
  generalize m.lost.length = gl at *
  generalize m.reg.eras.length = ge at *
  generalize m.writers.length = gw at *
  generalize m.mends.length = gn at *
  generalize m.readers.length = gr at *
  generalize m.sent.length = gt at *
  generalize m.cfg.2 = f1 at *
  generalize m.reg.trim = f5 at *
  generalize m.torn = f10 at *
  have T0 := Bx.new w [.slice da gd dc, .int .i64 f1, .slice sa gs sc, .slice la gl lc, .slice ea ge ec, .int .i64 f5, .slice wa gw wc, .slice na gn nc, .slice ra gr rc, .slice ta gt tc, .bool f10] 54
  have B0 := hb0 (.cells #[.slice da gd dc, .int .i64 f1, .slice sa gs sc, .slice la gl lc, .slice ea ge ec, .int .i64 f5, .slice wa gw wc, .slice na gn nc, .slice ra gr rc, .slice ta gt tc, .bool f10] 54)
  have LN : Hid (left < ((n0 + (n1 + (n2 + (n3 + (n4 + (n5 + (n6 + (n7))))))) : Nat) : Int) → lft left (n0 + (n1 + (n2 + (n3 + (n4 + (n5 + (n6 + (n7)))))))) = -1) := lft_no
  have LY : Hid (¬ left < ((n0 + (n1 + (n2 + (n3 + (n4 + (n5 + (n6 + (n7))))))) : Nat) : Int) → lft left (n0 + (n1 + (n2 + (n3 + (n4 + (n5 + (n6 + (n7)))))))) = left - ((n0 + (n1 + (n2 + (n3 + (n4 + (n5 + (n6 + (n7))))))) : Nat) : Int)) := lft_yes
  generalize lft left (n0 + (n1 + (n2 + (n3 + (n4 + (n5 + (n6 + (n7)))))))) = M at *
  go_enter Try.func14, Try.ntmps14
  go_wp2_with fail
  generalize w.alloc (.cells #[.slice da gd dc, .int .i64 f1, .slice sa gs sc, .slice la gl lc, .slice ea ge ec, .int .i64 f5, .slice wa gw wc, .slice na gn nc, .slice ra gr rc, .slice ta gt tc, .bool f10] 54) = w0 at *
  refine (dUnhide C0 left l0 l1 _ B0).mono ?_
  rintro r w1 ⟨rfl, b1⟩
  have B1 := belowThen B0 b1
  have T1 := T0.below b1
  clear b1 C0 T0 B0
  by_cases d0 : left < (n0 : Int)
  · have eM := dUnhide LN (by omega)
    subst eM
    rw [lft_no d0]
    clear C1 C2 C3 C4 C5 C6 C7 T1 LN LY
    go_wp2
    go_ret
    exact ⟨rfl, B1⟩
  rw [lft_yes d0]
  obtain ⟨q0, hq0⟩ : ∃ x : Int, x = left - (n0 : Int) := ⟨_, rfl⟩
  rw [← hq0]
  have y0 : 0 ≤ q0 := by omega
  have x0 : q0 ≤ 1048576 := by omega
  have u0 : ¬ q0 < 0 := by omega
  have E0 := dHide hq0
  clear d0 hq0
  have k2 := T1 2 _ rfl
  go_wp2_with fail
  refine (dUnhide C1 q0 y0 x0 _ B1).mono ?_
  rintro r w2 ⟨rfl, b2⟩
  have B2 := belowThen B1 b2
  have T2 := T1.below b2
  clear k2
  clear b2 C1 T1 B1
  by_cases d1 : q0 < (n1 : Int)
  · have eM := dUnhide LN (by have := dUnhide E0; omega)
    subst eM
    rw [lft_no d1]
    clear C2 C3 C4 C5 C6 C7 T2 LN LY E0
    go_wp2
    go_ret
    exact ⟨rfl, B2⟩
  rw [lft_yes d1]
  obtain ⟨q1, hq1⟩ : ∃ x : Int, x = q0 - (n1 : Int) := ⟨_, rfl⟩
  rw [← hq1]
  have y1 : 0 ≤ q1 := by omega
  have x1 : q1 ≤ 1048576 := by omega
  have u1 : ¬ q1 < 0 := by omega
  have E1 := dHide hq1
  clear d1 hq1
  have k3 := T2 3 _ rfl
  go_wp2_with fail
  refine (dUnhide C2 q1 y1 x1 _ B2).mono ?_
  rintro r w3 ⟨rfl, b3⟩
  have B3 := belowThen B2 b3
  have T3 := T2.below b3
  clear k3
  clear b3 C2 T2 B2
  by_cases d2 : q1 < (n2 : Int)
  · have eM := dUnhide LN (by have := dUnhide E0; have := dUnhide E1; omega)
    subst eM
    rw [lft_no d2]
    clear C3 C4 C5 C6 C7 T3 LN LY E0 E1
    go_wp2
    go_ret
    exact ⟨rfl, B3⟩
  rw [lft_yes d2]
  obtain ⟨q2, hq2⟩ : ∃ x : Int, x = q1 - (n2 : Int) := ⟨_, rfl⟩
  rw [← hq2]
  have y2 : 0 ≤ q2 := by omega
  have x2 : q2 ≤ 1048576 := by omega
  have u2 : ¬ q2 < 0 := by omega
  have E2 := dHide hq2
  clear d2 hq2
  have k4 := T3 4 _ rfl
  have k5 := T3 5 _ rfl
  go_wp2_with fail
  refine (dUnhide C3 q2 y2 x2 _ B3).mono ?_
  rintro r w4 ⟨rfl, b4⟩
  have B4 := belowThen B3 b4
  have T4 := T3.below b4
  clear k4
  clear k5
  clear b4 C3 T3 B3
  by_cases d3 : q2 < (n3 : Int)
  · have eM := dUnhide LN (by have := dUnhide E0; have := dUnhide E1; have := dUnhide E2; omega)
    subst eM
    rw [lft_no d3]
    clear C4 C5 C6 C7 T4 LN LY E0 E1 E2
    go_wp2
    go_ret
    exact ⟨rfl, B4⟩
  rw [lft_yes d3]
  obtain ⟨q3, hq3⟩ : ∃ x : Int, x = q2 - (n3 : Int) := ⟨_, rfl⟩
  rw [← hq3]
  have y3 : 0 ≤ q3 := by omega
  have x3 : q3 ≤ 1048576 := by omega
  have u3 : ¬ q3 < 0 := by omega
  have E3 := dHide hq3
  clear d3 hq3
  have k6 := T4 6 _ rfl
  go_wp2_with fail
  refine (dUnhide C4 q3 y3 x3 _ B4).mono ?_
  rintro r w5 ⟨rfl, b5⟩
  have B5 := belowThen B4 b5
  have T5 := T4.below b5
  clear k6
  clear b5 C4 T4 B4
  by_cases d4 : q3 < (n4 : Int)
  · have eM := dUnhide LN (by have := dUnhide E0; have := dUnhide E1; have := dUnhide E2; have := dUnhide E3; omega)
    subst eM
    rw [lft_no d4]
    clear C5 C6 C7 T5 LN LY E0 E1 E2 E3
    go_wp2
    go_ret
    exact ⟨rfl, B5⟩
  rw [lft_yes d4]
  obtain ⟨q4, hq4⟩ : ∃ x : Int, x = q3 - (n4 : Int) := ⟨_, rfl⟩
  rw [← hq4]
  have y4 : 0 ≤ q4 := by omega
  have x4 : q4 ≤ 1048576 := by omega
  have u4 : ¬ q4 < 0 := by omega
  have E4 := dHide hq4
  clear d4 hq4
  have k7 := T5 7 _ rfl
  go_wp2_with fail
  refine (dUnhide C5 q4 y4 x4 _ B5).mono ?_
  rintro r w6 ⟨rfl, b6⟩
  have B6 := belowThen B5 b6
  have T6 := T5.below b6
  clear k7
  clear b6 C5 T5 B5
  by_cases d5 : q4 < (n5 : Int)
  · have eM := dUnhide LN (by have := dUnhide E0; have := dUnhide E1; have := dUnhide E2; have := dUnhide E3; have := dUnhide E4; omega)
    subst eM
    rw [lft_no d5]
    clear C6 C7 T6 LN LY E0 E1 E2 E3 E4
    go_wp2
    go_ret
    exact ⟨rfl, B6⟩
  rw [lft_yes d5]
  obtain ⟨q5, hq5⟩ : ∃ x : Int, x = q4 - (n5 : Int) := ⟨_, rfl⟩
  rw [← hq5]
  have y5 : 0 ≤ q5 := by omega
  have x5 : q5 ≤ 1048576 := by omega
  have u5 : ¬ q5 < 0 := by omega
  have E5 := dHide hq5
  clear d5 hq5
  have k8 := T6 8 _ rfl
  go_wp2_with fail
  refine (dUnhide C6 q5 y5 x5 _ B6).mono ?_
  rintro r w7 ⟨rfl, b7⟩
  have B7 := belowThen B6 b7
  have T7 := T6.below b7
  clear k8
  clear b7 C6 T6 B6
  by_cases d6 : q5 < (n6 : Int)
  · have eM := dUnhide LN (by have := dUnhide E0; have := dUnhide E1; have := dUnhide E2; have := dUnhide E3; have := dUnhide E4; have := dUnhide E5; omega)
    subst eM
    rw [lft_no d6]
    clear C7 T7 LN LY E0 E1 E2 E3 E4 E5
    go_wp2
    go_ret
    exact ⟨rfl, B7⟩
  rw [lft_yes d6]
  obtain ⟨q6, hq6⟩ : ∃ x : Int, x = q5 - (n6 : Int) := ⟨_, rfl⟩
  rw [← hq6]
  have y6 : 0 ≤ q6 := by omega
  have x6 : q6 ≤ 1048576 := by omega
  have u6 : ¬ q6 < 0 := by omega
  have E6 := dHide hq6
  clear d6 hq6
  have k9 := T7 9 _ rfl
  go_wp2_with fail
  refine (dUnhide C7 q6 y6 x6 _ B7).mono ?_
  rintro r w8 ⟨rfl, b8⟩
  have B8 := belowThen B7 b8
  have T8 := T7.below b8
  clear k9
  clear b8 C7 T7 B7
  by_cases d7 : q6 < (n7 : Int)
  · have eM := dUnhide LN (by have := dUnhide E0; have := dUnhide E1; have := dUnhide E2; have := dUnhide E3; have := dUnhide E4; have := dUnhide E5; have := dUnhide E6; omega)
    subst eM
    rw [lft_no d7]
    clear  T8 LN LY E0 E1 E2 E3 E4 E5 E6
    go_wp2
    go_ret
    exact ⟨rfl, B8⟩
  rw [lft_yes d7]
  obtain ⟨q7, hq7⟩ : ∃ x : Int, x = q6 - (n7 : Int) := ⟨_, rfl⟩
  rw [← hq7]
  have y7 : 0 ≤ q7 := by omega
  have x7 : q7 ≤ 1048576 := by omega
  have u7 : ¬ q7 < 0 := by omega
  have E7 := dHide hq7
  clear d7 hq7
  have eM : M = q7 := by have := dUnhide E0; have := dUnhide E1; have := dUnhide E2; have := dUnhide E3; have := dUnhide E4; have := dUnhide E5; have := dUnhide E6; have := dUnhide E7; rw [dUnhide LY (by omega)]; omega
  subst eM
  clear E0 E1 E2 E3 E4 E5 E6 E7 LN LY T8
  go_wp2
  go_ret
  exact ⟨rfl, B8⟩
end Go.Proofs.Ytnogallomdckiaa
