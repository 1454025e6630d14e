/- The walks of the laws FnExactEntryOk, FnExactBetter: each returns true at every argument, and writes nothing that was there. -/
import Derived.Test.YtcjchbapeoeaeaaEntC
import Derived.Test.YtcjchbapeoeaeaaFourP
import Derived.Test.YtcjchbapeoeaeaaEntD
import Derived.Test.YtcjchbapeoeaeaaEntO
import Derived.Test.YtcjchbapeoeaeaaImplC
import Derived.Deep.RegionHeld3
import Derived.Deep.DeepCutAuto
namespace Go.Proofs.Ytcjchbapeoeaeaa
open Go.ChangeShapes Go.WideShapes Go.ChangeAt Go.RowKit
set_option linter.unusedVariables false

/-- The same answer of spec and impl. -/
theorem entOk_both (e : Ent) (hf : e.fits) : ∃ b : Bool, (∀ w, Calls Try.prog 12 #[e.val] w fun r w' => r = .returned (.bool b) ∧ Below w.heap.size w w') ∧ (∀ w, Calls Try.prog 13 #[e.val] w fun r w' => r = .returned (.bool b) ∧ Below w.heap.size w w') := by
  by_cases h : entP e
  · exact ⟨true, specEntOk_yes e h, implEntOk_yes e hf h⟩
  · exact ⟨false, specEntOk_no e hf h, implEntOk_no e hf h⟩
set_option maxHeartbeats 2000000 in
theorem walkFnExactEntryOk (v : Value) (e : Ent) (w : World) (i : v = e.val ∧ e.fits) :
    Calls Try.prog 5 #[v] w fun r w' => r = .returned (.bool true) ∧ Below w.heap.size w w' := by
  obtain ⟨rfl, hf⟩ := i
  have CS := dHide (szEntry_any e 1048576 (by omega) (by omega) hf.2.2.2.2)
  have CT := dHide (toEntry_any e)
  obtain ⟨b, h1, h2⟩ := entOk_both e hf
  have C1 := dHide h1
  have C2 := dHide h2
  clear h1 h2
  obtain ⟨x, wv, ho, d⟩ := e
  have hsz : d.size ≤ 9223372036854775807 := hf.2.2.2.2
  clear hf
  simp only [Ent.val] at *
  have hb0 : ∀ o, Below w.heap.size w (w.alloc o) := fun o => (Below.refl _ _).alloc (Nat.le_refl _) o
  by_cases hs : (1048576 : Int) < (d.size : Int)
  · rw [if_pos hs] at CS
    clear hs
    go_enter Try.func5, Try.ntmps5
    go_wp2_with fail
    refine (dUnhide CS _).mono ?_
    rintro e w1 ⟨rfl, b1⟩
    have hbe := belowThen (hb0 _) b1
    clear b1 hb0
    go_wp2
    go_ret
    exact ⟨rfl, hbe⟩
  · rw [if_neg hs] at CS
    have hs' : ¬ ((1048576 : Int) - (d.size : Int) < 0) := by omega
    go_enter Try.func5, Try.ntmps5
    go_wp2_with fail
    have F0 := Four.new w (.int .i64 x) (.int .i64 wv) (.bool ho) (.string d) 38
    refine (dUnhide CS _).mono ?_
    rintro e w1 ⟨rfl, b1⟩
    have F1 := F0.kept b1
    have B1 := belowThen (hb0 _) b1
    have H1 := dHide F1
    obtain ⟨k0, k1, k2, k3⟩ := F1
    clear F0 b1 hb0 CS
    go_wp2_with fail
    refine (dUnhide CT _).mono ?_
    rintro e w2 ⟨rfl, b2⟩
    have H2 := dHide ((dUnhide H1).kept b2)
    have B2 := belowThen B1 b2
    clear k0 k1 k2 k3 H1 B1 b2
    go_wp2_with fail
    refine (dUnhide C1 _).mono ?_
    rintro e w3 ⟨rfl, b3⟩
    have F3 := (dUnhide H2).kept b3
    have H3 := dHide F3
    obtain ⟨k0, k1, k2, k3⟩ := F3
    have B3 := belowThen B2 b3
    clear H2 B2 b3
    go_wp2_with fail
    refine (dUnhide CT _).mono ?_
    rintro e w4 ⟨rfl, b4⟩
    have B4 := belowThen B3 b4
    clear k0 k1 k2 k3 H3 B3 b4
    go_wp2_with fail
    refine (dUnhide C2 _).mono ?_
    rintro e w5 ⟨rfl, b5⟩
    have B5 := belowThen B4 b5
    clear B4 b5 C1 C2 CT
    cases b
    · go_wp2
      go_ret
      exact ⟨rfl, B5⟩
    · go_wp2
      go_ret
      exact ⟨rfl, B5⟩
set_option maxHeartbeats 2000000 in
theorem walkFnExactBetter (v v' : Value) (e e' : Ent) (w : World) (i : v = e.val ∧ e.fits) (i' : v' = e'.val ∧ e'.fits) :
    Calls Try.prog 8 #[v, v'] w fun r w' => r = .returned (.bool true) ∧ Below w.heap.size w w' := by
  obtain ⟨rfl, hf⟩ := i
  obtain ⟨rfl, hf'⟩ := i'
  have CS := dHide (szEntry_any e 1048576 (by omega) (by omega) hf.2.2.2.2)
  have CS' := dHide fun left l0 l1 => szEntry_any e' left l0 l1 hf'.2.2.2.2
  have CT := dHide (toEntry_any e)
  have CT' := dHide (toEntry_any e')
  have C1 := dHide (specBetter_any e e')
  have C2 := dHide (implBetter_any e e')
  have CE := dHide (eqEntry_same (better e e'))
  generalize better e e' = m at *
  obtain ⟨x, wv, ho, d⟩ := e
  obtain ⟨x', wv', ho', d'⟩ := e'
  obtain ⟨mx, mw, mh, md⟩ := m
  have hsz : d.size ≤ 9223372036854775807 := hf.2.2.2.2
  have hsz' : d'.size ≤ 9223372036854775807 := hf'.2.2.2.2
  clear hf hf'
  simp only [Ent.val] at *
  have hb0 : ∀ o o', Below w.heap.size w ((w.alloc o).alloc o') := fun o o' => ((Below.refl _ _).alloc (Nat.le_refl _) o).alloc (by simp) o'
  by_cases hs : (1048576 : Int) < (d.size : Int)
  · rw [if_pos hs] at CS
    clear hs
    go_enter Try.func8, Try.ntmps8
    go_wp2_with fail
    refine (dUnhide CS _).mono ?_
    rintro e w1 ⟨rfl, b1⟩
    have hbe := belowThen (hb0 _ _) b1
    clear b1 hb0
    go_wp2
    go_ret
    exact ⟨rfl, hbe⟩
  · rw [if_neg hs] at CS
    have hs1 : ¬ ((1048576 : Int) - (d.size : Int) < 0) := by omega
    have CS' := dHide (dUnhide CS' (1048576 - (d.size : Int)) (by omega) (by omega))
    go_enter Try.func8, Try.ntmps8
    go_wp2_with fail
    have F0 : Four ((w.alloc (.cells #[.int .i64 x, .int .i64 wv, .bool ho, .string d] 38)).alloc (.cells #[.int .i64 x', .int .i64 wv', .bool ho', .string d'] 38)) w.heap.size (.int .i64 x) (.int .i64 wv) (.bool ho) (.string d) := (Four.new w _ _ _ _ _).kept ((Below.refl _ _).alloc (Nat.le_refl _) _)
    have G0 : Four ((w.alloc (.cells #[.int .i64 x, .int .i64 wv, .bool ho, .string d] 38)).alloc (.cells #[.int .i64 x', .int .i64 wv', .bool ho', .string d'] 38)) (w.heap.size + 1) (.int .i64 x') (.int .i64 wv') (.bool ho') (.string d') := by
      have := Four.new (w.alloc (.cells #[.int .i64 x, .int .i64 wv, .bool ho, .string d] 38)) (.int .i64 x') (.int .i64 wv') (.bool ho') (.string d') 38
      simpa using this
    refine (dUnhide CS _).mono ?_
    rintro e w1 ⟨rfl, b1⟩
    have H1 := dHide (F0.kept b1)
    have G1 := G0.kept b1
    have I1 := dHide G1
    have B1 := belowThen (hb0 _ _) b1
    obtain ⟨k0, k1, k2, k3⟩ := G1
    clear F0 G0 b1 hb0 CS
    by_cases ht : (1048576 : Int) - (d.size : Int) < (d'.size : Int)
    · rw [if_pos ht] at CS'
      go_wp2_with fail
      refine (dUnhide CS' _).mono ?_
      rintro e w2 ⟨rfl, b2⟩
      have B2 := belowThen B1 b2
      clear k0 k1 k2 k3 H1 I1 B1 b2
      go_wp2
      go_ret
      exact ⟨rfl, B2⟩
    · rw [if_neg ht] at CS'
      have ht1 : ¬ ((1048576 : Int) - (d.size : Int) - (d'.size : Int) < 0) := by omega
      go_wp2_with fail
      refine (dUnhide CS' _).mono ?_
      rintro e w2 ⟨rfl, b2⟩
      have F2 := (dUnhide H1).kept b2
      have H2 := dHide F2
      have I2 := dHide ((dUnhide I1).kept b2)
      have B2 := belowThen B1 b2
      obtain ⟨k0, k1, k2, k3⟩ := F2
      clear H1 I1 B1 b2
      go_wp2_with fail
      clear k0 k1 k2 k3
      have hC : ∀ W, Below w2.heap.size w2 W → W.cell? ⟨w.heap.size, 0, none⟩ = some (.int .i64 x) ∧ W.cell? ⟨w.heap.size, 1, none⟩ = some (.int .i64 wv) ∧ W.cell? ⟨w.heap.size, 2, none⟩ = some (.bool ho) ∧ W.cell? ⟨w.heap.size, 3, none⟩ = some (.string d) ∧ W.cell? ⟨w.heap.size + 1, 0, none⟩ = some (.int .i64 x') ∧ W.cell? ⟨w.heap.size + 1, 1, none⟩ = some (.int .i64 wv') ∧ W.cell? ⟨w.heap.size + 1, 2, none⟩ = some (.bool ho') ∧ W.cell? ⟨w.heap.size + 1, 3, none⟩ = some (.string d') := fun W hb =>
        have a := (dUnhide H2).kept hb
        ⟨a.1, a.2.1, a.2.2.1, a.2.2.2, (dUnhide I2).kept hb⟩
      have HC := dHide hC
      have hbr := Below.refl w2.heap.size w2
      obtain ⟨k0, k1, k2, k3, q0, q1, q2, q3⟩ := hC w2 hbr
      clear hC
      go_cut [6] (fun sv wx => ∃ bv, sv = .pointer (some ⟨bv, 0, none⟩) ∧ Four wx bv (.int .i64 mx) (.int .i64 mw) (.bool mh) (.string md) ∧ Below w2.heap.size w2 wx)
      case first =>
        go_region_held3 (fun W => W.cell? ⟨w.heap.size, 0, none⟩ = some (.int .i64 x) ∧ W.cell? ⟨w.heap.size, 1, none⟩ = some (.int .i64 wv) ∧ W.cell? ⟨w.heap.size, 2, none⟩ = some (.bool ho) ∧ W.cell? ⟨w.heap.size, 3, none⟩ = some (.string d) ∧ W.cell? ⟨w.heap.size + 1, 0, none⟩ = some (.int .i64 x') ∧ W.cell? ⟨w.heap.size + 1, 1, none⟩ = some (.int .i64 wv') ∧ W.cell? ⟨w.heap.size + 1, 2, none⟩ = some (.bool ho') ∧ W.cell? ⟨w.heap.size + 1, 3, none⟩ = some (.string d')) (first | exact dUnhide HC _ (zz.below hb5 _ _ _ _) | go_keep)
          (first
            | (go_at_call_of 22 (Value.string d); refine (dUnhide CT _).mono ?_; rintro e w3 ⟨rfl, b3⟩; have hb3 := belowThen (by first | exact hbr.drew | exact hbr.drew.alloc hbr.size _) b3; obtain ⟨k0, k1, k2, k3, q0, q1, q2, q3⟩ := dUnhide HC w3 hb3; (first | have zz := FourZ.newD hbr.size b3 | have zz : FourZ w3 w2.heap.size w2.heap.size _ _ _ _ := FourZ.new hbr.size b3 | have zz := FourZ.kept zz b3 | skip); (try obtain ⟨zb, ⟨z0, z1, z2, z3⟩, y0, y1, y2, y3⟩ := id zz))
            | (go_at_call_of 22 (Value.string d'); refine (dUnhide CT' _).mono ?_; rintro e w4 ⟨rfl, b4⟩; have hb4 := belowThen (by first | exact hb3 | exact hb3.alloc hb3.size _) b4; obtain ⟨k0, k1, k2, k3, q0, q1, q2, q3⟩ := dUnhide HC w4 hb4; (first | have zz := FourZ.new hb3.size b4 | have zz := FourZ.kept zz b4 | skip); (try obtain ⟨zb, ⟨z0, z1, z2, z3⟩, y0, y1, y2, y3⟩ := id zz))
            | (go_at_call 20; refine (dUnhide C1 _).mono ?_; rintro e w5 ⟨rfl, b5⟩; have hb5 := belowThen (by first | exact hb4 | exact hb4.alloc hb4.size _) b5; obtain ⟨k0, k1, k2, k3, q0, q1, q2, q3⟩ := dUnhide HC w5 hb5; (first | have zz := FourZ.new hb4.size b5 | have zz := FourZ.kept zz b5 | skip); (try obtain ⟨zb, ⟨z0, z1, z2, z3⟩, y0, y1, y2, y3⟩ := id zz)))
        all_goals
          go_wp2_with fail
          go_meet
          case rel => first | exact ⟨_, rfl, zz.set _ _ _ _, zz.below hb5 _ _ _ _⟩ | exact ⟨_, rfl, Four.new _ _ _ _ _ _, hb5.alloc hb5.size _⟩
      case rest =>
        obtain ⟨bs, rfl, m6, bc6⟩ := hcut
        have H3 := dHide ((dUnhide H2).kept bc6)
        have I3 := dHide ((dUnhide I2).kept bc6)
        have B3 := belowThen B2 bc6
        have M3 := dHide m6
        clear H2 I2 B2 bc6 m6 k0 k1 k2 k3 q0 q1 q2 q3 HC hbr
        generalize hwc : wc = w6 at *
        clear hwc
        go_wp2_with fail
        have hC : ∀ W, Below w6.heap.size w6 W → W.cell? ⟨w.heap.size, 0, none⟩ = some (.int .i64 x) ∧ W.cell? ⟨w.heap.size, 1, none⟩ = some (.int .i64 wv) ∧ W.cell? ⟨w.heap.size, 2, none⟩ = some (.bool ho) ∧ W.cell? ⟨w.heap.size, 3, none⟩ = some (.string d) ∧ W.cell? ⟨w.heap.size + 1, 0, none⟩ = some (.int .i64 x') ∧ W.cell? ⟨w.heap.size + 1, 1, none⟩ = some (.int .i64 wv') ∧ W.cell? ⟨w.heap.size + 1, 2, none⟩ = some (.bool ho') ∧ W.cell? ⟨w.heap.size + 1, 3, none⟩ = some (.string d') := fun W hb =>
          have a := (dUnhide H3).kept hb
          ⟨a.1, a.2.1, a.2.2.1, a.2.2.2, (dUnhide I3).kept hb⟩
        have HC := dHide hC
        have hbr := Below.refl w6.heap.size w6
        obtain ⟨k0, k1, k2, k3, q0, q1, q2, q3⟩ := hC w6 hbr
        clear hC
        go_cut [7] (fun sv wx => ∃ bv, sv = .pointer (some ⟨bv, 0, none⟩) ∧ Four wx bv (.int .i64 mx) (.int .i64 mw) (.bool mh) (.string md) ∧ Below w6.heap.size w6 wx)
        case first =>
          go_region_held3 (fun W => W.cell? ⟨w.heap.size, 0, none⟩ = some (.int .i64 x) ∧ W.cell? ⟨w.heap.size, 1, none⟩ = some (.int .i64 wv) ∧ W.cell? ⟨w.heap.size, 2, none⟩ = some (.bool ho) ∧ W.cell? ⟨w.heap.size, 3, none⟩ = some (.string d) ∧ W.cell? ⟨w.heap.size + 1, 0, none⟩ = some (.int .i64 x') ∧ W.cell? ⟨w.heap.size + 1, 1, none⟩ = some (.int .i64 wv') ∧ W.cell? ⟨w.heap.size + 1, 2, none⟩ = some (.bool ho') ∧ W.cell? ⟨w.heap.size + 1, 3, none⟩ = some (.string d')) (first | exact dUnhide HC _ (zz.below hb5 _ _ _ _) | go_keep)
            (first
              | (go_at_call_of 22 (Value.string d); refine (dUnhide CT _).mono ?_; rintro e w3 ⟨rfl, b3⟩; have hb3 := belowThen (by first | exact hbr.drew | exact hbr.drew.alloc hbr.size _) b3; obtain ⟨k0, k1, k2, k3, q0, q1, q2, q3⟩ := dUnhide HC w3 hb3; (first | have zz := FourZ.newD hbr.size b3 | have zz : FourZ w3 w6.heap.size w6.heap.size _ _ _ _ := FourZ.new hbr.size b3 | have zz := FourZ.kept zz b3 | skip); (try obtain ⟨zb, ⟨z0, z1, z2, z3⟩, y0, y1, y2, y3⟩ := id zz))
              | (go_at_call_of 22 (Value.string d'); refine (dUnhide CT' _).mono ?_; rintro e w4 ⟨rfl, b4⟩; have hb4 := belowThen (by first | exact hb3 | exact hb3.alloc hb3.size _) b4; obtain ⟨k0, k1, k2, k3, q0, q1, q2, q3⟩ := dUnhide HC w4 hb4; (first | have zz := FourZ.new hb3.size b4 | have zz := FourZ.kept zz b4 | skip); (try obtain ⟨zb, ⟨z0, z1, z2, z3⟩, y0, y1, y2, y3⟩ := id zz))
              | (go_at_call 19; refine (dUnhide C2 _).mono ?_; rintro e w5 ⟨rfl, b5⟩; have hb5 := belowThen (by first | exact hb4 | exact hb4.alloc hb4.size _) b5; obtain ⟨k0, k1, k2, k3, q0, q1, q2, q3⟩ := dUnhide HC w5 hb5; (first | have zz := FourZ.new hb4.size b5 | have zz := FourZ.kept zz b5 | skip); (try obtain ⟨zb, ⟨z0, z1, z2, z3⟩, y0, y1, y2, y3⟩ := id zz)))
          all_goals
            go_wp2_with fail
            go_meet
            case rel => first | exact ⟨_, rfl, zz.set _ _ _ _, zz.below hb5 _ _ _ _⟩ | exact ⟨_, rfl, Four.new _ _ _ _ _ _, hb5.alloc hb5.size _⟩
        case rest =>
          obtain ⟨bi, rfl, m7, bc7⟩ := hcut
          have B4 := belowThen B3 bc7
          obtain ⟨s0, s1, s2, s3⟩ := (dUnhide M3).kept bc7
          obtain ⟨i0, i1, i2, i3⟩ := m7
          clear H3 I3 B3 bc7 M3 k0 k1 k2 k3 q0 q1 q2 q3 HC hbr C1 C2 CT CT'
          go_wp2_with fail
          refine (dUnhide CE _).mono ?_
          rintro e w8 ⟨rfl, b8⟩
          have B5 := belowThen B4 b8
          clear B4 b8
          go_wp2
          go_ret
          exact ⟨rfl, B5⟩
end Go.Proofs.Ytcjchbapeoeaeaa
