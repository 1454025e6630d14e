/- The walk of the law FnClosed (printed by tools/mkl7c.py). -/
import Derived.Test.YtfipenjojgflmaaDoorClA
import Derived.Test.YtfipenjojgflmaaDoorRgQ
import Derived.Test.YtfipenjojgflmaaDoorImGi
import Derived.Test.YtfipenjojgflmaaDoorBigB
import Derived.Test.YtfipenjojgflmaaDoorGaA
namespace Go.Proofs.YtfipenjojgflmaaDoor
open Go.ChangeShapes Go.WideShapes Go.ChangeAt Go.RowKit
set_option linter.unusedVariables false
set_option linter.unusedSimpArgs false
set_option maxRecDepth 100000

set_option maxHeartbeats 8000000 in
theorem walkClosed (a0 : Option Addr) (len0 cap0 : Nat) (w : World) (hr : Row8 w a0 len0) (e0 e1 : Addr) (hS : Snt w e0 e1) :
    Calls Tryd.prog 4 #[.slice a0 len0 cap0] w fun e w' => e = .returned (.bool true) ∧ Below w.heap.size w w' := by
  have hlen := hr.1
  by_cases hbig : 1048576 < len0
  · have CB := dHide (big_yes a0 len0 cap0 hbig hlen)
    go_enter Tryd.func4, Tryd.ntmps4
    go_wp2_with fail
    refine (dUnhide CB _).mono ?_
    rintro e w1 ⟨rfl, rfl⟩
    go_wp2
    go_ret
    exact ⟨rfl, Below.refl _ _⟩
  have CB := dHide (big_no a0 len0 cap0 hbig)
  have CD := dHide fun W (hb : Below w.heap.size w W) => drawRegClose_any a0 len0 cap0 W (hr.below hb)
  have ba : ∀ (w : World) o, Below w.heap.size w (w.alloc o) := fun w o => (Below.refl _ _).alloc (Nat.le_refl _) o
  clear hbig hr
  go_enter Tryd.func4, Tryd.ntmps4
  go_wp2_with fail
  refine (dUnhide CB _).mono ?_
  rintro e w1 ⟨rfl, rfl⟩
  clear CB
  go_wp2_with fail
  refine (dUnhide CD _ (Below.refl _ _)).mono ?_
  rintro e w1 ⟨⟨cv, rv, ds, cop, m, by0, la0, rfl, ⟨⟨ca, cc, rfl, N1⟩, hdl, hdd, hcop, ⟨a, c, rfl⟩, R1, hf⟩, okb0, okl0⟩, B1⟩
  have okc : okConfig (ds, cop) := ⟨fun d hd => by have := hdd d hd; omega, by show -9223372036854775808 ≤ cop; omega, by show cop ≤ 9223372036854775807; omega⟩
  have hsc : sizConfig (ds, cop) ≤ 1048576 := by show ds.length ≤ 1048576; omega
  have bA := ba w1 (.cells #[.slice ca ds.length cc, .int .i64 cop] 26)
  have bB := ba (w1.alloc (.cells #[.slice ca ds.length cc, .int .i64 cop] 26)) (.cells #[.slice a m.eras.length c, .int .i64 m.trim] 29)
  have bb := belowThen bA bB
  have X2 := (Bx.new w1 [.slice ca ds.length cc, .int .i64 cop] 26).below bB
  have Y2 := Bx.new (w1.alloc (.cells #[.slice ca ds.length cc, .int .i64 cop] 26)) [.slice a m.eras.length c, .int .i64 m.trim] 29
  rw [show (w1.alloc (.cells #[.slice ca ds.length cc, .int .i64 cop] 26)).heap.size = w1.heap.size + 1 from by simp] at Y2
  have N2 := N1.below bb
  have R2 := R1.below bb
  have B2 := belowThen B1 bb
  clear bA bB N1 R1 B1 bb
  go_wp2_with fail
  generalize (w1.alloc (.cells #[.slice ca ds.length cc, .int .i64 cop] 26)).alloc (.cells #[.slice a m.eras.length c, .int .i64 m.trim] 29) = w2 at *
  generalize w1.heap.size = cb at *
  have CI0 := fun W (hb : Below w2.heap.size w2 W) => implRegOk_any (.agg #[.slice ca ds.length cc, .int .i64 cop]) _ (ds, cop) m W ⟨_, rfl, N2.below hb⟩ (R2.below hb) okc hf.ok hsc (hf.siz (by omega))
  have CS0 := fun W (hb : Below w2.heap.size w2 W) => specRegOk_any (.agg #[.slice ca ds.length cc, .int .i64 cop]) _ (ds, cop) m W ⟨_, rfl, N2.below hb⟩ (R2.below hb) hf.ok.2 (hf.siz (by omega))
  obtain ⟨bv, CI1, CS1⟩ : ∃ bv : Bool, (∀ W, Below w2.heap.size w2 W → Calls Tryd.prog 12 #[.agg #[.slice ca ds.length cc, .int .i64 cop], .agg #[.slice a m.eras.length c, .int .i64 m.trim]] W fun e w' => e = .returned (.bool bv) ∧ Below W.heap.size W w') ∧ ∀ W, Below w2.heap.size w2 W → Calls Tryd.prog 14 #[.agg #[.slice ca ds.length cc, .int .i64 cop], .agg #[.slice a m.eras.length c, .int .i64 m.trim]] W fun e w' => e = .returned (.bool bv) ∧ Below W.heap.size W w' := by
    by_cases hp : regP ds cop m
    · exact ⟨true, fun W hb => retB_yes (CI0 W hb) hp, fun W hb => retB_yes (CS0 W hb) hp⟩
    · exact ⟨false, fun W hb => retB_no (CI0 W hb) hp, fun W hb => retB_no (CS0 W hb) hp⟩
  replace CI1 := dHide CI1
  replace CS1 := dHide CS1
  have bd : Below w2.heap.size w2 w2.drew := (Below.refl _ _).drew
  have PC : Hid (∀ W, Below w2.heap.size w2 W → W.cell? ⟨cb, 0, none⟩ = some (.slice ca ds.length cc) ∧ W.cell? ⟨cb, 1, none⟩ = some (.int .i64 cop) ∧ W.cell? ⟨cb + 1, 0, none⟩ = some (.slice a m.eras.length c) ∧ W.cell? ⟨cb + 1, 1, none⟩ = some (.int .i64 m.trim)) := fun W hb => ⟨X2.below hb 0 _ rfl, X2.below hb 1 _ rfl, Y2.below hb 0 _ rfl, Y2.below hb 1 _ rfl⟩
  have pp := dUnhide PC w2 (Below.refl _ _)
  clear CI0 CS0 X2 Y2 R2 N2 okc hsc
  go_cut [33] (fun sv wx => sv = .bool false ∧ Below w2.heap.size w2 wx)
  case first =>
    go_region_held3 (fun W => W.cell? ⟨cb, 0, none⟩ = some (.slice ca ds.length cc) ∧ W.cell? ⟨cb, 1, none⟩ = some (.int .i64 cop) ∧ W.cell? ⟨cb + 1, 0, none⟩ = some (.slice a m.eras.length c) ∧ W.cell? ⟨cb + 1, 1, none⟩ = some (.int .i64 m.trim)) (first | exact pp6 | exact pp5 | exact pp | exact dUnhide PC _ bd | go_keep)
      (first
        | (go_at_call 12; refine (dUnhide CI1 _ bd).mono ?_; rintro e w5 ⟨rfl, b5⟩; have hb5 := belowThen bd b5; have pp5 := dUnhide PC w5 hb5)
        | (go_at_call 14; refine (dUnhide CS1 _ hb5).mono ?_; rintro e w6 ⟨rfl, b6⟩; have hb6 := belowThen hb5 b6; have pp6 := dUnhide PC w6 hb6))
    all_goals
      go_wp2_with fail
      go_meet
      case rel => exact ⟨by cases bv <;> rfl, hb6⟩
  case rest =>
    obtain ⟨rfl, b3⟩ := hcut
    generalize wc = w3 at *
    have B3 := belowThen B2 b3
    clear CI1 CS1 bd PC pp b3 B2 okb0 okl0 hf hdl hdd hcop
    have CD3 := dHide (dUnhide CD w3 B3)
    clear CD
    go_wp2_with fail
    refine (dUnhide CD3).mono ?_
    clear CD3
    rintro e w4 ⟨⟨cv, rv, ds', cop', m', x, y, rfl, ⟨⟨ca', cc', rfl, N1⟩, hdl, hdd, hcop, ⟨a', c', rfl⟩, R1, hf⟩, okx, oky⟩, B1⟩
    generalize ds' = ds at *
    generalize cop' = cop at *
    generalize m' = m at *
    generalize ca' = ca at *
    generalize cc' = cc at *
    generalize a' = a at *
    generalize c' = c at *
    have okc : okConfig (ds, cop) := ⟨fun d hd => by have := hdd d hd; omega, by show -9223372036854775808 ≤ cop; omega, by show cop ≤ 9223372036854775807; omega⟩
    have hsc : sizConfig (ds, cop) ≤ 1048576 := by show ds.length ≤ 1048576; omega
    have bA := ba w4 (.cells #[.slice ca ds.length cc, .int .i64 cop] 26)
    have bB := ba (w4.alloc (.cells #[.slice ca ds.length cc, .int .i64 cop] 26)) (.cells #[.slice a m.eras.length c, .int .i64 m.trim] 29)
    have bb := belowThen bA bB
    have X2 := (Bx.new w4 [.slice ca ds.length cc, .int .i64 cop] 26).below bB
    have Y2 := Bx.new (w4.alloc (.cells #[.slice ca ds.length cc, .int .i64 cop] 26)) [.slice a m.eras.length c, .int .i64 m.trim] 29
    rw [show (w4.alloc (.cells #[.slice ca ds.length cc, .int .i64 cop] 26)).heap.size = w4.heap.size + 1 from by simp] at Y2
    have N2 := N1.below bb
    have R2 := R1.below bb
    have B2 := belowThen B3 (belowThen B1 bb)
    have S2 := hS.below B2 (Nat.le_refl _)
    clear bA bB N1 R1 B1 bb B3
    go_wp2_with fail
    generalize (w4.alloc (.cells #[.slice ca ds.length cc, .int .i64 cop] 26)).alloc (.cells #[.slice a m.eras.length c, .int .i64 m.trim] 29) = w5 at *
    have C1 := implRegClose_any _ _ (ds, cop) m x y okx oky w5 e0 e1 S2 ⟨_, rfl, N2⟩ R2 okc hf.ok hsc (hf.siz (by omega))
    have C2 := fun W (hb : Below w5.heap.size w5 W) => specRegClose_any _ _ (ds, cop) m x y okx oky W ⟨_, rfl, N2.below hb⟩ (R2.below hb) hf.ok (hf.siz (by omega))
    have CO := fun W (hb : Below w5.heap.size w5 W) v' m' (hv : RdRegister v' m' W) ok hs => implRegOk_any (.agg #[.slice ca ds.length cc, .int .i64 cop]) v' (ds, cop) m' W ⟨_, rfl, N2.below hb⟩ hv okc ok hsc hs
    have TF : Hid ((closeM ds cop m x y).2 = false → (closeM ds cop m x y).1 = m ∨ (closeM ds cop m x y).1 = zeroRg) := close_false
    have TT : Hid ((closeM ds cop m x y).2 = true → ∃ k, ∃ hk : k + 1 < m.eras.length, firstO m.eras = k + 1 ∧ x = (m.eras.length : Int) ∧ (closeM ds cop m x y).1 = ⟨closeE m.eras k y, m.trim⟩ ∧ regP ds cop ⟨closeE m.eras k y, m.trim⟩ ∧ firstO (closeE m.eras k y) = k + 2) := close_done
    simp only at C1 C2 CO
    generalize closeM ds cop m x y = T at *
    obtain ⟨n, nb⟩ := T
    simp only at *
    replace C1 := dHide C1
    replace C2 := dHide C2
    replace CO := dHide CO
    refine (dUnhide C1).mono ?_
    rintro e w6 ⟨⟨u3, rfl, O3⟩, b3⟩
    obtain ⟨a3, c3, rfl, P3⟩ := O3.shape
    have bC := ba w6 (.cells #[.slice a3 n.eras.length c3, .int .i64 n.trim] 29)
    have b4 := belowThen b3 bC
    have X4 := X2.below b4
    have Y4 := Y2.below b4
    have Z4 := Bx.new w6 [.slice a3 n.eras.length c3, .int .i64 n.trim] 29
    have R4 := P3.rd.below bC
    have B4 := belowThen B2 b4
    have C24 := dHide (dUnhide C2 _ b4)
    have x0 := X4 0 _ rfl
    have x1 := X4 1 _ rfl
    have y0 := Y4 0 _ rfl
    have y1 := Y4 1 _ rfl
    clear C1 C2 O3 P3 X2 Y2 B2 b3 bC S2
    go_wp2_with fail
    generalize hnb : w6.heap.size = nx at *
    generalize w6.alloc (.cells #[.slice a3 n.eras.length c3, .int .i64 n.trim] 29) = w7 at *
    refine (dUnhide C24).mono ?_
    rintro e w8 ⟨⟨u5, rfl, O5⟩, b5⟩
    obtain ⟨a5, c5, rfl, -⟩ := O5.shape
    have bD := ba w8 (.cells #[.slice a5 n.eras.length c5, .int .i64 n.trim] 29)
    have b6 := belowThen b5 bD
    have b46 := belowThen b4 b6
    have X6 := X4.below b6
    have Y6 := Y4.below b6
    have Z6 := Z4.below b6
    have R6 := R4.below b6
    have B6 := belowThen B4 b6
    have RM := R2.below b46
    clear C24 O5 X4 Y4 Z4 R4 B4 b5 bD x0 x1 y0 y1 b6 b4 R2 N2
    have x0 := X6 0 _ rfl
    have x1 := X6 1 _ rfl
    have y0 := Y6 0 _ rfl
    have z0' := Z6 0 _ rfl
    cases nb
    · have hT := dUnhide TF rfl
      clear TF TT
      rcases hT with rfl | rfl
      · go_wp2
        go_ret
        exact ⟨rfl, B6⟩
      · have ez : zeroRg.eras.length = 0 := rfl
        have ez2 : zeroRg.trim = 0 := rfl
        simp only [ez, ez2] at *
        by_cases hs0 : m.eras.length = 0
        · simp only [hs0] at *
          go_wp2
          go_ret
          exact ⟨rfl, B6⟩
        · have hbn : ((0 : Int) == (m.eras.length : Int)) = false := by
            rw [beq_eq_false_iff_ne]
            omega
          go_wp2
          go_ret
          exact ⟨rfl, B6⟩
    obtain ⟨k, hk1, hf1, hx, hn, hreg, hf2⟩ := dUnhide TT rfl
    clear TF TT
    have hel : m.eras.length ≤ 1000 := by have := hf.1; omega
    have hfn : fitD 40 n := by rw [hn]; exact fitD_close (ds := ds) (cop := cop) (x := x) hf (by omega) oky
    have hnl : n.eras.length = m.eras.length := by rw [hn]; simp only [closeE_len]
    have hn1 : firstO n.eras = k + 2 := by rw [hn]; exact hf2
    have hreg' : regP ds cop n := by rw [hn]; exact hreg
    have HE : Hid (∀ i (hi : i < m.eras.length) (hi' : i < n.eras.length), n.eras[i].closed = (if i = k then true else m.eras[i].closed) ∧ (i = k → n.eras[i].last = y)) := fun i hi hi' => by
      have e9 : n.eras[i] = if i = k then ⟨(m.eras[k]'(by omega)).nodes, true, y⟩ else m.eras[i] := by
        simp only [hn]
        exact closeE_at (by omega) hi _
      rw [e9]
      by_cases e : i = k
      · rw [if_pos e, if_pos e]; exact ⟨rfl, fun _ => rfl⟩
      · rw [if_neg e, if_neg e]; exact ⟨rfl, fun h => absurd h e⟩
    have CF1 := dHide fun W (hb : Below (w8.alloc (.cells #[.slice a5 n.eras.length c5, .int .i64 n.trim] 29)).heap.size (w8.alloc (.cells #[.slice a5 n.eras.length c5, .int .i64 n.trim] 29)) W) => implFirst_any _ m W (RM.below hb) (by omega)
    have CF2 := dHide fun W (hb : Below (w8.alloc (.cells #[.slice a5 n.eras.length c5, .int .i64 n.trim] 29)).heap.size (w8.alloc (.cells #[.slice a5 n.eras.length c5, .int .i64 n.trim] 29)) W) => implFirst_any (.agg #[.slice a3 n.eras.length c3, .int .i64 n.trim]) n W ⟨_, rfl, RdK.below R6 hb⟩ (by omega)
    have CO6 := dHide fun W (hb : Below (w8.alloc (.cells #[.slice a5 n.eras.length c5, .int .i64 n.trim] 29)).heap.size (w8.alloc (.cells #[.slice a5 n.eras.length c5, .int .i64 n.trim] 29)) W) => retB_yes (dUnhide CO W (belowThen b46 hb) (.agg #[.slice a3 n.eras.length c3, .int .i64 n.trim]) n ⟨_, rfl, RdK.below R6 hb⟩ hfn.ok (hfn.siz (by omega))) hreg'
    rw [hf1] at CF1
    rw [hn1] at CF2
    have y1 := Y6 1 _ rfl
    have z1' := Z6 1 _ rfl
    have HNL := dHide hnl
    have HX0 := dHide hx
    clear CO hn hf1 hf2 hreg hreg' hn1 hfn hnl hx
    go_wp2_with fail
    generalize w8.alloc (.cells #[.slice a5 n.eras.length c5, .int .i64 n.trim] 29) = wa at *
    have hnl := dUnhide HNL
    have hx := dUnhide HX0
    refine (dUnhide CF1 _ (Below.refl _ _)).mono ?_
    rintro e wb ⟨rfl, bb⟩
    have BB := belowThen B6 bb
    have HX := dHide fun W (hb : Below wa.heap.size wa W) => X6.below hb
    have HY := dHide fun W (hb : Below wa.heap.size wa W) => Y6.below hb
    have HZ := dHide fun W (hb : Below wa.heap.size wa W) => Z6.below hb
    obtain ⟨sm, em, rm, hmm, hrm, -⟩ := RM
    cases em
    obtain ⟨rn, hmn, hrn, -⟩ := R6
    have HRM := dHide fun W (hb : Below wa.heap.size wa W) => hrm.below hb
    have HRN := dHide fun W (hb : Below wa.heap.size wa W) => hrn.below hb
    have lm : rm.length = m.eras.length := by rw [← hmm, List.length_map]
    have ln : rn.length = m.eras.length := by rw [← hnl, ← hmn, List.length_map]
    have HM : Hid (∀ i (h : i < rm.length) (h' : i < m.eras.length), rm[i].m = m.eras[i]) := fun i h h' => by simp only [← hmm, List.getElem_map]
    have HN : Hid (∀ i (h : i < rn.length) (h' : i < n.eras.length), rn[i].m = n.eras[i]) := fun i h h' => by simp only [← hmn, List.getElem_map]
    clear CF1 X6 Y6 Z6 hrm hrn hmm hmn x0 x1 y0 y1 z0' z1' b46
    have y0 := dUnhide HY wb bb 0 _ rfl
    rw [hnl] at HZ HRN CF2 CO6
    go_wp2
    go_loopw [16] (fun q wr => ∃ i : Nat, q = .int .i64 (i : Int) ∧ i ≤ m.eras.length ∧ Below wa.heap.size wa wr) (fun q _ => m.eras.length - (intOf q).toNat)
    case atStart => exact ⟨0, rfl, Nat.zero_le _, bb⟩
    case round =>
      obtain ⟨i, rfl, hi, hb⟩ := hrel
      clear y0
      have y0 := dUnhide HY wr hb 0 _ rfl
      have z0 := dUnhide HZ wr hb 0 _ rfl
      by_cases hlt : (i : Int) < (m.eras.length : Int)
      · have hil : i < m.eras.length := by omega
        obtain ⟨b, off, rfl, hce⟩ := (dUnhide HRM wr hb).era (show i < rm.length by omega)
        obtain ⟨b', off', rfl, hce'⟩ := (dUnhide HRN wr hb).era (show i < rn.length by omega)
        have c1 := (hce i (by omega)).2.1
        have c1' := (hce' i (by omega)).2.1
        rw [dUnhide HM i (by omega) hil] at c1
        rw [dUnhide HN i (by omega) (by omega), (dUnhide HE i hil (by omega)).1] at c1'
        generalize m.eras[i].closed = bm at *
        clear hce hce'
        have hwk : IntKind.i64.wrap (k : Int) = (k : Int) := by rw [IntKind.wrap_i64]; omega
        by_cases ek : i = k
        · have hgu : (((i : Nat) : Int) != ((k : Nat) : Int)) = false := by rw [ek]; simp
          clear c1 c1' ek HE HM HN
          go_wp2_with fail
          refine wp_region_noPanic ?_
          refine wp_region_held_drew (S := fun _ => True) (by kernel_rfl) (trivial) (fun hHeld => ?_)
          refine wpAnyH_take (i := 0) (oi := { dst := some 84, op := Op.move (Operand.tmp 16), type := 3, pos := "laws.go:583", after := #[], guard := none }) (v := ?_) rfl (by kernel_rfl) (by kernel_rfl) (by kernel_rfl) (fun _ _ _ h => h) (Or.inl ⟨by rfl, ?_⟩) (by assumption) ?_
          rotate_left 1
          · intro w hSw
            (try dsimp only at hSw)
            first | (go_simp; done) | (go_simp; with_reducible rfl)
          try simp only [Act.put, List.setIfInBounds_toArray, List.set_cons_zero, List.set_cons_succ]
          refine wpAnyH_take (i := 1) (oi := { dst := some 85, op := Op.move (Operand.tmp 15), type := 3, pos := "laws.go:583", after := #[], guard := none }) (v := ?_) rfl (by kernel_rfl) (by kernel_rfl) (by kernel_rfl) (fun _ _ _ h => h) (Or.inl ⟨by rfl, ?_⟩) (by assumption) ?_
          rotate_left 1
          · intro w hSw
            (try dsimp only at hSw)
            first | (go_simp; done) | (go_simp; with_reducible rfl)
          try simp only [Act.put, List.setIfInBounds_toArray, List.set_cons_zero, List.set_cons_succ]
          refine wpAnyH_take (i := 2) (oi := { dst := some 86, op := Op.binOp BinOp.sub 3 (Operand.tmp 85) (Operand.const (Value.int IntKind.i64 1)) 3, type := 3, pos := "laws.go:583", after := #[{ on := 1, ground := Ground.data }], guard := none }) (v := ?_) rfl (by kernel_rfl) (by kernel_rfl) (by kernel_rfl) (fun _ _ _ h => h) (Or.inl ⟨by rfl, ?_⟩) (by assumption) ?_
          rotate_left 1
          · intro w hSw
            (try dsimp only at hSw)
            first | (go_simp; done) | (go_simp; with_reducible rfl)
          try simp only [Act.put, List.setIfInBounds_toArray, List.set_cons_zero, List.set_cons_succ]
          refine wpAnyH_take (i := 3) (oi := { dst := some 87, op := Op.binOp BinOp.neq 3 (Operand.tmp 84) (Operand.tmp 86) 3, type := 4, pos := "laws.go:583", after := #[{ on := 0, ground := Ground.data }, { on := 2, ground := Ground.data }], guard := none }) (v := ?_) rfl (by kernel_rfl) (by kernel_rfl) (by kernel_rfl) (fun _ _ _ h => h) (Or.inl ⟨by rfl, ?_⟩) (by assumption) ?_
          rotate_left 1
          · intro w hSw
            (try dsimp only at hSw)
            first | (go_simp; done) | (go_simp; with_reducible rfl)
          try simp only [Act.put, List.setIfInBounds_toArray, List.set_cons_zero, List.set_cons_succ]
          refine wpAnyH_take (i := 4) (oi := { dst := some 88, op := Op.move (Operand.tmp 87), type := 4, pos := "laws.go:583", after := #[{ on := 3, ground := Ground.data }], guard := none }) (v := ?_) rfl (by kernel_rfl) (by kernel_rfl) (by kernel_rfl) (fun _ _ _ h => h) (Or.inl ⟨by rfl, ?_⟩) (by assumption) ?_
          rotate_left 1
          · intro w hSw
            (try dsimp only at hSw)
            first | (go_simp; done) | (go_simp; with_reducible rfl)
          try simp only [Act.put, List.setIfInBounds_toArray, List.set_cons_zero, List.set_cons_succ]
          refine wpAnyH_take (i := 5) (oi := { dst := some 89, op := Op.fieldAddr 29 (Operand.tmp 11) 0, type := 0, pos := "laws.go:583", after := #[{ on := 4, ground := Ground.guard }], guard := some (4, true) }) (v := undef) rfl (by kernel_rfl) (by kernel_rfl) (by kernel_rfl) (fun _ _ _ h => h) (Or.inr ⟨by rfl, rfl⟩) (by assumption) ?_
          try simp only [Act.put, List.setIfInBounds_toArray, List.set_cons_zero, List.set_cons_succ]
          refine wpAnyH_take (i := 6) (oi := { dst := some 90, op := Op.load 27 (Operand.tmp 89), type := 27, pos := "laws.go:583", after := #[{ on := 5, ground := Ground.data }, { on := 4, ground := Ground.guard }], guard := some (4, true) }) (v := undef) rfl (by kernel_rfl) (by kernel_rfl) (by kernel_rfl) (fun _ _ _ h => h) (Or.inr ⟨by rfl, rfl⟩) (by assumption) ?_
          try simp only [Act.put, List.setIfInBounds_toArray, List.set_cons_zero, List.set_cons_succ]
          refine wpAnyH_take (i := 7) (oi := { dst := some 91, op := Op.move (Operand.tmp 16), type := 3, pos := "laws.go:583", after := #[{ on := 4, ground := Ground.guard }], guard := some (4, true) }) (v := undef) rfl (by kernel_rfl) (by kernel_rfl) (by kernel_rfl) (fun _ _ _ h => h) (Or.inr ⟨by rfl, rfl⟩) (by assumption) ?_
          try simp only [Act.put, List.setIfInBounds_toArray, List.set_cons_zero, List.set_cons_succ]
          refine wpAnyH_take (i := 8) (oi := { dst := some 92, op := Op.indexAddr 27 (Operand.tmp 90) (Operand.tmp 91), type := 0, pos := "laws.go:583", after := #[{ on := 6, ground := Ground.data }, { on := 7, ground := Ground.data }, { on := 4, ground := Ground.guard }], guard := some (4, true) }) (v := undef) rfl (by kernel_rfl) (by kernel_rfl) (by kernel_rfl) (fun _ _ _ h => h) (Or.inr ⟨by rfl, rfl⟩) (by assumption) ?_
          try simp only [Act.put, List.setIfInBounds_toArray, List.set_cons_zero, List.set_cons_succ]
          refine wpAnyH_take (i := 9) (oi := { dst := some 93, op := Op.fieldAddr 37 (Operand.tmp 92) 1, type := 0, pos := "laws.go:583", after := #[{ on := 8, ground := Ground.data }, { on := 4, ground := Ground.guard }], guard := some (4, true) }) (v := undef) rfl (by kernel_rfl) (by kernel_rfl) (by kernel_rfl) (fun _ _ _ h => h) (Or.inr ⟨by rfl, rfl⟩) (by assumption) ?_
          try simp only [Act.put, List.setIfInBounds_toArray, List.set_cons_zero, List.set_cons_succ]
          refine wpAnyH_take (i := 10) (oi := { dst := some 94, op := Op.load 4 (Operand.tmp 93), type := 4, pos := "laws.go:583", after := #[{ on := 9, ground := Ground.data }, { on := 4, ground := Ground.guard }], guard := some (4, true) }) (v := undef) rfl (by kernel_rfl) (by kernel_rfl) (by kernel_rfl) (fun _ _ _ h => h) (Or.inr ⟨by rfl, rfl⟩) (by assumption) ?_
          try simp only [Act.put, List.setIfInBounds_toArray, List.set_cons_zero, List.set_cons_succ]
          refine wpAnyH_take (i := 11) (oi := { dst := some 95, op := Op.fieldAddr 29 (Operand.tmp 8) 0, type := 0, pos := "laws.go:583", after := #[{ on := 4, ground := Ground.guard }], guard := some (4, true) }) (v := undef) rfl (by kernel_rfl) (by kernel_rfl) (by kernel_rfl) (fun _ _ _ h => h) (Or.inr ⟨by rfl, rfl⟩) (by assumption) ?_
          try simp only [Act.put, List.setIfInBounds_toArray, List.set_cons_zero, List.set_cons_succ]
          refine wpAnyH_take (i := 12) (oi := { dst := some 96, op := Op.load 27 (Operand.tmp 95), type := 27, pos := "laws.go:583", after := #[{ on := 11, ground := Ground.data }, { on := 4, ground := Ground.guard }], guard := some (4, true) }) (v := undef) rfl (by kernel_rfl) (by kernel_rfl) (by kernel_rfl) (fun _ _ _ h => h) (Or.inr ⟨by rfl, rfl⟩) (by assumption) ?_
          try simp only [Act.put, List.setIfInBounds_toArray, List.set_cons_zero, List.set_cons_succ]
          refine wpAnyH_take (i := 13) (oi := { dst := some 97, op := Op.move (Operand.tmp 16), type := 3, pos := "laws.go:583", after := #[{ on := 4, ground := Ground.guard }], guard := some (4, true) }) (v := undef) rfl (by kernel_rfl) (by kernel_rfl) (by kernel_rfl) (fun _ _ _ h => h) (Or.inr ⟨by rfl, rfl⟩) (by assumption) ?_
          try simp only [Act.put, List.setIfInBounds_toArray, List.set_cons_zero, List.set_cons_succ]
          refine wpAnyH_take (i := 14) (oi := { dst := some 98, op := Op.indexAddr 27 (Operand.tmp 96) (Operand.tmp 97), type := 0, pos := "laws.go:583", after := #[{ on := 12, ground := Ground.data }, { on := 13, ground := Ground.data }, { on := 4, ground := Ground.guard }], guard := some (4, true) }) (v := undef) rfl (by kernel_rfl) (by kernel_rfl) (by kernel_rfl) (fun _ _ _ h => h) (Or.inr ⟨by rfl, rfl⟩) (by assumption) ?_
          try simp only [Act.put, List.setIfInBounds_toArray, List.set_cons_zero, List.set_cons_succ]
          refine wpAnyH_take (i := 15) (oi := { dst := some 99, op := Op.fieldAddr 37 (Operand.tmp 98) 1, type := 0, pos := "laws.go:583", after := #[{ on := 14, ground := Ground.data }, { on := 4, ground := Ground.guard }], guard := some (4, true) }) (v := undef) rfl (by kernel_rfl) (by kernel_rfl) (by kernel_rfl) (fun _ _ _ h => h) (Or.inr ⟨by rfl, rfl⟩) (by assumption) ?_
          try simp only [Act.put, List.setIfInBounds_toArray, List.set_cons_zero, List.set_cons_succ]
          refine wpAnyH_take (i := 16) (oi := { dst := some 100, op := Op.load 4 (Operand.tmp 99), type := 4, pos := "laws.go:583", after := #[{ on := 15, ground := Ground.data }, { on := 4, ground := Ground.guard }], guard := some (4, true) }) (v := undef) rfl (by kernel_rfl) (by kernel_rfl) (by kernel_rfl) (fun _ _ _ h => h) (Or.inr ⟨by rfl, rfl⟩) (by assumption) ?_
          try simp only [Act.put, List.setIfInBounds_toArray, List.set_cons_zero, List.set_cons_succ]
          refine wpAnyH_take (i := 17) (oi := { dst := some 101, op := Op.binOp BinOp.neq 4 (Operand.tmp 94) (Operand.tmp 100) 4, type := 4, pos := "laws.go:583", after := #[{ on := 10, ground := Ground.data }, { on := 16, ground := Ground.data }, { on := 4, ground := Ground.guard }], guard := some (4, true) }) (v := undef) rfl (by kernel_rfl) (by kernel_rfl) (by kernel_rfl) (fun _ _ _ h => h) (Or.inr ⟨by rfl, rfl⟩) (by assumption) ?_
          try simp only [Act.put, List.setIfInBounds_toArray, List.set_cons_zero, List.set_cons_succ]
          refine wpAnyH_take (i := 18) (oi := { dst := some 102, op := Op.pick (Operand.tmp 88) (Operand.tmp 101) (Operand.const (Value.bool false)), type := 4, pos := "laws.go:583", after := #[{ on := 4, ground := Ground.data }, { on := 17, ground := Ground.data }], guard := none }) (v := ?_) rfl (by kernel_rfl) (by kernel_rfl) (by kernel_rfl) (fun _ _ _ h => h) (Or.inl ⟨by rfl, ?_⟩) (by assumption) ?_
          rotate_left 1
          · intro w hSw
            (try dsimp only at hSw)
            first | (go_simp; done) | (go_simp; with_reducible rfl)
          try simp only [Act.put, List.setIfInBounds_toArray, List.set_cons_zero, List.set_cons_succ]
          refine wpAnyH_done (by kernel_rfl) ?_ _
          refine NoPanic.normal ?_
          (try simp only [Act.put, List.setIfInBounds_toArray, List.set_cons_zero, List.set_cons_succ])
          go_wp2
          go_roundw
          case rel => exact ⟨i + 1, by go_num, by omega, belowThen hb (Below.refl _ _).drew⟩
          case measure => simp [intOf]; omega
        · have hgu : (((i : Nat) : Int) != ((k : Nat) : Int)) = true := by
            rw [bne_iff_ne]
            omega
          rw [if_neg ek] at c1'
          have pS := And.intro z0 (And.intro y0 (And.intro c1' c1))
          clear ek HE HM HN
          go_wp2_with fail
          refine wp_region_noPanic ?_
          refine wp_region_held_drew (S := fun W => W.cell? ⟨nx, 0, none⟩ = some (.slice (some ⟨b', off', none⟩) m.eras.length c3) ∧ W.cell? ⟨w4.heap.size + 1, 0, none⟩ = some (.slice (some ⟨b, off, none⟩) m.eras.length c) ∧ W.cell? ⟨b', off' + i * 3 + 1, none⟩ = some (.bool bm) ∧ W.cell? ⟨b, off + i * 3 + 1, none⟩ = some (.bool bm)) (by kernel_rfl) (pS) (fun hHeld => ?_)
          refine wpAnyH_take (i := 0) (oi := { dst := some 84, op := Op.move (Operand.tmp 16), type := 3, pos := "laws.go:583", after := #[], guard := none }) (v := ?_) rfl (by kernel_rfl) (by kernel_rfl) (by kernel_rfl) (fun _ _ _ h => h) (Or.inl ⟨by rfl, ?_⟩) (by assumption) ?_
          rotate_left 1
          · intro w hSw
            (try dsimp only at hSw)
            first | (go_simp; done) | (go_simp; with_reducible rfl)
          try simp only [Act.put, List.setIfInBounds_toArray, List.set_cons_zero, List.set_cons_succ]
          refine wpAnyH_take (i := 1) (oi := { dst := some 85, op := Op.move (Operand.tmp 15), type := 3, pos := "laws.go:583", after := #[], guard := none }) (v := ?_) rfl (by kernel_rfl) (by kernel_rfl) (by kernel_rfl) (fun _ _ _ h => h) (Or.inl ⟨by rfl, ?_⟩) (by assumption) ?_
          rotate_left 1
          · intro w hSw
            (try dsimp only at hSw)
            first | (go_simp; done) | (go_simp; with_reducible rfl)
          try simp only [Act.put, List.setIfInBounds_toArray, List.set_cons_zero, List.set_cons_succ]
          refine wpAnyH_take (i := 2) (oi := { dst := some 86, op := Op.binOp BinOp.sub 3 (Operand.tmp 85) (Operand.const (Value.int IntKind.i64 1)) 3, type := 3, pos := "laws.go:583", after := #[{ on := 1, ground := Ground.data }], guard := none }) (v := ?_) rfl (by kernel_rfl) (by kernel_rfl) (by kernel_rfl) (fun _ _ _ h => h) (Or.inl ⟨by rfl, ?_⟩) (by assumption) ?_
          rotate_left 1
          · intro w hSw
            (try dsimp only at hSw)
            first | (go_simp; done) | (go_simp; with_reducible rfl)
          try simp only [Act.put, List.setIfInBounds_toArray, List.set_cons_zero, List.set_cons_succ]
          refine wpAnyH_take (i := 3) (oi := { dst := some 87, op := Op.binOp BinOp.neq 3 (Operand.tmp 84) (Operand.tmp 86) 3, type := 4, pos := "laws.go:583", after := #[{ on := 0, ground := Ground.data }, { on := 2, ground := Ground.data }], guard := none }) (v := ?_) rfl (by kernel_rfl) (by kernel_rfl) (by kernel_rfl) (fun _ _ _ h => h) (Or.inl ⟨by rfl, ?_⟩) (by assumption) ?_
          rotate_left 1
          · intro w hSw
            (try dsimp only at hSw)
            first | (go_simp; done) | (go_simp; with_reducible rfl)
          try simp only [Act.put, List.setIfInBounds_toArray, List.set_cons_zero, List.set_cons_succ]
          refine wpAnyH_take (i := 4) (oi := { dst := some 88, op := Op.move (Operand.tmp 87), type := 4, pos := "laws.go:583", after := #[{ on := 3, ground := Ground.data }], guard := none }) (v := ?_) rfl (by kernel_rfl) (by kernel_rfl) (by kernel_rfl) (fun _ _ _ h => h) (Or.inl ⟨by rfl, ?_⟩) (by assumption) ?_
          rotate_left 1
          · intro w hSw
            (try dsimp only at hSw)
            first | (go_simp; done) | (go_simp; with_reducible rfl)
          try simp only [Act.put, List.setIfInBounds_toArray, List.set_cons_zero, List.set_cons_succ]
          refine wpAnyH_take (i := 5) (oi := { dst := some 89, op := Op.fieldAddr 29 (Operand.tmp 11) 0, type := 0, pos := "laws.go:583", after := #[{ on := 4, ground := Ground.guard }], guard := some (4, true) }) (v := ?_) rfl (by kernel_rfl) (by kernel_rfl) (by kernel_rfl) (fun _ _ _ h => h) (Or.inl ⟨by rfl, ?_⟩) (by assumption) ?_
          rotate_left 1
          · intro w hSw
            (try dsimp only at hSw)
            first | (go_simp; done) | (go_simp; with_reducible rfl)
          try simp only [Act.put, List.setIfInBounds_toArray, List.set_cons_zero, List.set_cons_succ]
          refine wpAnyH_take (i := 6) (oi := { dst := some 90, op := Op.load 27 (Operand.tmp 89), type := 27, pos := "laws.go:583", after := #[{ on := 5, ground := Ground.data }, { on := 4, ground := Ground.guard }], guard := some (4, true) }) (v := ?_) rfl (by kernel_rfl) (by kernel_rfl) (by kernel_rfl) (fun _ _ _ h => h) (Or.inl ⟨by rfl, ?_⟩) (by assumption) ?_
          rotate_left 1
          · intro w hSw
            (try dsimp only at hSw)
            first | (go_simp; done) | (go_simp; with_reducible rfl)
          try simp only [Act.put, List.setIfInBounds_toArray, List.set_cons_zero, List.set_cons_succ]
          refine wpAnyH_take (i := 7) (oi := { dst := some 91, op := Op.move (Operand.tmp 16), type := 3, pos := "laws.go:583", after := #[{ on := 4, ground := Ground.guard }], guard := some (4, true) }) (v := ?_) rfl (by kernel_rfl) (by kernel_rfl) (by kernel_rfl) (fun _ _ _ h => h) (Or.inl ⟨by rfl, ?_⟩) (by assumption) ?_
          rotate_left 1
          · intro w hSw
            (try dsimp only at hSw)
            first | (go_simp; done) | (go_simp; with_reducible rfl)
          try simp only [Act.put, List.setIfInBounds_toArray, List.set_cons_zero, List.set_cons_succ]
          refine wpAnyH_take (i := 8) (oi := { dst := some 92, op := Op.indexAddr 27 (Operand.tmp 90) (Operand.tmp 91), type := 0, pos := "laws.go:583", after := #[{ on := 6, ground := Ground.data }, { on := 7, ground := Ground.data }, { on := 4, ground := Ground.guard }], guard := some (4, true) }) (v := ?_) rfl (by kernel_rfl) (by kernel_rfl) (by kernel_rfl) (fun _ _ _ h => h) (Or.inl ⟨by rfl, ?_⟩) (by assumption) ?_
          rotate_left 1
          · intro w hSw
            (try dsimp only at hSw)
            first | (go_simp; done) | (go_simp; with_reducible rfl)
          try simp only [Act.put, List.setIfInBounds_toArray, List.set_cons_zero, List.set_cons_succ]
          refine wpAnyH_take (i := 9) (oi := { dst := some 93, op := Op.fieldAddr 37 (Operand.tmp 92) 1, type := 0, pos := "laws.go:583", after := #[{ on := 8, ground := Ground.data }, { on := 4, ground := Ground.guard }], guard := some (4, true) }) (v := ?_) rfl (by kernel_rfl) (by kernel_rfl) (by kernel_rfl) (fun _ _ _ h => h) (Or.inl ⟨by rfl, ?_⟩) (by assumption) ?_
          rotate_left 1
          · intro w hSw
            (try dsimp only at hSw)
            first | (go_simp; done) | (go_simp; with_reducible rfl)
          try simp only [Act.put, List.setIfInBounds_toArray, List.set_cons_zero, List.set_cons_succ]
          refine wpAnyH_take (i := 10) (oi := { dst := some 94, op := Op.load 4 (Operand.tmp 93), type := 4, pos := "laws.go:583", after := #[{ on := 9, ground := Ground.data }, { on := 4, ground := Ground.guard }], guard := some (4, true) }) (v := ?_) rfl (by kernel_rfl) (by kernel_rfl) (by kernel_rfl) (fun _ _ _ h => h) (Or.inl ⟨by rfl, ?_⟩) (by assumption) ?_
          rotate_left 1
          · intro w hSw
            (try dsimp only at hSw)
            first | (go_simp; done) | (go_simp; with_reducible rfl)
          try simp only [Act.put, List.setIfInBounds_toArray, List.set_cons_zero, List.set_cons_succ]
          refine wpAnyH_take (i := 11) (oi := { dst := some 95, op := Op.fieldAddr 29 (Operand.tmp 8) 0, type := 0, pos := "laws.go:583", after := #[{ on := 4, ground := Ground.guard }], guard := some (4, true) }) (v := ?_) rfl (by kernel_rfl) (by kernel_rfl) (by kernel_rfl) (fun _ _ _ h => h) (Or.inl ⟨by rfl, ?_⟩) (by assumption) ?_
          rotate_left 1
          · intro w hSw
            (try dsimp only at hSw)
            first | (go_simp; done) | (go_simp; with_reducible rfl)
          try simp only [Act.put, List.setIfInBounds_toArray, List.set_cons_zero, List.set_cons_succ]
          refine wpAnyH_take (i := 12) (oi := { dst := some 96, op := Op.load 27 (Operand.tmp 95), type := 27, pos := "laws.go:583", after := #[{ on := 11, ground := Ground.data }, { on := 4, ground := Ground.guard }], guard := some (4, true) }) (v := ?_) rfl (by kernel_rfl) (by kernel_rfl) (by kernel_rfl) (fun _ _ _ h => h) (Or.inl ⟨by rfl, ?_⟩) (by assumption) ?_
          rotate_left 1
          · intro w hSw
            (try dsimp only at hSw)
            first | (go_simp; done) | (go_simp; with_reducible rfl)
          try simp only [Act.put, List.setIfInBounds_toArray, List.set_cons_zero, List.set_cons_succ]
          refine wpAnyH_take (i := 13) (oi := { dst := some 97, op := Op.move (Operand.tmp 16), type := 3, pos := "laws.go:583", after := #[{ on := 4, ground := Ground.guard }], guard := some (4, true) }) (v := ?_) rfl (by kernel_rfl) (by kernel_rfl) (by kernel_rfl) (fun _ _ _ h => h) (Or.inl ⟨by rfl, ?_⟩) (by assumption) ?_
          rotate_left 1
          · intro w hSw
            (try dsimp only at hSw)
            first | (go_simp; done) | (go_simp; with_reducible rfl)
          try simp only [Act.put, List.setIfInBounds_toArray, List.set_cons_zero, List.set_cons_succ]
          refine wpAnyH_take (i := 14) (oi := { dst := some 98, op := Op.indexAddr 27 (Operand.tmp 96) (Operand.tmp 97), type := 0, pos := "laws.go:583", after := #[{ on := 12, ground := Ground.data }, { on := 13, ground := Ground.data }, { on := 4, ground := Ground.guard }], guard := some (4, true) }) (v := ?_) rfl (by kernel_rfl) (by kernel_rfl) (by kernel_rfl) (fun _ _ _ h => h) (Or.inl ⟨by rfl, ?_⟩) (by assumption) ?_
          rotate_left 1
          · intro w hSw
            (try dsimp only at hSw)
            first | (go_simp; done) | (go_simp; with_reducible rfl)
          try simp only [Act.put, List.setIfInBounds_toArray, List.set_cons_zero, List.set_cons_succ]
          refine wpAnyH_take (i := 15) (oi := { dst := some 99, op := Op.fieldAddr 37 (Operand.tmp 98) 1, type := 0, pos := "laws.go:583", after := #[{ on := 14, ground := Ground.data }, { on := 4, ground := Ground.guard }], guard := some (4, true) }) (v := ?_) rfl (by kernel_rfl) (by kernel_rfl) (by kernel_rfl) (fun _ _ _ h => h) (Or.inl ⟨by rfl, ?_⟩) (by assumption) ?_
          rotate_left 1
          · intro w hSw
            (try dsimp only at hSw)
            first | (go_simp; done) | (go_simp; with_reducible rfl)
          try simp only [Act.put, List.setIfInBounds_toArray, List.set_cons_zero, List.set_cons_succ]
          refine wpAnyH_take (i := 16) (oi := { dst := some 100, op := Op.load 4 (Operand.tmp 99), type := 4, pos := "laws.go:583", after := #[{ on := 15, ground := Ground.data }, { on := 4, ground := Ground.guard }], guard := some (4, true) }) (v := ?_) rfl (by kernel_rfl) (by kernel_rfl) (by kernel_rfl) (fun _ _ _ h => h) (Or.inl ⟨by rfl, ?_⟩) (by assumption) ?_
          rotate_left 1
          · intro w hSw
            (try dsimp only at hSw)
            first | (go_simp; done) | (go_simp; with_reducible rfl)
          try simp only [Act.put, List.setIfInBounds_toArray, List.set_cons_zero, List.set_cons_succ]
          refine wpAnyH_take (i := 17) (oi := { dst := some 101, op := Op.binOp BinOp.neq 4 (Operand.tmp 94) (Operand.tmp 100) 4, type := 4, pos := "laws.go:583", after := #[{ on := 10, ground := Ground.data }, { on := 16, ground := Ground.data }, { on := 4, ground := Ground.guard }], guard := some (4, true) }) (v := ?_) rfl (by kernel_rfl) (by kernel_rfl) (by kernel_rfl) (fun _ _ _ h => h) (Or.inl ⟨by rfl, ?_⟩) (by assumption) ?_
          rotate_left 1
          · intro w hSw
            (try dsimp only at hSw)
            first | (go_simp; done) | (go_simp; with_reducible rfl)
          try simp only [Act.put, List.setIfInBounds_toArray, List.set_cons_zero, List.set_cons_succ]
          refine wpAnyH_take (i := 18) (oi := { dst := some 102, op := Op.pick (Operand.tmp 88) (Operand.tmp 101) (Operand.const (Value.bool false)), type := 4, pos := "laws.go:583", after := #[{ on := 4, ground := Ground.data }, { on := 17, ground := Ground.data }], guard := none }) (v := ?_) rfl (by kernel_rfl) (by kernel_rfl) (by kernel_rfl) (fun _ _ _ h => h) (Or.inl ⟨by rfl, ?_⟩) (by assumption) ?_
          rotate_left 1
          · intro w hSw
            (try dsimp only at hSw)
            first | (go_simp; done) | (go_simp; with_reducible rfl)
          try simp only [Act.put, List.setIfInBounds_toArray, List.set_cons_zero, List.set_cons_succ]
          refine wpAnyH_done (by kernel_rfl) ?_ _
          refine NoPanic.normal ?_
          (try simp only [Act.put, List.setIfInBounds_toArray, List.set_cons_zero, List.set_cons_succ])
          go_wp2
          go_roundw
          case rel => exact ⟨i + 1, by go_num, by omega, belowThen hb (Below.refl _ _).drew⟩
          case measure => simp [intOf]; omega
      · have hbE := belowThen B6 hb
        have x0 := dUnhide HX wr hb 0 _ rfl
        have x1 := dUnhide HX wr hb 1 _ rfl
        have z1 := dUnhide HZ wr hb 1 _ rfl
        have CF := dHide (dUnhide CF2 wr hb)
        obtain ⟨b', off', rfl, hce'⟩ := (dUnhide HRN wr hb).era (show k < rn.length by omega)
        obtain ⟨-, d1, d2⟩ := hce' k (by omega)
        have hk0 : k < m.eras.length := by omega
        rw [dUnhide HN k (by omega) (by omega)] at d1 d2
        rw [(dUnhide HE k hk0 (by omega)).1, if_pos rfl] at d1
        rw [(dUnhide HE k hk0 (by omega)).2 rfl] at d2
        have D12 := dHide (And.intro d1 d2)
        clear hce' HE HM HN d1 d2 z0
        have z0 := dUnhide HZ wr hb 0 _ rfl
        go_wp2_with fail
        refine (dUnhide CF).mono ?_
        rintro e wd ⟨rfl, bd⟩
        have hbd := belowThen hb bd
        have CO7 := dHide (dUnhide CO6 wd hbd)
        clear x0 x1 z0 z1 y0 CF CO6 CF2 hbE
        have x0 := dUnhide HX wd hbd 0 _ rfl
        have x1 := dUnhide HX wd hbd 1 _ rfl
        have z0 := dUnhide HZ wd hbd 0 _ rfl
        have z1 := dUnhide HZ wd hbd 1 _ rfl
        have y0 := dUnhide HY wd hbd 0 _ rfl
        have d1 := (bd.cell (p := ⟨b', off' + k * 3 + 1, none⟩) (dCell_lt (dUnhide D12).1)).trans (dUnhide D12).1
        have d2 := (bd.cell (p := ⟨b', off' + k * 3 + 2, none⟩) (dCell_lt (dUnhide D12).2)).trans (dUnhide D12).2
        have hbx : ((m.eras.length : Int) == (m.eras.length : Int)) = true := by simp
        have hby : (y == y) = true := by simp
        have hkl : (k : Int) < (m.eras.length : Int) := by omega
        clear D12 HX HY HZ HRM HRN
        go_wp2_with fail
        refine (dUnhide CO7).mono ?_
        rintro e we ⟨rfl, be⟩
        have BE := belowThen B6 (belowThen hbd be)
        clear x0 x1 z0 z1 y0 d1 d2 CO7
        go_wp2
        go_ret
        exact ⟨rfl, BE⟩
theorem bs_row8c {w : World} {a : Option Addr} {n cap : Nat} {bs : List UInt8} (h : Bs w (.slice a n cap) bs) : Row8 w a n := by
  obtain ⟨h0, a', cap', e, -, h⟩ := h
  cases e
  refine ⟨h0, ?_⟩
  rcases h with h | ⟨b, off, rfl, hc⟩
  · exact .inl (by rw [h]; rfl)
  · exact .inr ⟨b, off, rfl, fun i hi => ⟨_, by omega, by have := bs[i].toNat_lt; omega, hc i hi⟩⟩
theorem walkFnClosed (v0 : Value) (m0 : List UInt8) (w : World) (i0 : Bs w v0 m0) (e0 e1 : Addr) (hS : Snt w e0 e1) :
    Calls Tryd.prog 4 #[v0] w fun e w' => e = .returned (.bool true) ∧ Below w.heap.size w w' := by
  have i0' := i0
  obtain ⟨-, a, cap, rfl, -, -⟩ := i0'
  exact walkClosed a m0.length cap w (bs_row8c i0) e0 e1 hS
end Go.Proofs.YtfipenjojgflmaaDoor
