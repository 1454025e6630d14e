/- spec's RegTrim (printed by tools/mkrgf.py). -/
import Derived.Test.YthndkkjgjhgdnaaGreatDoorRgE
import Derived.Test.YthndkkjgjhgdnaaGreatDoorGk69
namespace Go.Proofs.YthndkkjgjhgdnaaGreatDoor
open Go.ChangeShapes Go.WideShapes Go.ChangeAt Go.RowKit
set_option linter.unusedVariables false
set_option linter.unusedSimpArgs false
set_option maxRecDepth 100000

theorem l1Max_r (a b : Int) (w : World) : Calls Tryz.prog 78 #[.int .i64 a, .int .i64 b] w fun e w' => e = .returned (.int .i64 (max a b)) ∧ w = w' := by
  by_cases h : b < a
  · have e : max a b = a := by omega
    rw [e]
    clear e
    have hd : decide (b < a) = true := decide_eq_true h
    go_enter Tryz.func78, Tryz.ntmps78
    go_wp2
    go_ret
    exact ⟨rfl, rfl⟩
  · have e : max a b = b := by omega
    rw [e]
    clear e
    have hd : decide (b < a) = false := decide_eq_false h
    go_enter Tryz.func78, Tryz.ntmps78
    go_wp2
    go_ret
    exact ⟨rfl, rfl⟩
set_option maxHeartbeats 8000000 in
theorem specRegTrim_full (cv v : Value) (c : List Int × Int) (m : Rg) (x : Int) (okx : okInt x) (w : World) (hc : RdConfig cv c w) (hv : RdRegister v m w) (ok : okRegister m) (hs : sizRegister m ≤ 1048576) :
    Calls Tryz.prog 62 #[cv, v, .int .i64 x] w fun e w' => (∃ u, e = .returned (.tuple #[u, .bool (trimR c.1 c.2 m x).2]) ∧ OwRegister w.heap.size w'.heap.size u (trimR c.1 c.2 m x).1 w' ∧ FullR w' w.heap.size u) ∧ Below w.heap.size w w' := by
  have CO := dHide fun W (hb : Below w.heap.size w W) => specRegOk_any cv v c m W (hc.below hb) (hv.below hb) ok.2 hs
  have CP := dHide fun W (hb : Below w.heap.size w W) => l7Copy_any v m W (hv.below hb) hs
  obtain ⟨ds, cop⟩ := c
  obtain ⟨sc, rfl, hc⟩ := hc
  obtain ⟨a, cap, rfl, hl0⟩ := formRegister hv
  have hle : m.eras.length ≤ 1048576 := by unfold sizRegister sizEraS at hs; omega
  obtain ⟨o1, o2⟩ := ok.2
  simp only at *
  obtain ⟨-, ca, cc, rfl, -, -⟩ := hc
  clear hv
  have ba : ∀ (w : World) o, Below w.heap.size w (w.alloc o) := fun w o => (Below.refl _ _).alloc (Nat.le_refl _) o
  have B0 := belowThen (belowThen (ba w (.cells #[.slice ca ds.length cc, .int .i64 cop] 26)) (ba _ (.cells #[.slice a m.eras.length cap, .int .i64 m.trim] 29))) (ba _ (.cells #[.slice none 0 0, .int .i64 0] 29))
  have X0 := dHide ((Bx.new w [.slice ca ds.length cc, .int .i64 cop] 26).below (belowThen (ba _ (.cells #[.slice a m.eras.length cap, .int .i64 m.trim] 29)) (ba _ (.cells #[.slice none 0 0, .int .i64 0] 29))))
  have Y0 := (Bx.new (w.alloc (.cells #[.slice ca ds.length cc, .int .i64 cop] 26)) [.slice a m.eras.length cap, .int .i64 m.trim] 29).below (ba _ (.cells #[.slice none 0 0, .int .i64 0] 29))
  have Z0 := BxZ.new (B := w.heap.size) ((w.alloc (.cells #[.slice ca ds.length cc, .int .i64 cop] 26)).alloc (.cells #[.slice a m.eras.length cap, .int .i64 m.trim] 29)) [.slice none 0 0, .int .i64 0] 29 (by simp <;> omega)
  have e1 : (w.alloc (.cells #[.slice ca ds.length cc, .int .i64 cop] 26)).heap.size = w.heap.size + 1 := by simp
  have e2 : ((w.alloc (.cells #[.slice ca ds.length cc, .int .i64 cop] 26)).alloc (.cells #[.slice a m.eras.length cap, .int .i64 m.trim] 29)).heap.size = w.heap.size + 1 + 1 := by simp
  rw [e1] at Y0
  rw [e2] at Z0
  replace Y0 := dHide Y0
  replace Z0 := dHide Z0
  clear e1 e2
  have hsz0 : Hid (w.heap.size + 1 + 1 + 1 = (((w.alloc (.cells #[.slice ca ds.length cc, .int .i64 cop] 26)).alloc (.cells #[.slice a m.eras.length cap, .int .i64 m.trim] 29)).alloc (.cells #[.slice none 0 0, .int .i64 0] 29)).heap.size) := by simp [Hid]
  by_cases hP : regP ds cop m
  case neg =>
    rw [trimR_bad hP]
    replace CO := dHide fun W hb => retB_no (dUnhide CO W hb) hP
    clear CP
    go_enter Tryz.func62, Tryz.ntmps62
    go_wp2_with fail
    generalize ((w.alloc (.cells #[.slice ca ds.length cc, .int .i64 cop] 26)).alloc (.cells #[.slice a m.eras.length cap, .int .i64 m.trim] 29)).alloc (.cells #[.slice none 0 0, .int .i64 0] 29) = w0 at *
    refine (dUnhide CO _ B0).mono ?_
    rintro e w1 ⟨rfl, b1⟩
    have B1 := belowThen B0 b1
    have Z1 := dHide ((dUnhide Z0).below b1)
    obtain ⟨z0, f0⟩ := (dUnhide Z1).2 0 _ rfl
    obtain ⟨z1, f1⟩ := (dUnhide Z1).2 1 _ rfl
    have ZZ := dHide (((dUnhide Z1).put 0 (.slice none 0 0)).put 1 (.int .i64 0))
    have BB := dHide ((B1.setCell (p := ⟨w.heap.size + 1 + 1, 0, none⟩) (by simp only; omega) (.slice none 0 0)).setCell (p := ⟨w.heap.size + 1 + 1, 1, none⟩) (by simp only; omega) (.int .i64 0))
    clear B0 b1 Z0 Z1 CO X0 Y0
    go_wp2_with fail
    generalize (w1.setCell ⟨w.heap.size + 1 + 1, 0, none⟩ (.slice none 0 0)).setCell ⟨w.heap.size + 1 + 1, 1, none⟩ (.int .i64 0) = V at *
    have q0 := ((dUnhide ZZ).2 0 _ rfl).1
    have q1 := ((dUnhide ZZ).2 1 _ rfl).1
    refine bodyPost_ret (v := .tuple #[.agg #[.slice none 0 0, .int .i64 0], .bool false]) (by simp [results, Tryz.results62, go_sem, q0, q1]) rfl ⟨⟨_, rfl, ⟨_, rfl, (NAp.nil V w.heap.size none).ow⟩, _, _, rfl, .inl ⟨none, rfl⟩⟩, dUnhide BB⟩
  replace CO := dHide fun W hb => retB_yes (dUnhide CO W hb) hP
  obtain ⟨x0i, x1i⟩ := okx
  by_cases hp : isPl x
  · have C1 := dHide fun W => specOk_yes x hp W
    have C2 := dHide fun W => specEpoch_yes x hp W
    have hpp := hp
    obtain ⟨p0, p1, p2, p3, p4⟩ := hpp
    by_cases hq : (m.eras.length : Int) < x / 4294967296
    · rw [trimR_no hP fun h => by have := h.2; omega]
      generalize x / 4294967296 = q at *
      clear hp
      go_enter Tryz.func62, Tryz.ntmps62
      go_wp2_with fail
      generalize ((w.alloc (.cells #[.slice ca ds.length cc, .int .i64 cop] 26)).alloc (.cells #[.slice a m.eras.length cap, .int .i64 m.trim] 29)).alloc (.cells #[.slice none 0 0, .int .i64 0] 29) = w0 at *
      refine (dUnhide CO _ B0).mono ?_
      rintro e w1 ⟨rfl, b1⟩
      have B1 := belowThen B0 b1
      have X1 := dHide ((dUnhide X0).below b1)
      have Y1 := dHide ((dUnhide Y0).below b1)
      have Z1 := dHide ((dUnhide Z0).below b1)
      have s1 := b1.size
      have y0 := dUnhide Y1 0 _ rfl
      have y1 := dUnhide Y1 1 _ rfl
      clear B0 b1 Z0 CO X0 Y0
      go_wp2_with fail
      refine (dUnhide CP _ B1).mono ?_
      rintro e w2 ⟨⟨u2, rfl, N2⟩, b2⟩
      obtain ⟨ua, uc, rfl⟩ := N2.slice
      have B2 := belowThen B1 b2
      have s2 := b2.size
      have X2 := dHide ((dUnhide X1).below b2)
      have Y2 := dHide ((dUnhide Y1).below b2)
      have Z2 := dHide ((dUnhide Z1).below b2)
      clear X1 Y1 Z1 B1 b2 CP y0 y1
      have bA := ba w2 (.cells #[.slice ua m.eras.length uc, .int .i64 m.trim] 29)
      have O3 := dHide (BxZ.new (B := w.heap.size) w2 [.slice ua m.eras.length uc, .int .i64 m.trim] 29 (by have := dUnhide hsz0; omega))
      have X3 := dHide ((dUnhide X2).below bA)
      have Y3 := dHide ((dUnhide Y2).below bA)
      have Z3 := dHide ((dUnhide Z2).below bA)
      have N3 := dHide ((N2.below bA).mono (base' := w.heap.size + 3) (by have := dUnhide hsz0; omega))
      have S3 : Hid (Sits (OwEraS w1.heap.size w2.heap.size (.slice ua m.eras.length uc) m.eras) w1.heap.size w2.heap.size (w2.alloc (.cells #[.slice ua m.eras.length uc, .int .i64 m.trim] 29))) := (OwK.sits N2.ow (Nat.le_refl _)).below bA
      have hw1 : w.heap.size + 3 ≤ w1.heap.size := by have := dUnhide hsz0; omega
      have N2h := dHide N2
      have b23 := bA
      have NB : Hid (∀ j, touch (.slice ua m.eras.length uc) = some j → j < w2.heap.size) := fun j hj => (N2.touched hj).2
      have B3 := belowThen B2 bA
      have y0 := dUnhide Y3 0 _ rfl
      have y1 := dUnhide Y3 1 _ rfl
      have x0 := dUnhide X3 0 _ rfl
      have x1 := dUnhide X3 1 _ rfl
      have hw2 : w.heap.size + 3 ≤ w2.heap.size := by have := dUnhide hsz0; omega
      clear X2 Y2 Z2 B2 bA N2
      go_wp2_with fail
      generalize w2.alloc (.cells #[.slice ua m.eras.length uc, .int .i64 m.trim] 29) = w3 at *
      have hbr := Below.refl w3.heap.size w3
      go_cut [26] (fun sv wx => sv = .bool true ∧ Below w3.heap.size w3 wx)
      case first =>
        go_region_held3 (fun W => W.cell? ⟨w.heap.size + 1, 0, none⟩ = some (.slice a m.eras.length cap)) (go_keep)
          (first
            | (go_at_call 52; refine (dUnhide C1 _).mono ?_; rintro e w5 ⟨rfl, rfl⟩)
            | (go_at_call 53; refine (dUnhide C2 _).mono ?_; rintro e w6 ⟨rfl, rfl⟩))
        all_goals
          go_wp2_with fail
          go_meet
          case rel => exact ⟨by first | rfl | (rw [decide_eq_false (by omega)]), hbr.drew⟩
      case rest =>
        obtain ⟨rfl, bc⟩ := hcut
        clear hbr
        generalize wc = w4 at *
        have B4 := belowThen B3 bc
        have s4 := bc.size
        have ZF := dHide ((dUnhide Z3).below bc)
        have OF := dHide ((dUnhide O3).below bc)
        have N4 := dHide ((dUnhide N3).below bc)
        have S4 := dHide ((dUnhide S3).below bc)
        have sB : w2.heap.size < w4.heap.size := by have := (dUnhide OF).lt; exact this
        clear y0 y1 x0 x1 X3 Y3 Z3 N3 O3 bc B3
        obtain ⟨z0, f0⟩ := (dUnhide ZF).2 0 _ rfl
        obtain ⟨z1, f1⟩ := (dUnhide ZF).2 1 _ rfl
        obtain ⟨p0, g0⟩ := (dUnhide OF).2 0 _ rfl
        obtain ⟨p1, g1⟩ := (dUnhide OF).2 1 _ rfl
        have ZZ := dHide (((dUnhide ZF).put 0 (.slice ua m.eras.length uc)).put 1 (.int .i64 m.trim))
        have BB := dHide ((B4.setCell (p := ⟨w.heap.size + 1 + 1, 0, none⟩) (by simp only; omega) (.slice ua m.eras.length uc)).setCell (p := ⟨w.heap.size + 1 + 1, 1, none⟩) (by simp only; omega) (.int .i64 m.trim))
        have OO : Hid (OwEraS (w.heap.size + 3) w4.heap.size (.slice ua m.eras.length uc) _ ((w4.setCell ⟨w.heap.size + 1 + 1, 0, none⟩ (.slice ua m.eras.length uc)).setCell ⟨w.heap.size + 1 + 1, 1, none⟩ (.int .i64 m.trim))) := OwK.far (OwK.far (dUnhide N4).ow (by omega) _) (by omega) _
        have FV : Hid (Full ((w4.setCell ⟨w.heap.size + 1 + 1, 0, none⟩ (.slice ua m.eras.length uc)).setCell ⟨w.heap.size + 1 + 1, 1, none⟩ (.int .i64 m.trim)) (w.heap.size + 3) (.slice ua m.eras.length uc)) := (((dUnhide N4).full).set _ _ _).set _ _ _
        have hV : w4.heap.size = ((w4.setCell ⟨w.heap.size + 1 + 1, 0, none⟩ (.slice ua m.eras.length uc)).setCell ⟨w.heap.size + 1 + 1, 1, none⟩ (.int .i64 m.trim)).heap.size := by simp
        go_wp2_with fail
        generalize (w4.setCell ⟨w.heap.size + 1 + 1, 0, none⟩ (.slice ua m.eras.length uc)).setCell ⟨w.heap.size + 1 + 1, 1, none⟩ (.int .i64 m.trim) = V at *
        have q0 := ((dUnhide ZZ).2 0 _ rfl).1
        have q1 := ((dUnhide ZZ).2 1 _ rfl).1
        clear z0 z1 f0 f1 p0 p1 g0 g1
        rw [hV] at OO
        refine bodyPost_ret (v := .tuple #[.agg #[.slice ua m.eras.length uc, .int .i64 m.trim], .bool false]) (by simp [results, Tryz.results62, go_sem, q0, q1]) rfl ⟨⟨_, rfl, ⟨_, rfl, OwK.wide (dUnhide OO) (by omega) (Nat.le_refl _)⟩, _, _, rfl, (dUnhide FV).mono (by omega)⟩, dUnhide BB⟩
    · rw [trimR_yes hP ⟨hp, by omega⟩]
      generalize x / 4294967296 = q at *
      have C3 := dHide fun W => l1Max_r m.trim x W
      simp only
      generalize max m.trim x = mx at *
      clear hp
      go_enter Tryz.func62, Tryz.ntmps62
      go_wp2_with fail
      generalize ((w.alloc (.cells #[.slice ca ds.length cc, .int .i64 cop] 26)).alloc (.cells #[.slice a m.eras.length cap, .int .i64 m.trim] 29)).alloc (.cells #[.slice none 0 0, .int .i64 0] 29) = w0 at *
      refine (dUnhide CO _ B0).mono ?_
      rintro e w1 ⟨rfl, b1⟩
      have B1 := belowThen B0 b1
      have X1 := dHide ((dUnhide X0).below b1)
      have Y1 := dHide ((dUnhide Y0).below b1)
      have Z1 := dHide ((dUnhide Z0).below b1)
      have s1 := b1.size
      have y0 := dUnhide Y1 0 _ rfl
      have y1 := dUnhide Y1 1 _ rfl
      clear B0 b1 Z0 CO X0 Y0
      go_wp2_with fail
      refine (dUnhide CP _ B1).mono ?_
      rintro e w2 ⟨⟨u2, rfl, N2⟩, b2⟩
      obtain ⟨ua, uc, rfl⟩ := N2.slice
      have B2 := belowThen B1 b2
      have s2 := b2.size
      have X2 := dHide ((dUnhide X1).below b2)
      have Y2 := dHide ((dUnhide Y1).below b2)
      have Z2 := dHide ((dUnhide Z1).below b2)
      clear X1 Y1 Z1 B1 b2 CP y0 y1
      have bA := ba w2 (.cells #[.slice ua m.eras.length uc, .int .i64 m.trim] 29)
      have O3 := dHide (BxZ.new (B := w.heap.size) w2 [.slice ua m.eras.length uc, .int .i64 m.trim] 29 (by have := dUnhide hsz0; omega))
      have X3 := dHide ((dUnhide X2).below bA)
      have Y3 := dHide ((dUnhide Y2).below bA)
      have Z3 := dHide ((dUnhide Z2).below bA)
      have N3 := dHide ((N2.below bA).mono (base' := w.heap.size + 3) (by have := dUnhide hsz0; omega))
      have S3 : Hid (Sits (OwEraS w1.heap.size w2.heap.size (.slice ua m.eras.length uc) m.eras) w1.heap.size w2.heap.size (w2.alloc (.cells #[.slice ua m.eras.length uc, .int .i64 m.trim] 29))) := (OwK.sits N2.ow (Nat.le_refl _)).below bA
      have hw1 : w.heap.size + 3 ≤ w1.heap.size := by have := dUnhide hsz0; omega
      have N2h := dHide N2
      have b23 := bA
      have NB : Hid (∀ j, touch (.slice ua m.eras.length uc) = some j → j < w2.heap.size) := fun j hj => (N2.touched hj).2
      have B3 := belowThen B2 bA
      have y0 := dUnhide Y3 0 _ rfl
      have y1 := dUnhide Y3 1 _ rfl
      have x0 := dUnhide X3 0 _ rfl
      have x1 := dUnhide X3 1 _ rfl
      have hw2 : w.heap.size + 3 ≤ w2.heap.size := by have := dUnhide hsz0; omega
      clear X2 Y2 Z2 B2 bA N2
      go_wp2_with fail
      generalize w2.alloc (.cells #[.slice ua m.eras.length uc, .int .i64 m.trim] 29) = w3 at *
      have hbr := Below.refl w3.heap.size w3
      go_cut [26] (fun sv wx => sv = .bool false ∧ Below w3.heap.size w3 wx)
      case first =>
        go_region_held3 (fun W => W.cell? ⟨w.heap.size + 1, 0, none⟩ = some (.slice a m.eras.length cap)) (go_keep)
          (first
            | (go_at_call 52; refine (dUnhide C1 _).mono ?_; rintro e w5 ⟨rfl, rfl⟩)
            | (go_at_call 53; refine (dUnhide C2 _).mono ?_; rintro e w6 ⟨rfl, rfl⟩))
        all_goals
          go_wp2_with fail
          go_meet
          case rel => exact ⟨by first | rfl | (rw [decide_eq_false (by omega)]), hbr.drew⟩
      case rest =>
        obtain ⟨rfl, bc⟩ := hcut
        clear hbr
        generalize wc = w4 at *
        have B4 := belowThen B3 bc
        have s4 := bc.size
        have ZF := dHide ((dUnhide Z3).below bc)
        have OF := dHide ((dUnhide O3).below bc)
        have N4 := dHide ((dUnhide N3).below bc)
        have S4 := dHide ((dUnhide S3).below bc)
        have sB : w2.heap.size < w4.heap.size := by have := (dUnhide OF).lt; exact this
        clear y0 y1 x0 x1 X3 Y3 Z3 N3 O3 bc B3
        have o1' := ((dUnhide OF).2 1 _ rfl).1
        go_wp2_with fail
        refine (dUnhide C3 _).mono ?_
        rintro e w5 ⟨rfl, rfl⟩
        obtain ⟨i0, j0⟩ := (dUnhide OF).2 0 _ rfl
        obtain ⟨i1, j1⟩ := (dUnhide OF).2 1 _ rfl
        have OF1 := dHide ((dUnhide OF).put 1 (.int .i64 mx))
        have ZF1 := dHide ((dUnhide ZF).far (b' := w2.heap.size) (o := 1) (by omega) (.int .i64 mx))
        have N5 : Hid (OwEraS (w.heap.size + 3) (w4.setCell ⟨w2.heap.size, 1, none⟩ (.int .i64 mx)).heap.size (.slice ua m.eras.length uc) m.eras (w4.setCell ⟨w2.heap.size, 1, none⟩ (.int .i64 mx))) := OwK.wide ((dUnhide S4).setFar (.inr (Nat.le_refl _)) _).now hw1 (by rw [World.size_setCell]; omega)
        have BF := B4.setCell (p := ⟨w2.heap.size, 1, none⟩) (by simp only; omega) (.int .i64 mx)
        have FN := dHide ((dUnhide N4).full.set w2.heap.size 1 (.int .i64 mx))
        clear OF ZF N4
        obtain ⟨z0, f0⟩ := (dUnhide ZF1).2 0 _ rfl
        obtain ⟨z1, f1⟩ := (dUnhide ZF1).2 1 _ rfl
        obtain ⟨p0, g0⟩ := (dUnhide OF1).2 0 _ rfl
        obtain ⟨p1, g1⟩ := (dUnhide OF1).2 1 _ rfl
        have ZZ := dHide (((dUnhide ZF1).put 0 (.slice ua m.eras.length uc)).put 1 (.int .i64 mx))
        have BB := dHide ((BF.setCell (p := ⟨w.heap.size + 1 + 1, 0, none⟩) (by simp only; omega) (.slice ua m.eras.length uc)).setCell (p := ⟨w.heap.size + 1 + 1, 1, none⟩) (by simp only; omega) (.int .i64 mx))
        have OO : Hid (OwEraS (w.heap.size + 3) (w4.setCell ⟨w2.heap.size, 1, none⟩ (.int .i64 mx)).heap.size (.slice ua m.eras.length uc) _ (((w4.setCell ⟨w2.heap.size, 1, none⟩ (.int .i64 mx)).setCell ⟨w.heap.size + 1 + 1, 0, none⟩ (.slice ua m.eras.length uc)).setCell ⟨w.heap.size + 1 + 1, 1, none⟩ (.int .i64 mx))) := OwK.far (OwK.far (dUnhide N5) (by omega) _) (by omega) _
        have FV : Hid (Full (((w4.setCell ⟨w2.heap.size, 1, none⟩ (.int .i64 mx)).setCell ⟨w.heap.size + 1 + 1, 0, none⟩ (.slice ua m.eras.length uc)).setCell ⟨w.heap.size + 1 + 1, 1, none⟩ (.int .i64 mx)) (w.heap.size + 3) (.slice ua m.eras.length uc)) := ((dUnhide FN).set _ _ _).set _ _ _
        have hV : (w4.setCell ⟨w2.heap.size, 1, none⟩ (.int .i64 mx)).heap.size = (((w4.setCell ⟨w2.heap.size, 1, none⟩ (.int .i64 mx)).setCell ⟨w.heap.size + 1 + 1, 0, none⟩ (.slice ua m.eras.length uc)).setCell ⟨w.heap.size + 1 + 1, 1, none⟩ (.int .i64 mx)).heap.size := by simp
        go_wp2_with fail
        generalize ((w4.setCell ⟨w2.heap.size, 1, none⟩ (.int .i64 mx)).setCell ⟨w.heap.size + 1 + 1, 0, none⟩ (.slice ua m.eras.length uc)).setCell ⟨w.heap.size + 1 + 1, 1, none⟩ (.int .i64 mx) = V at *
        have q0 := ((dUnhide ZZ).2 0 _ rfl).1
        have q1 := ((dUnhide ZZ).2 1 _ rfl).1
        clear z0 z1 f0 f1 p0 p1 g0 g1
        rw [hV] at OO
        refine bodyPost_ret (v := .tuple #[.agg #[.slice ua m.eras.length uc, .int .i64 mx], .bool true]) (by simp [results, Tryz.results62, go_sem, q0, q1]) rfl ⟨⟨_, rfl, ⟨_, rfl, OwK.wide (dUnhide OO) (by omega) (Nat.le_refl _)⟩, _, _, rfl, (dUnhide FV).mono (by omega)⟩, dUnhide BB⟩
  · rw [trimR_no hP fun h => hp h.1]
    have C1 := dHide fun W => specOk_no x x1i hp W
    clear hp
    go_enter Tryz.func62, Tryz.ntmps62
    go_wp2_with fail
    generalize ((w.alloc (.cells #[.slice ca ds.length cc, .int .i64 cop] 26)).alloc (.cells #[.slice a m.eras.length cap, .int .i64 m.trim] 29)).alloc (.cells #[.slice none 0 0, .int .i64 0] 29) = w0 at *
    refine (dUnhide CO _ B0).mono ?_
    rintro e w1 ⟨rfl, b1⟩
    have B1 := belowThen B0 b1
    have X1 := dHide ((dUnhide X0).below b1)
    have Y1 := dHide ((dUnhide Y0).below b1)
    have Z1 := dHide ((dUnhide Z0).below b1)
    have s1 := b1.size
    have y0 := dUnhide Y1 0 _ rfl
    have y1 := dUnhide Y1 1 _ rfl
    clear B0 b1 Z0 CO X0 Y0
    go_wp2_with fail
    refine (dUnhide CP _ B1).mono ?_
    rintro e w2 ⟨⟨u2, rfl, N2⟩, b2⟩
    obtain ⟨ua, uc, rfl⟩ := N2.slice
    have B2 := belowThen B1 b2
    have s2 := b2.size
    have X2 := dHide ((dUnhide X1).below b2)
    have Y2 := dHide ((dUnhide Y1).below b2)
    have Z2 := dHide ((dUnhide Z1).below b2)
    clear X1 Y1 Z1 B1 b2 CP y0 y1
    have bA := ba w2 (.cells #[.slice ua m.eras.length uc, .int .i64 m.trim] 29)
    have O3 := dHide (BxZ.new (B := w.heap.size) w2 [.slice ua m.eras.length uc, .int .i64 m.trim] 29 (by have := dUnhide hsz0; omega))
    have X3 := dHide ((dUnhide X2).below bA)
    have Y3 := dHide ((dUnhide Y2).below bA)
    have Z3 := dHide ((dUnhide Z2).below bA)
    have N3 := dHide ((N2.below bA).mono (base' := w.heap.size + 3) (by have := dUnhide hsz0; omega))
    have S3 : Hid (Sits (OwEraS w1.heap.size w2.heap.size (.slice ua m.eras.length uc) m.eras) w1.heap.size w2.heap.size (w2.alloc (.cells #[.slice ua m.eras.length uc, .int .i64 m.trim] 29))) := (OwK.sits N2.ow (Nat.le_refl _)).below bA
    have hw1 : w.heap.size + 3 ≤ w1.heap.size := by have := dUnhide hsz0; omega
    have N2h := dHide N2
    have b23 := bA
    have NB : Hid (∀ j, touch (.slice ua m.eras.length uc) = some j → j < w2.heap.size) := fun j hj => (N2.touched hj).2
    have B3 := belowThen B2 bA
    have y0 := dUnhide Y3 0 _ rfl
    have y1 := dUnhide Y3 1 _ rfl
    have x0 := dUnhide X3 0 _ rfl
    have x1 := dUnhide X3 1 _ rfl
    have hw2 : w.heap.size + 3 ≤ w2.heap.size := by have := dUnhide hsz0; omega
    clear X2 Y2 Z2 B2 bA N2
    go_wp2_with fail
    generalize w2.alloc (.cells #[.slice ua m.eras.length uc, .int .i64 m.trim] 29) = w3 at *
    have hbr := Below.refl w3.heap.size w3
    go_cut [26] (fun sv wx => sv = .bool true ∧ Below w3.heap.size w3 wx)
    case first =>
      refine wp_region_noPanic ?_
      refine wp_region_held_drew (S := fun W => W.cell? ⟨w.heap.size + 1, 0, none⟩ = some (.slice a m.eras.length cap)) (by kernel_rfl) ?_ (fun hHeld => ?_)
      · go_keep
      refine wpAnyH_take (i := 0) (oi := { dst := some 16, op := Op.move (Operand.tmp 2), type := 3, pos := "l07_register.go:72", after := #[], guard := none }) (v := ?_) rfl (by kernel_rfl) (by kernel_rfl) (by kernel_rfl) (fun _ _ _ h => h) (Or.inl ⟨by rfl, ?_⟩) (by assumption) ?_
      rotate_left 1
      · intro w hSw
        (try dsimp only at hSw)
        first | (go_simp; done) | (go_simp; with_reducible rfl)
      try simp only [Act.put, List.setIfInBounds_toArray, List.set_cons_zero, List.set_cons_succ]
      refine wpAnyH_ready (rs := [1]) (by kernel_rfl) (by simp) ?_
      refine AllReadyH.cons (o := { dst := some 17, op := Op.call { callee := Callee.value (Operand.func 52), args := #[Operand.tmp 16], argTypes := #[3] }, type := 4, pos := "l07_register.go:72", after := #[{ on := 0, ground := Ground.data }], guard := none }) rfl (fun K hK => ?_) AllReadyH.nil
      go_simp
      refine (dUnhide C1 _).mono ?_
      rintro e w5 ⟨rfl, rfl⟩
      (try go_wp2_with fail)
      refine hK.out _ _ ?_ (fun hHeld => ?_)
      · go_keep
      clear hK K
      try simp only [Act.put, List.setIfInBounds_toArray, List.set_cons_zero, List.set_cons_succ]
      refine wpAnyH_take (i := 2) (oi := { dst := some 18, op := Op.unOp UnOp.not 4 (Operand.tmp 17), type := 4, pos := "l07_register.go:72", after := #[{ on := 1, ground := Ground.data }], guard := none }) (v := ?_) rfl (by kernel_rfl) (by kernel_rfl) (by kernel_rfl) (fun _ _ _ h => h) (Or.inl ⟨by rfl, ?_⟩) (by assumption) ?_
      rotate_left 1
      · intro w hSw
        (try dsimp only at hSw)
        first | (go_simp; done) | (go_simp; with_reducible rfl)
      try simp only [Act.put, List.setIfInBounds_toArray, List.set_cons_zero, List.set_cons_succ]
      refine wpAnyH_take (i := 3) (oi := { dst := some 19, op := Op.move (Operand.tmp 18), type := 4, pos := "l07_register.go:72", after := #[{ on := 2, ground := Ground.data }, { on := 1, ground := Ground.chain }], guard := none }) (v := ?_) rfl (by kernel_rfl) (by kernel_rfl) (by kernel_rfl) (fun _ _ _ h => h) (Or.inl ⟨by rfl, ?_⟩) (by assumption) ?_
      rotate_left 1
      · intro w hSw
        (try dsimp only at hSw)
        first | (go_simp; done) | (go_simp; with_reducible rfl)
      try simp only [Act.put, List.setIfInBounds_toArray, List.set_cons_zero, List.set_cons_succ]
      refine wpAnyH_take (i := 4) (oi := { dst := some 20, op := Op.move (Operand.tmp 2), type := 3, pos := "l07_register.go:72", after := #[{ on := 3, ground := Ground.guard }], guard := some (3, false) }) (v := undef) rfl (by kernel_rfl) (by kernel_rfl) (by kernel_rfl) (fun _ _ _ h => h) (Or.inr ⟨by rfl, rfl⟩) (by assumption) ?_
      try simp only [Act.put, List.setIfInBounds_toArray, List.set_cons_zero, List.set_cons_succ]
      refine wpAnyH_take (i := 5) (oi := { dst := some 21, op := Op.call { callee := Callee.value (Operand.func 53), args := #[Operand.tmp 20], argTypes := #[3] }, type := 3, pos := "l07_register.go:72", after := #[{ on := 4, ground := Ground.data }, { on := 3, ground := Ground.chain }, { on := 3, ground := Ground.guard }], guard := some (3, false) }) (v := undef) rfl (by kernel_rfl) (by kernel_rfl) (by kernel_rfl) (fun _ _ _ h => h) (Or.inr ⟨by rfl, rfl⟩) (by assumption) ?_
      try simp only [Act.put, List.setIfInBounds_toArray, List.set_cons_zero, List.set_cons_succ]
      refine wpAnyH_take (i := 6) (oi := { dst := some 22, op := Op.fieldAddr 29 (Operand.tmp 4) 0, type := 0, pos := "l07_register.go:72", after := #[{ on := 3, ground := Ground.guard }], guard := some (3, false) }) (v := undef) rfl (by kernel_rfl) (by kernel_rfl) (by kernel_rfl) (fun _ _ _ h => h) (Or.inr ⟨by rfl, rfl⟩) (by assumption) ?_
      try simp only [Act.put, List.setIfInBounds_toArray, List.set_cons_zero, List.set_cons_succ]
      refine wpAnyH_take (i := 7) (oi := { dst := some 23, op := Op.load 27 (Operand.tmp 22), type := 27, pos := "l07_register.go:72", after := #[{ on := 6, ground := Ground.data }, { on := 3, ground := Ground.guard }], guard := some (3, false) }) (v := undef) rfl (by kernel_rfl) (by kernel_rfl) (by kernel_rfl) (fun _ _ _ h => h) (Or.inr ⟨by rfl, rfl⟩) (by assumption) ?_
      try simp only [Act.put, List.setIfInBounds_toArray, List.set_cons_zero, List.set_cons_succ]
      refine wpAnyH_take (i := 8) (oi := { dst := some 24, op := Op.call { callee := Callee.builtin Builtin.len, args := #[Operand.tmp 23], argTypes := #[27] }, type := 3, pos := "l07_register.go:72", after := #[{ on := 7, ground := Ground.data }, { on := 3, ground := Ground.guard }], guard := some (3, false) }) (v := undef) rfl (by kernel_rfl) (by kernel_rfl) (by kernel_rfl) (fun _ _ _ h => h) (Or.inr ⟨by rfl, rfl⟩) (by assumption) ?_
      try simp only [Act.put, List.setIfInBounds_toArray, List.set_cons_zero, List.set_cons_succ]
      refine wpAnyH_take (i := 9) (oi := { dst := some 25, op := Op.binOp BinOp.gtr 3 (Operand.tmp 21) (Operand.tmp 24) 3, type := 4, pos := "l07_register.go:72", after := #[{ on := 5, ground := Ground.data }, { on := 8, ground := Ground.data }, { on := 3, ground := Ground.guard }], guard := some (3, false) }) (v := undef) rfl (by kernel_rfl) (by kernel_rfl) (by kernel_rfl) (fun _ _ _ h => h) (Or.inr ⟨by rfl, rfl⟩) (by assumption) ?_
      try simp only [Act.put, List.setIfInBounds_toArray, List.set_cons_zero, List.set_cons_succ]
      refine wpAnyH_take (i := 10) (oi := { dst := some 26, op := Op.pick (Operand.tmp 19) (Operand.const (Value.bool true)) (Operand.tmp 25), type := 4, pos := "l07_register.go:72", after := #[{ on := 3, ground := Ground.data }, { on := 9, ground := Ground.data }], guard := none }) (v := ?_) rfl (by kernel_rfl) (by kernel_rfl) (by kernel_rfl) (fun _ _ _ h => h) (Or.inl ⟨by rfl, ?_⟩) (by assumption) ?_
      rotate_left 1
      · intro w hSw
        (try dsimp only at hSw)
        first | (go_simp; done) | (go_simp; with_reducible rfl)
      try simp only [Act.put, List.setIfInBounds_toArray, List.set_cons_zero, List.set_cons_succ]
      refine wpAnyH_done (by kernel_rfl) ?_ _
      refine NoPanic.normal ?_
      go_wp2_with fail
      go_meet
      case rel => exact ⟨rfl, hbr.drew⟩
    case rest =>
      obtain ⟨rfl, bc⟩ := hcut
      clear hbr
      generalize wc = w4 at *
      have B4 := belowThen B3 bc
      have s4 := bc.size
      have ZF := dHide ((dUnhide Z3).below bc)
      have OF := dHide ((dUnhide O3).below bc)
      have N4 := dHide ((dUnhide N3).below bc)
      have S4 := dHide ((dUnhide S3).below bc)
      have sB : w2.heap.size < w4.heap.size := by have := (dUnhide OF).lt; exact this
      clear y0 y1 x0 x1 X3 Y3 Z3 N3 O3 bc B3
      obtain ⟨z0, f0⟩ := (dUnhide ZF).2 0 _ rfl
      obtain ⟨z1, f1⟩ := (dUnhide ZF).2 1 _ rfl
      obtain ⟨p0, g0⟩ := (dUnhide OF).2 0 _ rfl
      obtain ⟨p1, g1⟩ := (dUnhide OF).2 1 _ rfl
      have ZZ := dHide (((dUnhide ZF).put 0 (.slice ua m.eras.length uc)).put 1 (.int .i64 m.trim))
      have BB := dHide ((B4.setCell (p := ⟨w.heap.size + 1 + 1, 0, none⟩) (by simp only; omega) (.slice ua m.eras.length uc)).setCell (p := ⟨w.heap.size + 1 + 1, 1, none⟩) (by simp only; omega) (.int .i64 m.trim))
      have OO : Hid (OwEraS (w.heap.size + 3) w4.heap.size (.slice ua m.eras.length uc) _ ((w4.setCell ⟨w.heap.size + 1 + 1, 0, none⟩ (.slice ua m.eras.length uc)).setCell ⟨w.heap.size + 1 + 1, 1, none⟩ (.int .i64 m.trim))) := OwK.far (OwK.far (dUnhide N4).ow (by omega) _) (by omega) _
      have FV : Hid (Full ((w4.setCell ⟨w.heap.size + 1 + 1, 0, none⟩ (.slice ua m.eras.length uc)).setCell ⟨w.heap.size + 1 + 1, 1, none⟩ (.int .i64 m.trim)) (w.heap.size + 3) (.slice ua m.eras.length uc)) := (((dUnhide N4).full).set _ _ _).set _ _ _
      have hV : w4.heap.size = ((w4.setCell ⟨w.heap.size + 1 + 1, 0, none⟩ (.slice ua m.eras.length uc)).setCell ⟨w.heap.size + 1 + 1, 1, none⟩ (.int .i64 m.trim)).heap.size := by simp
      go_wp2_with fail
      generalize (w4.setCell ⟨w.heap.size + 1 + 1, 0, none⟩ (.slice ua m.eras.length uc)).setCell ⟨w.heap.size + 1 + 1, 1, none⟩ (.int .i64 m.trim) = V at *
      have q0 := ((dUnhide ZZ).2 0 _ rfl).1
      have q1 := ((dUnhide ZZ).2 1 _ rfl).1
      clear z0 z1 f0 f1 p0 p1 g0 g1
      rw [hV] at OO
      refine bodyPost_ret (v := .tuple #[.agg #[.slice ua m.eras.length uc, .int .i64 m.trim], .bool false]) (by simp [results, Tryz.results62, go_sem, q0, q1]) rfl ⟨⟨_, rfl, ⟨_, rfl, OwK.wide (dUnhide OO) (by omega) (Nat.le_refl _)⟩, _, _, rfl, (dUnhide FV).mono (by omega)⟩, dUnhide BB⟩
theorem specRegTrim_any (cv v : Value) (c : List Int × Int) (m : Rg) (x : Int) (okx : okInt x) (w : World) (hc : RdConfig cv c w) (hv : RdRegister v m w) (ok : okRegister m) (hs : sizRegister m ≤ 1048576) :
    Calls Tryz.prog 62 #[cv, v, .int .i64 x] w fun e w' => (∃ u, e = .returned (.tuple #[u, .bool (trimR c.1 c.2 m x).2]) ∧ OwRegister w.heap.size w'.heap.size u (trimR c.1 c.2 m x).1 w') ∧ Below w.heap.size w w' :=
  (specRegTrim_full cv v c m x okx w hc hv ok hs).mono fun _ _ ⟨⟨u, h1, h2, _⟩, h3⟩ => ⟨⟨u, h1, h2⟩, h3⟩
end Go.Proofs.YthndkkjgjhgdnaaGreatDoor

