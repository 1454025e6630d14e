/- spec's RegOpen (printed by tools/mkrgh.py). -/
import Derived.Test.YthndkkjgjhgdnaaGreatDoorRgF
namespace Go.Proofs.YthndkkjgjhgdnaaGreatDoor
open Go.ChangeShapes Go.WideShapes Go.ChangeAt Go.RowKit
set_option linter.unusedVariables false
set_option linter.unusedSimpArgs false
set_option maxRecDepth 100000

/-- When RegOpen does. -/
def openP (ds : List Int) (cop : Int) (m : Rg) (xs : List Int) : Prop := holdsP ds cop xs ∧ m.eras.length ≠ 30
open Classical in
/-- RegOpen. -/
noncomputable def openM (ds : List Int) (cop : Int) (m : Rg) (xs : List Int) : Rg × Int × Bool := if regP ds cop m then (if openP ds cop m xs then (⟨m.eras ++ [⟨xs, false, 0⟩], m.trim⟩, (m.eras.length : Int) + 1, true) else (m, 0, false)) else (zeroRg, 0, false)
theorem openM_bad {ds : List Int} {cop : Int} {m : Rg} {xs : List Int} (h : ¬ regP ds cop m) : openM ds cop m xs = (zeroRg, 0, false) := if_neg h
theorem openM_no {ds : List Int} {cop : Int} {m : Rg} {xs : List Int} (h : regP ds cop m) (hp : ¬ openP ds cop m xs) : openM ds cop m xs = (m, 0, false) := (if_pos h).trans (if_neg hp)
theorem openM_yes {ds : List Int} {cop : Int} {m : Rg} {xs : List Int} (h : regP ds cop m) (hp : openP ds cop m xs) : openM ds cop m xs = (⟨m.eras ++ [⟨xs, false, 0⟩], m.trim⟩, (m.eras.length : Int) + 1, true) := (if_pos h).trans (if_pos hp)
set_option maxHeartbeats 8000000 in
theorem specRegOpen_full (cv v : Value) (c : List Int × Int) (m : Rg) (v2 : Value) (xs : List Int) (w : World) (hc : RdConfig cv c w) (hv : RdRegister v m w) (hx : Ns w v2 xs) (hlx : xs.length ≤ 1048576) (ok : okRegister m) (hs : sizRegister m ≤ 1048576) :
    Calls Tryz.prog 59 #[cv, v, v2] w fun e w' => (∃ u, e = .returned (.tuple #[u, .int .i64 (openM c.1 c.2 m xs).2.1, .bool (openM c.1 c.2 m xs).2.2]) ∧ OwRegister w.heap.size w'.heap.size u (openM c.1 c.2 m xs).1 w' ∧ FullR w' w.heap.size u) ∧ Below w.heap.size w w' := by
  have CO := dHide fun W (hb : Below w.heap.size w W) => specRegOk_any cv v c m W (hc.below hb) (hv.below hb) ok.2 hs
  have CP := dHide fun W (hb : Below w.heap.size w W) => l7Copy_any v m W (hv.below hb) hs
  obtain ⟨ds, cop⟩ := c
  obtain ⟨sc, rfl, hc⟩ := hc
  have CH := dHide fun W (hb : Below w.heap.size w W) => specHolds_any sc v2 ds xs cop W (hc.below hb) (hx.below hb) (by omega)
  have HX := dHide fun W (hb : Below w.heap.size w W) => hx.below hb
  obtain ⟨-, va, vc, rfl, -, -⟩ := hx
  obtain ⟨a, cap, rfl, hl0⟩ := formRegister hv
  have hle : m.eras.length ≤ 1048576 := by unfold sizRegister sizEraS at hs; omega
  obtain ⟨o1, o2⟩ := ok.2
  simp only at *
  obtain ⟨-, ca, cc, rfl, -, -⟩ := hc
  clear hv
  have ba : ∀ (w : World) o, Below w.heap.size w (w.alloc o) := fun w o => (Below.refl _ _).alloc (Nat.le_refl _) o
  have B0 := belowThen (belowThen (ba w (.cells #[.slice ca ds.length cc, .int .i64 cop] 26)) (ba _ (.cells #[.slice a m.eras.length cap, .int .i64 m.trim] 29))) (ba _ (.cells #[.slice none 0 0, .int .i64 0] 29))
  have X0 := dHide ((Bx.new w [.slice ca ds.length cc, .int .i64 cop] 26).below (belowThen (ba _ (.cells #[.slice a m.eras.length cap, .int .i64 m.trim] 29)) (ba _ (.cells #[.slice none 0 0, .int .i64 0] 29))))
  have Y0 := (Bx.new (w.alloc (.cells #[.slice ca ds.length cc, .int .i64 cop] 26)) [.slice a m.eras.length cap, .int .i64 m.trim] 29).below (ba _ (.cells #[.slice none 0 0, .int .i64 0] 29))
  have Z0 := BxZ.new (B := w.heap.size) ((w.alloc (.cells #[.slice ca ds.length cc, .int .i64 cop] 26)).alloc (.cells #[.slice a m.eras.length cap, .int .i64 m.trim] 29)) [.slice none 0 0, .int .i64 0] 29 (by simp <;> omega)
  have e1 : (w.alloc (.cells #[.slice ca ds.length cc, .int .i64 cop] 26)).heap.size = w.heap.size + 1 := by simp
  have e2 : ((w.alloc (.cells #[.slice ca ds.length cc, .int .i64 cop] 26)).alloc (.cells #[.slice a m.eras.length cap, .int .i64 m.trim] 29)).heap.size = w.heap.size + 1 + 1 := by simp
  rw [e1] at Y0
  rw [e2] at Z0
  replace Y0 := dHide Y0
  replace Z0 := dHide Z0
  clear e1 e2
  have hsz0 : Hid (w.heap.size + 1 + 1 + 1 = (((w.alloc (.cells #[.slice ca ds.length cc, .int .i64 cop] 26)).alloc (.cells #[.slice a m.eras.length cap, .int .i64 m.trim] 29)).alloc (.cells #[.slice none 0 0, .int .i64 0] 29)).heap.size) := by simp [Hid]
  by_cases hP : regP ds cop m
  case neg =>
    rw [openM_bad hP]
    replace CO := dHide fun W hb => retB_no (dUnhide CO W hb) hP
    clear CP CH
    go_enter Tryz.func59, Tryz.ntmps59
    go_wp2_with fail
    generalize ((w.alloc (.cells #[.slice ca ds.length cc, .int .i64 cop] 26)).alloc (.cells #[.slice a m.eras.length cap, .int .i64 m.trim] 29)).alloc (.cells #[.slice none 0 0, .int .i64 0] 29) = w0 at *
    refine (dUnhide CO _ B0).mono ?_
    rintro e w1 ⟨rfl, b1⟩
    have B1 := belowThen B0 b1
    have Z1 := dHide ((dUnhide Z0).below b1)
    obtain ⟨z0, f0⟩ := (dUnhide Z1).2 0 _ rfl
    obtain ⟨z1, f1⟩ := (dUnhide Z1).2 1 _ rfl
    have ZZ := dHide (((dUnhide Z1).put 0 (.slice none 0 0)).put 1 (.int .i64 0))
    have BB := dHide ((B1.setCell (p := ⟨w.heap.size + 1 + 1, 0, none⟩) (by simp only; omega) (.slice none 0 0)).setCell (p := ⟨w.heap.size + 1 + 1, 1, none⟩) (by simp only; omega) (.int .i64 0))
    clear B0 b1 Z0 Z1 CO X0 Y0
    go_wp2_with fail
    generalize (w1.setCell ⟨w.heap.size + 1 + 1, 0, none⟩ (.slice none 0 0)).setCell ⟨w.heap.size + 1 + 1, 1, none⟩ (.int .i64 0) = V at *
    have q0 := ((dUnhide ZZ).2 0 _ rfl).1
    have q1 := ((dUnhide ZZ).2 1 _ rfl).1
    refine bodyPost_ret (v := .tuple #[.agg #[.slice none 0 0, .int .i64 0], .int .i64 0, .bool false]) (by simp [results, Tryz.results59, go_sem, q0, q1]) rfl ⟨⟨_, rfl, ⟨_, rfl, (NAp.nil V w.heap.size none).ow⟩, _, _, rfl, .inl ⟨none, rfl⟩⟩, dUnhide BB⟩
  replace CO := dHide fun W hb => retB_yes (dUnhide CO W hb) hP
  by_cases hH : holdsP ds cop xs
  case neg =>
    rw [openM_no hP fun h => hH h.1]
    replace CH := dHide fun W hb => retB_no (dUnhide CH W hb) hH
    go_enter Tryz.func59, Tryz.ntmps59
    go_wp2_with fail
    generalize ((w.alloc (.cells #[.slice ca ds.length cc, .int .i64 cop] 26)).alloc (.cells #[.slice a m.eras.length cap, .int .i64 m.trim] 29)).alloc (.cells #[.slice none 0 0, .int .i64 0] 29) = w0 at *
    refine (dUnhide CO _ B0).mono ?_
    rintro e w1 ⟨rfl, b1⟩
    have B1 := belowThen B0 b1
    have X1 := dHide ((dUnhide X0).below b1)
    have Y1 := dHide ((dUnhide Y0).below b1)
    have Z1 := dHide ((dUnhide Z0).below b1)
    have s1 := b1.size
    have y0 := dUnhide Y1 0 _ rfl
    have y1 := dUnhide Y1 1 _ rfl
    clear B0 b1 Z0 CO X0 Y0
    go_wp2_with fail
    refine (dUnhide CP _ B1).mono ?_
    rintro e w2 ⟨⟨u2, rfl, N2⟩, b2⟩
    obtain ⟨ua, uc, rfl⟩ := N2.slice
    have B2 := belowThen B1 b2
    have s2 := b2.size
    have X2 := dHide ((dUnhide X1).below b2)
    have Y2 := dHide ((dUnhide Y1).below b2)
    have Z2 := dHide ((dUnhide Z1).below b2)
    clear X1 Y1 Z1 B1 b2 CP y0 y1
    have bA := ba w2 (.cells #[.slice ua m.eras.length uc, .int .i64 m.trim] 29)
    have O3 := dHide (BxZ.new (B := w.heap.size) w2 [.slice ua m.eras.length uc, .int .i64 m.trim] 29 (by have := dUnhide hsz0; omega))
    have X3 := dHide ((dUnhide X2).below bA)
    have Y3 := dHide ((dUnhide Y2).below bA)
    have Z3 := dHide ((dUnhide Z2).below bA)
    have N3 := dHide ((N2.below bA).mono (base' := w.heap.size + 3) (by have := dUnhide hsz0; omega))
    have S3 : Hid (Sits (OwEraS w1.heap.size w2.heap.size (.slice ua m.eras.length uc) m.eras) w1.heap.size w2.heap.size (w2.alloc (.cells #[.slice ua m.eras.length uc, .int .i64 m.trim] 29))) := (OwK.sits N2.ow (Nat.le_refl _)).below bA
    have hw1 : w.heap.size + 3 ≤ w1.heap.size := by have := dUnhide hsz0; omega
    have N2h := dHide N2
    have b23 := bA
    have NB : Hid (∀ j, touch (.slice ua m.eras.length uc) = some j → j < w2.heap.size) := fun j hj => (N2.touched hj).2
    have B3 := belowThen B2 bA
    have y0 := dUnhide Y3 0 _ rfl
    have y1 := dUnhide Y3 1 _ rfl
    have x0 := dUnhide X3 0 _ rfl
    have x1 := dUnhide X3 1 _ rfl
    have hw2 : w.heap.size + 3 ≤ w2.heap.size := by have := dUnhide hsz0; omega
    clear X2 Y2 Z2 B2 bA N2
    go_wp2_with fail
    generalize w2.alloc (.cells #[.slice ua m.eras.length uc, .int .i64 m.trim] 29) = w3 at *
    refine (dUnhide CH _ B3).mono ?_
    rintro e w4 ⟨rfl, b4⟩
    have B4 := belowThen B3 b4
    have b24 := belowThen b23 b4
    have s4 := b4.size
    have y0' := (dUnhide Y3).below b4 0 _ rfl
    have ZF := dHide ((dUnhide Z3).below b4)
    have OF := dHide ((dUnhide O3).below b4)
    have N4 := dHide ((dUnhide N3).below b4)
    have sA : w2.heap.size < w4.heap.size := by have := (dUnhide OF).lt; exact this
    clear y0 y1 x0 x1 X3 Y3 Z3 N3 O3 b4 CH B3 S3

    obtain ⟨z0, f0⟩ := (dUnhide ZF).2 0 _ rfl
    obtain ⟨z1, f1⟩ := (dUnhide ZF).2 1 _ rfl
    obtain ⟨p0, g0⟩ := (dUnhide OF).2 0 _ rfl
    obtain ⟨p1, g1⟩ := (dUnhide OF).2 1 _ rfl
    have ZZ := dHide (((dUnhide ZF).put 0 (.slice ua m.eras.length uc)).put 1 (.int .i64 m.trim))
    have BB := dHide ((B4.setCell (p := ⟨w.heap.size + 1 + 1, 0, none⟩) (by simp only; omega) (.slice ua m.eras.length uc)).setCell (p := ⟨w.heap.size + 1 + 1, 1, none⟩) (by simp only; omega) (.int .i64 m.trim))
    have OO : Hid (OwEraS (w.heap.size + 3) w4.heap.size (.slice ua m.eras.length uc) _ ((w4.setCell ⟨w.heap.size + 1 + 1, 0, none⟩ (.slice ua m.eras.length uc)).setCell ⟨w.heap.size + 1 + 1, 1, none⟩ (.int .i64 m.trim))) := OwK.far (OwK.far (dUnhide N4).ow (by omega) _) (by omega) _
    have FV : Hid (Full ((w4.setCell ⟨w.heap.size + 1 + 1, 0, none⟩ (.slice ua m.eras.length uc)).setCell ⟨w.heap.size + 1 + 1, 1, none⟩ (.int .i64 m.trim)) (w.heap.size + 3) (.slice ua m.eras.length uc)) := (((dUnhide N4).full).set _ _ _).set _ _ _
    have hV : w4.heap.size = ((w4.setCell ⟨w.heap.size + 1 + 1, 0, none⟩ (.slice ua m.eras.length uc)).setCell ⟨w.heap.size + 1 + 1, 1, none⟩ (.int .i64 m.trim)).heap.size := by simp
    go_wp2_with fail
    generalize (w4.setCell ⟨w.heap.size + 1 + 1, 0, none⟩ (.slice ua m.eras.length uc)).setCell ⟨w.heap.size + 1 + 1, 1, none⟩ (.int .i64 m.trim) = V at *
    have q0 := ((dUnhide ZZ).2 0 _ rfl).1
    have q1 := ((dUnhide ZZ).2 1 _ rfl).1
    clear z0 z1 f0 f1 p0 p1 g0 g1
    rw [hV] at OO
    refine bodyPost_ret (v := .tuple #[.agg #[.slice ua m.eras.length uc, .int .i64 m.trim], .int .i64 0, .bool false]) (by simp [results, Tryz.results59, go_sem, q0, q1]) rfl ⟨⟨_, rfl, ⟨_, rfl, OwK.wide (dUnhide OO) (by omega) (Nat.le_refl _)⟩, _, _, rfl, (dUnhide FV).mono (by omega)⟩, dUnhide BB⟩
  replace CH := dHide fun W hb => retB_yes (dUnhide CH W hb) hH
  by_cases h30 : m.eras.length = 30
  · rw [openM_no hP fun h => h.2 h30]
    have hb1 : ((m.eras.length : Int) == 30) = true := by simp [h30]
    clear h30
    go_enter Tryz.func59, Tryz.ntmps59
    go_wp2_with fail
    generalize ((w.alloc (.cells #[.slice ca ds.length cc, .int .i64 cop] 26)).alloc (.cells #[.slice a m.eras.length cap, .int .i64 m.trim] 29)).alloc (.cells #[.slice none 0 0, .int .i64 0] 29) = w0 at *
    refine (dUnhide CO _ B0).mono ?_
    rintro e w1 ⟨rfl, b1⟩
    have B1 := belowThen B0 b1
    have X1 := dHide ((dUnhide X0).below b1)
    have Y1 := dHide ((dUnhide Y0).below b1)
    have Z1 := dHide ((dUnhide Z0).below b1)
    have s1 := b1.size
    have y0 := dUnhide Y1 0 _ rfl
    have y1 := dUnhide Y1 1 _ rfl
    clear B0 b1 Z0 CO X0 Y0
    go_wp2_with fail
    refine (dUnhide CP _ B1).mono ?_
    rintro e w2 ⟨⟨u2, rfl, N2⟩, b2⟩
    obtain ⟨ua, uc, rfl⟩ := N2.slice
    have B2 := belowThen B1 b2
    have s2 := b2.size
    have X2 := dHide ((dUnhide X1).below b2)
    have Y2 := dHide ((dUnhide Y1).below b2)
    have Z2 := dHide ((dUnhide Z1).below b2)
    clear X1 Y1 Z1 B1 b2 CP y0 y1
    have bA := ba w2 (.cells #[.slice ua m.eras.length uc, .int .i64 m.trim] 29)
    have O3 := dHide (BxZ.new (B := w.heap.size) w2 [.slice ua m.eras.length uc, .int .i64 m.trim] 29 (by have := dUnhide hsz0; omega))
    have X3 := dHide ((dUnhide X2).below bA)
    have Y3 := dHide ((dUnhide Y2).below bA)
    have Z3 := dHide ((dUnhide Z2).below bA)
    have N3 := dHide ((N2.below bA).mono (base' := w.heap.size + 3) (by have := dUnhide hsz0; omega))
    have S3 : Hid (Sits (OwEraS w1.heap.size w2.heap.size (.slice ua m.eras.length uc) m.eras) w1.heap.size w2.heap.size (w2.alloc (.cells #[.slice ua m.eras.length uc, .int .i64 m.trim] 29))) := (OwK.sits N2.ow (Nat.le_refl _)).below bA
    have hw1 : w.heap.size + 3 ≤ w1.heap.size := by have := dUnhide hsz0; omega
    have N2h := dHide N2
    have b23 := bA
    have NB : Hid (∀ j, touch (.slice ua m.eras.length uc) = some j → j < w2.heap.size) := fun j hj => (N2.touched hj).2
    have B3 := belowThen B2 bA
    have y0 := dUnhide Y3 0 _ rfl
    have y1 := dUnhide Y3 1 _ rfl
    have x0 := dUnhide X3 0 _ rfl
    have x1 := dUnhide X3 1 _ rfl
    have hw2 : w.heap.size + 3 ≤ w2.heap.size := by have := dUnhide hsz0; omega
    clear X2 Y2 Z2 B2 bA N2
    go_wp2_with fail
    generalize w2.alloc (.cells #[.slice ua m.eras.length uc, .int .i64 m.trim] 29) = w3 at *
    refine (dUnhide CH _ B3).mono ?_
    rintro e w4 ⟨rfl, b4⟩
    have B4 := belowThen B3 b4
    have b24 := belowThen b23 b4
    have s4 := b4.size
    have y0' := (dUnhide Y3).below b4 0 _ rfl
    have ZF := dHide ((dUnhide Z3).below b4)
    have OF := dHide ((dUnhide O3).below b4)
    have N4 := dHide ((dUnhide N3).below b4)
    have sA : w2.heap.size < w4.heap.size := by have := (dUnhide OF).lt; exact this
    clear y0 y1 x0 x1 X3 Y3 Z3 N3 O3 b4 CH B3 S3

    obtain ⟨z0, f0⟩ := (dUnhide ZF).2 0 _ rfl
    obtain ⟨z1, f1⟩ := (dUnhide ZF).2 1 _ rfl
    obtain ⟨p0, g0⟩ := (dUnhide OF).2 0 _ rfl
    obtain ⟨p1, g1⟩ := (dUnhide OF).2 1 _ rfl
    have ZZ := dHide (((dUnhide ZF).put 0 (.slice ua m.eras.length uc)).put 1 (.int .i64 m.trim))
    have BB := dHide ((B4.setCell (p := ⟨w.heap.size + 1 + 1, 0, none⟩) (by simp only; omega) (.slice ua m.eras.length uc)).setCell (p := ⟨w.heap.size + 1 + 1, 1, none⟩) (by simp only; omega) (.int .i64 m.trim))
    have OO : Hid (OwEraS (w.heap.size + 3) w4.heap.size (.slice ua m.eras.length uc) _ ((w4.setCell ⟨w.heap.size + 1 + 1, 0, none⟩ (.slice ua m.eras.length uc)).setCell ⟨w.heap.size + 1 + 1, 1, none⟩ (.int .i64 m.trim))) := OwK.far (OwK.far (dUnhide N4).ow (by omega) _) (by omega) _
    have FV : Hid (Full ((w4.setCell ⟨w.heap.size + 1 + 1, 0, none⟩ (.slice ua m.eras.length uc)).setCell ⟨w.heap.size + 1 + 1, 1, none⟩ (.int .i64 m.trim)) (w.heap.size + 3) (.slice ua m.eras.length uc)) := (((dUnhide N4).full).set _ _ _).set _ _ _
    have hV : w4.heap.size = ((w4.setCell ⟨w.heap.size + 1 + 1, 0, none⟩ (.slice ua m.eras.length uc)).setCell ⟨w.heap.size + 1 + 1, 1, none⟩ (.int .i64 m.trim)).heap.size := by simp
    go_wp2_with fail
    generalize (w4.setCell ⟨w.heap.size + 1 + 1, 0, none⟩ (.slice ua m.eras.length uc)).setCell ⟨w.heap.size + 1 + 1, 1, none⟩ (.int .i64 m.trim) = V at *
    have q0 := ((dUnhide ZZ).2 0 _ rfl).1
    have q1 := ((dUnhide ZZ).2 1 _ rfl).1
    clear z0 z1 f0 f1 p0 p1 g0 g1
    rw [hV] at OO
    refine bodyPost_ret (v := .tuple #[.agg #[.slice ua m.eras.length uc, .int .i64 m.trim], .int .i64 0, .bool false]) (by simp [results, Tryz.results59, go_sem, q0, q1]) rfl ⟨⟨_, rfl, ⟨_, rfl, OwK.wide (dUnhide OO) (by omega) (Nat.le_refl _)⟩, _, _, rfl, (dUnhide FV).mono (by omega)⟩, dUnhide BB⟩
  rw [openM_yes hP ⟨hH, h30⟩]
  have hb1 : ((m.eras.length : Int) == 30) = false := by simp; omega
  have h30' : m.eras.length ≤ 30 := hP.2.1
  clear h30 hH
  go_enter Tryz.func59, Tryz.ntmps59
  go_wp2_with fail
  generalize ((w.alloc (.cells #[.slice ca ds.length cc, .int .i64 cop] 26)).alloc (.cells #[.slice a m.eras.length cap, .int .i64 m.trim] 29)).alloc (.cells #[.slice none 0 0, .int .i64 0] 29) = w0 at *
  refine (dUnhide CO _ B0).mono ?_
  rintro e w1 ⟨rfl, b1⟩
  have B1 := belowThen B0 b1
  have X1 := dHide ((dUnhide X0).below b1)
  have Y1 := dHide ((dUnhide Y0).below b1)
  have Z1 := dHide ((dUnhide Z0).below b1)
  have s1 := b1.size
  have y0 := dUnhide Y1 0 _ rfl
  have y1 := dUnhide Y1 1 _ rfl
  clear B0 b1 Z0 CO X0 Y0
  go_wp2_with fail
  refine (dUnhide CP _ B1).mono ?_
  rintro e w2 ⟨⟨u2, rfl, N2⟩, b2⟩
  obtain ⟨ua, uc, rfl⟩ := N2.slice
  have B2 := belowThen B1 b2
  have s2 := b2.size
  have X2 := dHide ((dUnhide X1).below b2)
  have Y2 := dHide ((dUnhide Y1).below b2)
  have Z2 := dHide ((dUnhide Z1).below b2)
  clear X1 Y1 Z1 B1 b2 CP y0 y1
  have bA := ba w2 (.cells #[.slice ua m.eras.length uc, .int .i64 m.trim] 29)
  have O3 := dHide (BxZ.new (B := w.heap.size) w2 [.slice ua m.eras.length uc, .int .i64 m.trim] 29 (by have := dUnhide hsz0; omega))
  have X3 := dHide ((dUnhide X2).below bA)
  have Y3 := dHide ((dUnhide Y2).below bA)
  have Z3 := dHide ((dUnhide Z2).below bA)
  have N3 := dHide ((N2.below bA).mono (base' := w.heap.size + 3) (by have := dUnhide hsz0; omega))
  have S3 : Hid (Sits (OwEraS w1.heap.size w2.heap.size (.slice ua m.eras.length uc) m.eras) w1.heap.size w2.heap.size (w2.alloc (.cells #[.slice ua m.eras.length uc, .int .i64 m.trim] 29))) := (OwK.sits N2.ow (Nat.le_refl _)).below bA
  have hw1 : w.heap.size + 3 ≤ w1.heap.size := by have := dUnhide hsz0; omega
  have N2h := dHide N2
  have b23 := bA
  have NB : Hid (∀ j, touch (.slice ua m.eras.length uc) = some j → j < w2.heap.size) := fun j hj => (N2.touched hj).2
  have B3 := belowThen B2 bA
  have y0 := dUnhide Y3 0 _ rfl
  have y1 := dUnhide Y3 1 _ rfl
  have x0 := dUnhide X3 0 _ rfl
  have x1 := dUnhide X3 1 _ rfl
  have hw2 : w.heap.size + 3 ≤ w2.heap.size := by have := dUnhide hsz0; omega
  clear X2 Y2 Z2 B2 bA N2
  go_wp2_with fail
  generalize w2.alloc (.cells #[.slice ua m.eras.length uc, .int .i64 m.trim] 29) = w3 at *
  refine (dUnhide CH _ B3).mono ?_
  rintro e w4 ⟨rfl, b4⟩
  have B4 := belowThen B3 b4
  have b24 := belowThen b23 b4
  have s4 := b4.size
  have y0' := (dUnhide Y3).below b4 0 _ rfl
  have ZF := dHide ((dUnhide Z3).below b4)
  have OF := dHide ((dUnhide O3).below b4)
  have N4 := dHide ((dUnhide N3).below b4)
  have sA : w2.heap.size < w4.heap.size := by have := (dUnhide OF).lt; exact this
  clear y0 y1 x0 x1 X3 Y3 Z3 N3 O3 b4 CH B3 S3

  have p0 := ((dUnhide OF).2 0 _ rfl).1
  have p1 := ((dUnhide OF).2 1 _ rfl).1
  have bD : Below w4.heap.size w4 w4.drew := (Below.refl _ _).drew
  have bA := belowThen bD (ba w4.drew (.cells #[] 3))
  have pA := ((dUnhide OF).below bA).2 0 _ rfl |>.1
  obtain ⟨r0, m1, m2, m3, m4, m5⟩ := dUnhide N2h
  have hl0 : r0.length = m.eras.length := by rw [← m1, List.length_map]
  have tv : Hid (∀ j, touch (.slice ua m.eras.length uc) = some j → w1.heap.size ≤ j ∧ j < w2.heap.size) := fun j hj => m2.touched elemR hj
  have ob : Hid (∀ p ∈ r0, p.m.nodes = [] ∨ blockOf (Sv Er.nodes p) < w2.heap.size) := fun p hp => (m3 p hp).bs.lt
  have M := dHide (And.intro m1 (And.intro (m2.mono hw1) (And.intro (fun p hp => (m3 p hp).mono hw1) (And.intro m4 m5))))
  clear m1 m2 m3 m4 m5
  go_wp2_with fail
  go_cut [35] (fun sv wx => ∃ a7 c7, sv = .slice a7 (m.eras.length + 1) c7 ∧ NAp wx (w.heap.size + 3) (.slice a7 (m.eras.length + 1) c7) (m.eras ++ [⟨xs, false, 0⟩]) ∧ BxZ wx w.heap.size w2.heap.size [.slice a7 (m.eras.length + 1) c7, .int .i64 m.trim] ∧ BxZ wx w.heap.size (w.heap.size + 1 + 1) [.slice none 0 0, .int .i64 0] ∧ w.heap.size + 3 ≤ wx.heap.size ∧ Below w.heap.size w wx)
  case first =>
    refine wp_region_noPanic ?_
    refine wp_region_held_drew (S := fun _ => True) (by kernel_rfl) (trivial) (fun hHeld => ?_)
    refine wpAnyH_take (i := 0) (oi := { dst := some 28, op := Op.fieldAddr 29 (Operand.tmp 9) 0, type := 0, pos := "l07_register.go:40", after := #[], guard := none }) (v := ?_) rfl (by kernel_rfl) (by kernel_rfl) (by kernel_rfl) (fun _ _ _ h => h) (Or.inl ⟨by rfl, ?_⟩) (by assumption) ?_
    rotate_left 1
    · intro w hSw
      (try dsimp only at hSw)
      first | (go_simp; done) | (go_simp; with_reducible rfl)
    try simp only [Act.put, List.setIfInBounds_toArray, List.set_cons_zero, List.set_cons_succ]
    refine wpAnyH_take (i := 3) (oi := { dst := some 31, op := Op.move (Operand.tmp 2), type := 24, pos := "l07_register.go:40", after := #[], guard := none }) (v := ?_) rfl (by kernel_rfl) (by kernel_rfl) (by kernel_rfl) (fun _ _ _ h => h) (Or.inl ⟨by rfl, ?_⟩) (by assumption) ?_
    rotate_left 1
    · intro w hSw
      (try dsimp only at hSw)
      first | (go_simp; done) | (go_simp; with_reducible rfl)
    try simp only [Act.put, List.setIfInBounds_toArray, List.set_cons_zero, List.set_cons_succ]
    refine wpAnyH_ready (rs := [1, 2]) (by kernel_rfl) (by simp) ?_
    refine AllReadyH.cons (o := { dst := some 29, op := Op.load 27 (Operand.tmp 28), type := 27, pos := "l07_register.go:40", after := #[{ on := 0, ground := Ground.data }], guard := none }) rfl (fun K hK => ?_) (AllReadyH.cons (o := { dst := some 30, op := Op.buildSlice 24 0 #[], type := 24, pos := "l07_register.go:40", after := #[], guard := none }) rfl (fun K hK => ?_) AllReadyH.nil)
    · go_simp
      refine hK.out _ _ (trivial) (fun hHeld => ?_)
      clear hK K
      try simp only [Act.put, List.setIfInBounds_toArray, List.set_cons_zero, List.set_cons_succ]
      refine wpAnyH_ready (rs := [2]) (by kernel_rfl) (by simp) ?_
      refine AllReadyH.cons (o := { dst := some 30, op := Op.buildSlice 24 0 #[], type := 24, pos := "l07_register.go:40", after := #[], guard := none }) rfl (fun K hK => ?_) AllReadyH.nil
      go_simp
      refine hK.out _ _ (trivial) (fun hHeld => ?_)
      clear hK K
      try simp only [Act.put, List.setIfInBounds_toArray, List.set_cons_zero, List.set_cons_succ]
      refine wpAnyH_ready (rs := [4]) (by kernel_rfl) (by simp) ?_
      refine AllReadyH.cons (o := { dst := some 32, op := Op.call { callee := Callee.builtin Builtin.append, args := #[Operand.tmp 30, Operand.tmp 31], argTypes := #[24, 24] }, type := 24, pos := "l07_register.go:40", after := #[{ on := 2, ground := Ground.data }, { on := 3, ground := Ground.data }], guard := none }) rfl (fun K hK => ?_) AllReadyH.nil
      refine step_cpN rfl _ _ rfl _ rfl _ xs rfl (dUnhide HX _ (belowThen B4 bA)) (by omega) ?_
      intro u5 w5 O5 b5
      obtain ⟨-, ua5, uc5, rfl, -, -⟩ := O5.bs
      have b5' := belowThen bA b5
      have p5 := ((dUnhide OF).below b5').2 0 _ rfl |>.1
      have p6 := ((dUnhide OF).below (belowThen b5' (ba w5 (.cells #[.slice ua5 xs.length uc5, .bool false, .int .i64 0] 57)))).2 0 _ rfl |>.1
      have P6 := dHide (((dUnhide M).2.1.below (belowThen b24 b5')).below (ba w5 (.cells #[.slice ua5 xs.length uc5, .bool false, .int .i64 0] 57)))
      have RO := dHide (rwR_one w5 ⟨ua5, uc5, xs, false, 0⟩ 57 1 (by omega))
      have HO5 := dHide O5
      have sz5 := b5'.size
      clear O5
      refine hK.out _ _ (trivial) (fun hHeld => ?_)
      clear hK K
      try simp only [Act.put, List.setIfInBounds_toArray, List.set_cons_zero, List.set_cons_succ]
      refine wpAnyH_take (i := 5) (oi := { dst := some 33, op := Op.build 57 #[(0, Operand.tmp 32)], type := 57, pos := "l07_register.go:40", after := #[{ on := 4, ground := Ground.data }], guard := none }) (v := ?_) rfl (by kernel_rfl) (by kernel_rfl) (by kernel_rfl) (fun _ _ _ h => h) (Or.inl ⟨by rfl, ?_⟩) (by assumption) ?_
      rotate_left 1
      · intro w hSw
        (try dsimp only at hSw)
        first | (go_simp; done) | (go_simp; with_reducible rfl)
      try simp only [Act.put, List.setIfInBounds_toArray, List.set_cons_zero, List.set_cons_succ]
      refine wpAnyH_ready (rs := [6]) (by kernel_rfl) (by simp) ?_
      refine AllReadyH.cons (o := { dst := some 34, op := Op.buildSlice 27 1 #[(0, Operand.tmp 33)], type := 27, pos := "l07_register.go:40", after := #[{ on := 5, ground := Ground.data }], guard := none }) rfl (fun K hK => ?_) AllReadyH.nil
      go_simp
      refine hK.out _ _ (trivial) (fun hHeld => ?_)
      clear hK K
      try simp only [Act.put, List.setIfInBounds_toArray, List.set_cons_zero, List.set_cons_succ]
      refine wpAnyH_ready (rs := [7]) (by kernel_rfl) (by simp) ?_
      refine AllReadyH.cons (o := { dst := some 35, op := Op.call { callee := Callee.builtin Builtin.append, args := #[Operand.tmp 29, Operand.tmp 34], argTypes := #[27, 27] }, type := 27, pos := "l07_register.go:40", after := #[{ on := 1, ground := Ground.data }, { on := 6, ground := Ground.data }, { on := 4, ground := Ground.chain }], guard := none }) rfl (fun K hK => ?_) AllReadyH.nil
      refine step_apR elemR rfl _ _ rfl (w.heap.size + 3) _ r0 rfl (dUnhide P6) _ [⟨ua5, uc5, xs, false, 0⟩] rfl (dUnhide RO) (by simp; omega) (by simp; omega) (by simp; omega) ?_
      intro v7 w7 P7 g7 t7
      obtain ⟨a7, c7, e7⟩ : ∃ a c, v7 = .slice a (m.eras.length + 1) c := by
        obtain ⟨a, c, e⟩ := ApR.slice elemR P7
        exact ⟨a, c, by rw [e]; simp [hl0]⟩
      subst e7
      have NN : Hid (∀ u, NAp (w7.setCell ⟨w2.heap.size, 0, none⟩ u) (w.heap.size + 3) (.slice a7 (m.eras.length + 1) c7) (m.eras ++ [⟨xs, false, 0⟩])) := fun u => NAp.pushO (p := ⟨ua5, uc5, xs, false, 0⟩) (dUnhide M).1 (dUnhide M).2.1 (dUnhide M).2.2.1 (dUnhide M).2.2.2.1 (dUnhide M).2.2.2.2 (fun p hp => (((dUnhide M).2.2.1 p hp).below (belowThen b24 b5')).below (ba _ _)) (by simp; omega) hw2 (((dUnhide HO5).below (ba _ _)).mono (by simp; omega)) P7 g7 t7 (fun e => by have := dUnhide tv _ e; omega) (fun q hq => by
        rcases List.mem_append.1 hq with hq | hq
        · rcases dUnhide ob q hq with h | h
          · exact .inl h
          · exact .inr (by omega)
        · obtain rfl : q = ⟨ua5, uc5, xs, false, 0⟩ := by simpa using hq
          rcases (dUnhide HO5).ge with h | h
          · exact .inl h
          · right
            have e9 : blockOf (Sv Er.nodes (⟨ua5, uc5, xs, false, 0⟩ : Nst Er)) = blockOf (.slice ua5 xs.length uc5) := rfl
            rw [e9]
            simp at h
            omega) (by simp; omega) u
      have OF7 := dHide ((((dUnhide OF).below b5').below (ba w5 (.cells #[.slice ua5 xs.length uc5, .bool false, .int .i64 0] 57))).grown g7 (fun e => by have := dUnhide tv _ e; omega))
      have ZF7 := dHide ((((dUnhide ZF).below b5').below (ba w5 (.cells #[.slice ua5 xs.length uc5, .bool false, .int .i64 0] 57))).grown g7 (fun e => by have := dUnhide tv _ e; omega))
      have B7 := dHide ((belowThen (belowThen B4 b5') (ba w5 (.cells #[.slice ua5 xs.length uc5, .bool false, .int .i64 0] 57))).grown g7 (by simp; omega) (fun j hj => by have := dUnhide tv _ hj; omega))
      have s7 : w.heap.size + 3 ≤ w7.heap.size := by
        have := g7.size
        simp at this
        omega
      obtain ⟨i0, j0⟩ := (dUnhide OF7).2 0 _ rfl
      refine hK.out _ _ (trivial) (fun hHeld => ?_)
      clear hK K
      try simp only [Act.put, List.setIfInBounds_toArray, List.set_cons_zero, List.set_cons_succ]
      refine wpAnyH_take (i := 8) (oi := { dst := some 36, op := Op.fieldAddr 29 (Operand.tmp 9) 0, type := 0, pos := "l07_register.go:40", after := #[{ on := 0, ground := Ground.phase }, { on := 1, ground := Ground.phase }, { on := 2, ground := Ground.phase }, { on := 3, ground := Ground.phase }, { on := 4, ground := Ground.phase }, { on := 5, ground := Ground.phase }, { on := 6, ground := Ground.phase }, { on := 7, ground := Ground.phase }], guard := none }) (v := ?_) rfl (by kernel_rfl) (by kernel_rfl) (by kernel_rfl) (fun _ _ _ h => h) (Or.inl ⟨by rfl, ?_⟩) (by assumption) ?_
      rotate_left 1
      · intro w hSw
        (try dsimp only at hSw)
        first | (go_simp; done) | (go_simp; with_reducible rfl)
      try simp only [Act.put, List.setIfInBounds_toArray, List.set_cons_zero, List.set_cons_succ]
      refine wpAnyH_ready (rs := [9]) (by kernel_rfl) (by simp) ?_
      refine AllReadyH.cons (o := { dst := none, op := Op.store 27 (Operand.tmp 36) (Operand.tmp 35), type := 0, pos := "l07_register.go:40", after := #[{ on := 8, ground := Ground.data }, { on := 7, ground := Ground.data }, { on := 7, ground := Ground.chain }, { on := 0, ground := Ground.phase }, { on := 1, ground := Ground.phase }, { on := 2, ground := Ground.phase }, { on := 3, ground := Ground.phase }, { on := 4, ground := Ground.phase }, { on := 5, ground := Ground.phase }, { on := 6, ground := Ground.phase }, { on := 7, ground := Ground.phase }], guard := none }) rfl (fun K hK => ?_) AllReadyH.nil
      go_simp
      refine hK.out _ _ (trivial) (fun hHeld => ?_)
      clear hK K
      try simp only [Act.put, List.setIfInBounds_toArray, List.set_cons_zero, List.set_cons_succ]
      refine wpAnyH_done (by kernel_rfl) ?_ _
      refine NoPanic.normal ?_
      go_wp2_with fail
      go_meet
      case rel => exact ⟨a7, c7, rfl, dUnhide NN _, (dUnhide OF7).put 0 _, (dUnhide ZF7).far (by omega) _, by rw [World.size_setCell]; exact s7, (dUnhide B7).setCell (p := ⟨w2.heap.size, 0, none⟩) (by simp only; omega) _⟩
    · go_simp
      refine hK.out _ _ (trivial) (fun hHeld => ?_)
      clear hK K
      try simp only [Act.put, List.setIfInBounds_toArray, List.set_cons_zero, List.set_cons_succ]
      refine wpAnyH_ready (rs := [1, 4]) (by kernel_rfl) (by simp) ?_
      refine AllReadyH.cons (o := { dst := some 29, op := Op.load 27 (Operand.tmp 28), type := 27, pos := "l07_register.go:40", after := #[{ on := 0, ground := Ground.data }], guard := none }) rfl (fun K hK => ?_) (AllReadyH.cons (o := { dst := some 32, op := Op.call { callee := Callee.builtin Builtin.append, args := #[Operand.tmp 30, Operand.tmp 31], argTypes := #[24, 24] }, type := 24, pos := "l07_register.go:40", after := #[{ on := 2, ground := Ground.data }, { on := 3, ground := Ground.data }], guard := none }) rfl (fun K hK => ?_) AllReadyH.nil)
      · go_simp
        refine hK.out _ _ (trivial) (fun hHeld => ?_)
        clear hK K
        try simp only [Act.put, List.setIfInBounds_toArray, List.set_cons_zero, List.set_cons_succ]
        refine wpAnyH_ready (rs := [4]) (by kernel_rfl) (by simp) ?_
        refine AllReadyH.cons (o := { dst := some 32, op := Op.call { callee := Callee.builtin Builtin.append, args := #[Operand.tmp 30, Operand.tmp 31], argTypes := #[24, 24] }, type := 24, pos := "l07_register.go:40", after := #[{ on := 2, ground := Ground.data }, { on := 3, ground := Ground.data }], guard := none }) rfl (fun K hK => ?_) AllReadyH.nil
        refine step_cpN rfl _ _ rfl _ rfl _ xs rfl (dUnhide HX _ (belowThen B4 bA)) (by omega) ?_
        intro u5 w5 O5 b5
        obtain ⟨-, ua5, uc5, rfl, -, -⟩ := O5.bs
        have b5' := belowThen bA b5
        have p5 := ((dUnhide OF).below b5').2 0 _ rfl |>.1
        have p6 := ((dUnhide OF).below (belowThen b5' (ba w5 (.cells #[.slice ua5 xs.length uc5, .bool false, .int .i64 0] 57)))).2 0 _ rfl |>.1
        have P6 := dHide (((dUnhide M).2.1.below (belowThen b24 b5')).below (ba w5 (.cells #[.slice ua5 xs.length uc5, .bool false, .int .i64 0] 57)))
        have RO := dHide (rwR_one w5 ⟨ua5, uc5, xs, false, 0⟩ 57 1 (by omega))
        have HO5 := dHide O5
        have sz5 := b5'.size
        clear O5
        refine hK.out _ _ (trivial) (fun hHeld => ?_)
        clear hK K
        try simp only [Act.put, List.setIfInBounds_toArray, List.set_cons_zero, List.set_cons_succ]
        refine wpAnyH_take (i := 5) (oi := { dst := some 33, op := Op.build 57 #[(0, Operand.tmp 32)], type := 57, pos := "l07_register.go:40", after := #[{ on := 4, ground := Ground.data }], guard := none }) (v := ?_) rfl (by kernel_rfl) (by kernel_rfl) (by kernel_rfl) (fun _ _ _ h => h) (Or.inl ⟨by rfl, ?_⟩) (by assumption) ?_
        rotate_left 1
        · intro w hSw
          (try dsimp only at hSw)
          first | (go_simp; done) | (go_simp; with_reducible rfl)
        try simp only [Act.put, List.setIfInBounds_toArray, List.set_cons_zero, List.set_cons_succ]
        refine wpAnyH_ready (rs := [6]) (by kernel_rfl) (by simp) ?_
        refine AllReadyH.cons (o := { dst := some 34, op := Op.buildSlice 27 1 #[(0, Operand.tmp 33)], type := 27, pos := "l07_register.go:40", after := #[{ on := 5, ground := Ground.data }], guard := none }) rfl (fun K hK => ?_) AllReadyH.nil
        go_simp
        refine hK.out _ _ (trivial) (fun hHeld => ?_)
        clear hK K
        try simp only [Act.put, List.setIfInBounds_toArray, List.set_cons_zero, List.set_cons_succ]
        refine wpAnyH_ready (rs := [7]) (by kernel_rfl) (by simp) ?_
        refine AllReadyH.cons (o := { dst := some 35, op := Op.call { callee := Callee.builtin Builtin.append, args := #[Operand.tmp 29, Operand.tmp 34], argTypes := #[27, 27] }, type := 27, pos := "l07_register.go:40", after := #[{ on := 1, ground := Ground.data }, { on := 6, ground := Ground.data }, { on := 4, ground := Ground.chain }], guard := none }) rfl (fun K hK => ?_) AllReadyH.nil
        refine step_apR elemR rfl _ _ rfl (w.heap.size + 3) _ r0 rfl (dUnhide P6) _ [⟨ua5, uc5, xs, false, 0⟩] rfl (dUnhide RO) (by simp; omega) (by simp; omega) (by simp; omega) ?_
        intro v7 w7 P7 g7 t7
        obtain ⟨a7, c7, e7⟩ : ∃ a c, v7 = .slice a (m.eras.length + 1) c := by
          obtain ⟨a, c, e⟩ := ApR.slice elemR P7
          exact ⟨a, c, by rw [e]; simp [hl0]⟩
        subst e7
        have NN : Hid (∀ u, NAp (w7.setCell ⟨w2.heap.size, 0, none⟩ u) (w.heap.size + 3) (.slice a7 (m.eras.length + 1) c7) (m.eras ++ [⟨xs, false, 0⟩])) := fun u => NAp.pushO (p := ⟨ua5, uc5, xs, false, 0⟩) (dUnhide M).1 (dUnhide M).2.1 (dUnhide M).2.2.1 (dUnhide M).2.2.2.1 (dUnhide M).2.2.2.2 (fun p hp => (((dUnhide M).2.2.1 p hp).below (belowThen b24 b5')).below (ba _ _)) (by simp; omega) hw2 (((dUnhide HO5).below (ba _ _)).mono (by simp; omega)) P7 g7 t7 (fun e => by have := dUnhide tv _ e; omega) (fun q hq => by
          rcases List.mem_append.1 hq with hq | hq
          · rcases dUnhide ob q hq with h | h
            · exact .inl h
            · exact .inr (by omega)
          · obtain rfl : q = ⟨ua5, uc5, xs, false, 0⟩ := by simpa using hq
            rcases (dUnhide HO5).ge with h | h
            · exact .inl h
            · right
              have e9 : blockOf (Sv Er.nodes (⟨ua5, uc5, xs, false, 0⟩ : Nst Er)) = blockOf (.slice ua5 xs.length uc5) := rfl
              rw [e9]
              simp at h
              omega) (by simp; omega) u
        have OF7 := dHide ((((dUnhide OF).below b5').below (ba w5 (.cells #[.slice ua5 xs.length uc5, .bool false, .int .i64 0] 57))).grown g7 (fun e => by have := dUnhide tv _ e; omega))
        have ZF7 := dHide ((((dUnhide ZF).below b5').below (ba w5 (.cells #[.slice ua5 xs.length uc5, .bool false, .int .i64 0] 57))).grown g7 (fun e => by have := dUnhide tv _ e; omega))
        have B7 := dHide ((belowThen (belowThen B4 b5') (ba w5 (.cells #[.slice ua5 xs.length uc5, .bool false, .int .i64 0] 57))).grown g7 (by simp; omega) (fun j hj => by have := dUnhide tv _ hj; omega))
        have s7 : w.heap.size + 3 ≤ w7.heap.size := by
          have := g7.size
          simp at this
          omega
        obtain ⟨i0, j0⟩ := (dUnhide OF7).2 0 _ rfl
        refine hK.out _ _ (trivial) (fun hHeld => ?_)
        clear hK K
        try simp only [Act.put, List.setIfInBounds_toArray, List.set_cons_zero, List.set_cons_succ]
        refine wpAnyH_take (i := 8) (oi := { dst := some 36, op := Op.fieldAddr 29 (Operand.tmp 9) 0, type := 0, pos := "l07_register.go:40", after := #[{ on := 0, ground := Ground.phase }, { on := 1, ground := Ground.phase }, { on := 2, ground := Ground.phase }, { on := 3, ground := Ground.phase }, { on := 4, ground := Ground.phase }, { on := 5, ground := Ground.phase }, { on := 6, ground := Ground.phase }, { on := 7, ground := Ground.phase }], guard := none }) (v := ?_) rfl (by kernel_rfl) (by kernel_rfl) (by kernel_rfl) (fun _ _ _ h => h) (Or.inl ⟨by rfl, ?_⟩) (by assumption) ?_
        rotate_left 1
        · intro w hSw
          (try dsimp only at hSw)
          first | (go_simp; done) | (go_simp; with_reducible rfl)
        try simp only [Act.put, List.setIfInBounds_toArray, List.set_cons_zero, List.set_cons_succ]
        refine wpAnyH_ready (rs := [9]) (by kernel_rfl) (by simp) ?_
        refine AllReadyH.cons (o := { dst := none, op := Op.store 27 (Operand.tmp 36) (Operand.tmp 35), type := 0, pos := "l07_register.go:40", after := #[{ on := 8, ground := Ground.data }, { on := 7, ground := Ground.data }, { on := 7, ground := Ground.chain }, { on := 0, ground := Ground.phase }, { on := 1, ground := Ground.phase }, { on := 2, ground := Ground.phase }, { on := 3, ground := Ground.phase }, { on := 4, ground := Ground.phase }, { on := 5, ground := Ground.phase }, { on := 6, ground := Ground.phase }, { on := 7, ground := Ground.phase }], guard := none }) rfl (fun K hK => ?_) AllReadyH.nil
        go_simp
        refine hK.out _ _ (trivial) (fun hHeld => ?_)
        clear hK K
        try simp only [Act.put, List.setIfInBounds_toArray, List.set_cons_zero, List.set_cons_succ]
        refine wpAnyH_done (by kernel_rfl) ?_ _
        refine NoPanic.normal ?_
        go_wp2_with fail
        go_meet
        case rel => exact ⟨a7, c7, rfl, dUnhide NN _, (dUnhide OF7).put 0 _, (dUnhide ZF7).far (by omega) _, by rw [World.size_setCell]; exact s7, (dUnhide B7).setCell (p := ⟨w2.heap.size, 0, none⟩) (by simp only; omega) _⟩
      · refine step_cpN rfl _ _ rfl _ rfl _ xs rfl (dUnhide HX _ (belowThen B4 bA)) (by omega) ?_
        intro u5 w5 O5 b5
        obtain ⟨-, ua5, uc5, rfl, -, -⟩ := O5.bs
        have b5' := belowThen bA b5
        have p5 := ((dUnhide OF).below b5').2 0 _ rfl |>.1
        have p6 := ((dUnhide OF).below (belowThen b5' (ba w5 (.cells #[.slice ua5 xs.length uc5, .bool false, .int .i64 0] 57)))).2 0 _ rfl |>.1
        have P6 := dHide (((dUnhide M).2.1.below (belowThen b24 b5')).below (ba w5 (.cells #[.slice ua5 xs.length uc5, .bool false, .int .i64 0] 57)))
        have RO := dHide (rwR_one w5 ⟨ua5, uc5, xs, false, 0⟩ 57 1 (by omega))
        have HO5 := dHide O5
        have sz5 := b5'.size
        clear O5
        refine hK.out _ _ (trivial) (fun hHeld => ?_)
        clear hK K
        try simp only [Act.put, List.setIfInBounds_toArray, List.set_cons_zero, List.set_cons_succ]
        refine wpAnyH_take (i := 5) (oi := { dst := some 33, op := Op.build 57 #[(0, Operand.tmp 32)], type := 57, pos := "l07_register.go:40", after := #[{ on := 4, ground := Ground.data }], guard := none }) (v := ?_) rfl (by kernel_rfl) (by kernel_rfl) (by kernel_rfl) (fun _ _ _ h => h) (Or.inl ⟨by rfl, ?_⟩) (by assumption) ?_
        rotate_left 1
        · intro w hSw
          (try dsimp only at hSw)
          first | (go_simp; done) | (go_simp; with_reducible rfl)
        try simp only [Act.put, List.setIfInBounds_toArray, List.set_cons_zero, List.set_cons_succ]
        refine wpAnyH_ready (rs := [1, 6]) (by kernel_rfl) (by simp) ?_
        refine AllReadyH.cons (o := { dst := some 29, op := Op.load 27 (Operand.tmp 28), type := 27, pos := "l07_register.go:40", after := #[{ on := 0, ground := Ground.data }], guard := none }) rfl (fun K hK => ?_) (AllReadyH.cons (o := { dst := some 34, op := Op.buildSlice 27 1 #[(0, Operand.tmp 33)], type := 27, pos := "l07_register.go:40", after := #[{ on := 5, ground := Ground.data }], guard := none }) rfl (fun K hK => ?_) AllReadyH.nil)
        · go_simp
          refine hK.out _ _ (trivial) (fun hHeld => ?_)
          clear hK K
          try simp only [Act.put, List.setIfInBounds_toArray, List.set_cons_zero, List.set_cons_succ]
          refine wpAnyH_ready (rs := [6]) (by kernel_rfl) (by simp) ?_
          refine AllReadyH.cons (o := { dst := some 34, op := Op.buildSlice 27 1 #[(0, Operand.tmp 33)], type := 27, pos := "l07_register.go:40", after := #[{ on := 5, ground := Ground.data }], guard := none }) rfl (fun K hK => ?_) AllReadyH.nil
          go_simp
          refine hK.out _ _ (trivial) (fun hHeld => ?_)
          clear hK K
          try simp only [Act.put, List.setIfInBounds_toArray, List.set_cons_zero, List.set_cons_succ]
          refine wpAnyH_ready (rs := [7]) (by kernel_rfl) (by simp) ?_
          refine AllReadyH.cons (o := { dst := some 35, op := Op.call { callee := Callee.builtin Builtin.append, args := #[Operand.tmp 29, Operand.tmp 34], argTypes := #[27, 27] }, type := 27, pos := "l07_register.go:40", after := #[{ on := 1, ground := Ground.data }, { on := 6, ground := Ground.data }, { on := 4, ground := Ground.chain }], guard := none }) rfl (fun K hK => ?_) AllReadyH.nil
          refine step_apR elemR rfl _ _ rfl (w.heap.size + 3) _ r0 rfl (dUnhide P6) _ [⟨ua5, uc5, xs, false, 0⟩] rfl (dUnhide RO) (by simp; omega) (by simp; omega) (by simp; omega) ?_
          intro v7 w7 P7 g7 t7
          obtain ⟨a7, c7, e7⟩ : ∃ a c, v7 = .slice a (m.eras.length + 1) c := by
            obtain ⟨a, c, e⟩ := ApR.slice elemR P7
            exact ⟨a, c, by rw [e]; simp [hl0]⟩
          subst e7
          have NN : Hid (∀ u, NAp (w7.setCell ⟨w2.heap.size, 0, none⟩ u) (w.heap.size + 3) (.slice a7 (m.eras.length + 1) c7) (m.eras ++ [⟨xs, false, 0⟩])) := fun u => NAp.pushO (p := ⟨ua5, uc5, xs, false, 0⟩) (dUnhide M).1 (dUnhide M).2.1 (dUnhide M).2.2.1 (dUnhide M).2.2.2.1 (dUnhide M).2.2.2.2 (fun p hp => (((dUnhide M).2.2.1 p hp).below (belowThen b24 b5')).below (ba _ _)) (by simp; omega) hw2 (((dUnhide HO5).below (ba _ _)).mono (by simp; omega)) P7 g7 t7 (fun e => by have := dUnhide tv _ e; omega) (fun q hq => by
            rcases List.mem_append.1 hq with hq | hq
            · rcases dUnhide ob q hq with h | h
              · exact .inl h
              · exact .inr (by omega)
            · obtain rfl : q = ⟨ua5, uc5, xs, false, 0⟩ := by simpa using hq
              rcases (dUnhide HO5).ge with h | h
              · exact .inl h
              · right
                have e9 : blockOf (Sv Er.nodes (⟨ua5, uc5, xs, false, 0⟩ : Nst Er)) = blockOf (.slice ua5 xs.length uc5) := rfl
                rw [e9]
                simp at h
                omega) (by simp; omega) u
          have OF7 := dHide ((((dUnhide OF).below b5').below (ba w5 (.cells #[.slice ua5 xs.length uc5, .bool false, .int .i64 0] 57))).grown g7 (fun e => by have := dUnhide tv _ e; omega))
          have ZF7 := dHide ((((dUnhide ZF).below b5').below (ba w5 (.cells #[.slice ua5 xs.length uc5, .bool false, .int .i64 0] 57))).grown g7 (fun e => by have := dUnhide tv _ e; omega))
          have B7 := dHide ((belowThen (belowThen B4 b5') (ba w5 (.cells #[.slice ua5 xs.length uc5, .bool false, .int .i64 0] 57))).grown g7 (by simp; omega) (fun j hj => by have := dUnhide tv _ hj; omega))
          have s7 : w.heap.size + 3 ≤ w7.heap.size := by
            have := g7.size
            simp at this
            omega
          obtain ⟨i0, j0⟩ := (dUnhide OF7).2 0 _ rfl
          refine hK.out _ _ (trivial) (fun hHeld => ?_)
          clear hK K
          try simp only [Act.put, List.setIfInBounds_toArray, List.set_cons_zero, List.set_cons_succ]
          refine wpAnyH_take (i := 8) (oi := { dst := some 36, op := Op.fieldAddr 29 (Operand.tmp 9) 0, type := 0, pos := "l07_register.go:40", after := #[{ on := 0, ground := Ground.phase }, { on := 1, ground := Ground.phase }, { on := 2, ground := Ground.phase }, { on := 3, ground := Ground.phase }, { on := 4, ground := Ground.phase }, { on := 5, ground := Ground.phase }, { on := 6, ground := Ground.phase }, { on := 7, ground := Ground.phase }], guard := none }) (v := ?_) rfl (by kernel_rfl) (by kernel_rfl) (by kernel_rfl) (fun _ _ _ h => h) (Or.inl ⟨by rfl, ?_⟩) (by assumption) ?_
          rotate_left 1
          · intro w hSw
            (try dsimp only at hSw)
            first | (go_simp; done) | (go_simp; with_reducible rfl)
          try simp only [Act.put, List.setIfInBounds_toArray, List.set_cons_zero, List.set_cons_succ]
          refine wpAnyH_ready (rs := [9]) (by kernel_rfl) (by simp) ?_
          refine AllReadyH.cons (o := { dst := none, op := Op.store 27 (Operand.tmp 36) (Operand.tmp 35), type := 0, pos := "l07_register.go:40", after := #[{ on := 8, ground := Ground.data }, { on := 7, ground := Ground.data }, { on := 7, ground := Ground.chain }, { on := 0, ground := Ground.phase }, { on := 1, ground := Ground.phase }, { on := 2, ground := Ground.phase }, { on := 3, ground := Ground.phase }, { on := 4, ground := Ground.phase }, { on := 5, ground := Ground.phase }, { on := 6, ground := Ground.phase }, { on := 7, ground := Ground.phase }], guard := none }) rfl (fun K hK => ?_) AllReadyH.nil
          go_simp
          refine hK.out _ _ (trivial) (fun hHeld => ?_)
          clear hK K
          try simp only [Act.put, List.setIfInBounds_toArray, List.set_cons_zero, List.set_cons_succ]
          refine wpAnyH_done (by kernel_rfl) ?_ _
          refine NoPanic.normal ?_
          go_wp2_with fail
          go_meet
          case rel => exact ⟨a7, c7, rfl, dUnhide NN _, (dUnhide OF7).put 0 _, (dUnhide ZF7).far (by omega) _, by rw [World.size_setCell]; exact s7, (dUnhide B7).setCell (p := ⟨w2.heap.size, 0, none⟩) (by simp only; omega) _⟩
        · go_simp
          refine hK.out _ _ (trivial) (fun hHeld => ?_)
          clear hK K
          try simp only [Act.put, List.setIfInBounds_toArray, List.set_cons_zero, List.set_cons_succ]
          refine wpAnyH_ready (rs := [1]) (by kernel_rfl) (by simp) ?_
          refine AllReadyH.cons (o := { dst := some 29, op := Op.load 27 (Operand.tmp 28), type := 27, pos := "l07_register.go:40", after := #[{ on := 0, ground := Ground.data }], guard := none }) rfl (fun K hK => ?_) AllReadyH.nil
          go_simp
          refine hK.out _ _ (trivial) (fun hHeld => ?_)
          clear hK K
          try simp only [Act.put, List.setIfInBounds_toArray, List.set_cons_zero, List.set_cons_succ]
          refine wpAnyH_ready (rs := [7]) (by kernel_rfl) (by simp) ?_
          refine AllReadyH.cons (o := { dst := some 35, op := Op.call { callee := Callee.builtin Builtin.append, args := #[Operand.tmp 29, Operand.tmp 34], argTypes := #[27, 27] }, type := 27, pos := "l07_register.go:40", after := #[{ on := 1, ground := Ground.data }, { on := 6, ground := Ground.data }, { on := 4, ground := Ground.chain }], guard := none }) rfl (fun K hK => ?_) AllReadyH.nil
          refine step_apR elemR rfl _ _ rfl (w.heap.size + 3) _ r0 rfl (dUnhide P6) _ [⟨ua5, uc5, xs, false, 0⟩] rfl (dUnhide RO) (by simp; omega) (by simp; omega) (by simp; omega) ?_
          intro v7 w7 P7 g7 t7
          obtain ⟨a7, c7, e7⟩ : ∃ a c, v7 = .slice a (m.eras.length + 1) c := by
            obtain ⟨a, c, e⟩ := ApR.slice elemR P7
            exact ⟨a, c, by rw [e]; simp [hl0]⟩
          subst e7
          have NN : Hid (∀ u, NAp (w7.setCell ⟨w2.heap.size, 0, none⟩ u) (w.heap.size + 3) (.slice a7 (m.eras.length + 1) c7) (m.eras ++ [⟨xs, false, 0⟩])) := fun u => NAp.pushO (p := ⟨ua5, uc5, xs, false, 0⟩) (dUnhide M).1 (dUnhide M).2.1 (dUnhide M).2.2.1 (dUnhide M).2.2.2.1 (dUnhide M).2.2.2.2 (fun p hp => (((dUnhide M).2.2.1 p hp).below (belowThen b24 b5')).below (ba _ _)) (by simp; omega) hw2 (((dUnhide HO5).below (ba _ _)).mono (by simp; omega)) P7 g7 t7 (fun e => by have := dUnhide tv _ e; omega) (fun q hq => by
            rcases List.mem_append.1 hq with hq | hq
            · rcases dUnhide ob q hq with h | h
              · exact .inl h
              · exact .inr (by omega)
            · obtain rfl : q = ⟨ua5, uc5, xs, false, 0⟩ := by simpa using hq
              rcases (dUnhide HO5).ge with h | h
              · exact .inl h
              · right
                have e9 : blockOf (Sv Er.nodes (⟨ua5, uc5, xs, false, 0⟩ : Nst Er)) = blockOf (.slice ua5 xs.length uc5) := rfl
                rw [e9]
                simp at h
                omega) (by simp; omega) u
          have OF7 := dHide ((((dUnhide OF).below b5').below (ba w5 (.cells #[.slice ua5 xs.length uc5, .bool false, .int .i64 0] 57))).grown g7 (fun e => by have := dUnhide tv _ e; omega))
          have ZF7 := dHide ((((dUnhide ZF).below b5').below (ba w5 (.cells #[.slice ua5 xs.length uc5, .bool false, .int .i64 0] 57))).grown g7 (fun e => by have := dUnhide tv _ e; omega))
          have B7 := dHide ((belowThen (belowThen B4 b5') (ba w5 (.cells #[.slice ua5 xs.length uc5, .bool false, .int .i64 0] 57))).grown g7 (by simp; omega) (fun j hj => by have := dUnhide tv _ hj; omega))
          have s7 : w.heap.size + 3 ≤ w7.heap.size := by
            have := g7.size
            simp at this
            omega
          obtain ⟨i0, j0⟩ := (dUnhide OF7).2 0 _ rfl
          refine hK.out _ _ (trivial) (fun hHeld => ?_)
          clear hK K
          try simp only [Act.put, List.setIfInBounds_toArray, List.set_cons_zero, List.set_cons_succ]
          refine wpAnyH_take (i := 8) (oi := { dst := some 36, op := Op.fieldAddr 29 (Operand.tmp 9) 0, type := 0, pos := "l07_register.go:40", after := #[{ on := 0, ground := Ground.phase }, { on := 1, ground := Ground.phase }, { on := 2, ground := Ground.phase }, { on := 3, ground := Ground.phase }, { on := 4, ground := Ground.phase }, { on := 5, ground := Ground.phase }, { on := 6, ground := Ground.phase }, { on := 7, ground := Ground.phase }], guard := none }) (v := ?_) rfl (by kernel_rfl) (by kernel_rfl) (by kernel_rfl) (fun _ _ _ h => h) (Or.inl ⟨by rfl, ?_⟩) (by assumption) ?_
          rotate_left 1
          · intro w hSw
            (try dsimp only at hSw)
            first | (go_simp; done) | (go_simp; with_reducible rfl)
          try simp only [Act.put, List.setIfInBounds_toArray, List.set_cons_zero, List.set_cons_succ]
          refine wpAnyH_ready (rs := [9]) (by kernel_rfl) (by simp) ?_
          refine AllReadyH.cons (o := { dst := none, op := Op.store 27 (Operand.tmp 36) (Operand.tmp 35), type := 0, pos := "l07_register.go:40", after := #[{ on := 8, ground := Ground.data }, { on := 7, ground := Ground.data }, { on := 7, ground := Ground.chain }, { on := 0, ground := Ground.phase }, { on := 1, ground := Ground.phase }, { on := 2, ground := Ground.phase }, { on := 3, ground := Ground.phase }, { on := 4, ground := Ground.phase }, { on := 5, ground := Ground.phase }, { on := 6, ground := Ground.phase }, { on := 7, ground := Ground.phase }], guard := none }) rfl (fun K hK => ?_) AllReadyH.nil
          go_simp
          refine hK.out _ _ (trivial) (fun hHeld => ?_)
          clear hK K
          try simp only [Act.put, List.setIfInBounds_toArray, List.set_cons_zero, List.set_cons_succ]
          refine wpAnyH_done (by kernel_rfl) ?_ _
          refine NoPanic.normal ?_
          go_wp2_with fail
          go_meet
          case rel => exact ⟨a7, c7, rfl, dUnhide NN _, (dUnhide OF7).put 0 _, (dUnhide ZF7).far (by omega) _, by rw [World.size_setCell]; exact s7, (dUnhide B7).setCell (p := ⟨w2.heap.size, 0, none⟩) (by simp only; omega) _⟩
  case rest =>
    obtain ⟨a7, c7, rfl, NF, OF7, ZF7, s7, B7⟩ := hcut
    generalize wc = w8 at *
    have HNF := dHide NF
    have HOF := dHide OF7
    have HZF := dHide ZF7
    have p0 := (OF7.2 0 _ rfl).1
    have p1 := (OF7.2 1 _ rfl).1
    obtain ⟨z0, f0⟩ := ZF7.2 0 _ rfl
    obtain ⟨z1, f1⟩ := ZF7.2 1 _ rfl
    have ZZ := dHide ((ZF7.put 0 (.slice a7 (m.eras.length + 1) c7)).put 1 (.int .i64 m.trim))
    have BB := dHide ((B7.setCell (p := ⟨w.heap.size + 1 + 1, 0, none⟩) (by simp only; omega) (.slice a7 (m.eras.length + 1) c7)).setCell (p := ⟨w.heap.size + 1 + 1, 1, none⟩) (by simp only; omega) (.int .i64 m.trim))
    have OO := dHide ((NF.far (b := w.heap.size + 1 + 1) (o := 0) (by omega) (.slice a7 (m.eras.length + 1) c7)).far (b := w.heap.size + 1 + 1) (o := 1) (by omega) (.int .i64 m.trim)).ow
    have FF := dHide ((NF.far (b := w.heap.size + 1 + 1) (o := 0) (by omega) (.slice a7 (m.eras.length + 1) c7)).far (b := w.heap.size + 1 + 1) (o := 1) (by omega) (.int .i64 m.trim)).full
    have hne : w2.heap.size ≠ w.heap.size + 1 + 1 := by omega
    clear NF OF7 ZF7 M tv ob N4 OF ZF N2h
    go_wp2_with fail
    go_region_held3 (fun W => W.cell? ⟨w2.heap.size, 0, none⟩ = some (.slice a7 (m.eras.length + 1) c7) ∧ W.cell? ⟨w2.heap.size, 1, none⟩ = some (.int .i64 m.trim)) (first | exact ⟨set_other (set_other p0 (.inl hne)) (.inl hne), set_other (set_other p1 (.inl hne)) (.inl hne)⟩ | go_keep) (fail)
    all_goals
      go_wp2_with fail
      generalize (w8.setCell ⟨w.heap.size + 1 + 1, 0, none⟩ (.slice a7 (m.eras.length + 1) c7)).setCell ⟨w.heap.size + 1 + 1, 1, none⟩ (.int .i64 m.trim) = V at *
      have q0 := ((dUnhide ZZ).2 0 _ rfl).1
      have q1 := ((dUnhide ZZ).2 1 _ rfl).1
      refine bodyPost_ret (v := .tuple #[.agg #[.slice a7 (m.eras.length + 1) c7, .int .i64 m.trim], .int .i64 ((m.eras.length : Int) + 1), .bool true]) (by simp [results, Tryz.results59, go_sem, q0, q1]) rfl ⟨⟨_, rfl, ⟨_, rfl, OwK.wide ((OwK.sits (dUnhide OO) (Nat.le_refl _)).all V.drew fun _ _ _ => rfl) (by omega) (Nat.le_refl _)⟩, _, _, rfl, (dUnhide FF).drew.mono (by omega)⟩, (dUnhide BB).drew⟩
theorem specRegOpen_any (cv v : Value) (c : List Int × Int) (m : Rg) (v2 : Value) (xs : List Int) (w : World) (hc : RdConfig cv c w) (hv : RdRegister v m w) (hx : Ns w v2 xs) (hlx : xs.length ≤ 1048576) (ok : okRegister m) (hs : sizRegister m ≤ 1048576) :
    Calls Tryz.prog 59 #[cv, v, v2] w fun e w' => (∃ u, e = .returned (.tuple #[u, .int .i64 (openM c.1 c.2 m xs).2.1, .bool (openM c.1 c.2 m xs).2.2]) ∧ OwRegister w.heap.size w'.heap.size u (openM c.1 c.2 m xs).1 w') ∧ Below w.heap.size w w' :=
  (specRegOpen_full cv v c m v2 xs w hc hv hx hlx ok hs).mono fun _ _ ⟨⟨u, h1, h2, _⟩, h3⟩ => ⟨⟨u, h1, h2⟩, h3⟩
end Go.Proofs.YthndkkjgjhgdnaaGreatDoor

