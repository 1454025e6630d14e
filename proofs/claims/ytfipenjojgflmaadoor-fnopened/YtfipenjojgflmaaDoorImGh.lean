/- impl's: turned (printed by tools/mkimgh.py). -/
import Derived.Test.YtfipenjojgflmaaDoorImGg
namespace Go.Proofs.YtfipenjojgflmaaDoor
open Go.ChangeShapes Go.WideShapes Go.ChangeAt Go.RowKit
set_option linter.unusedVariables false
set_option linter.unusedSimpArgs false
set_option maxRecDepth 100000

set_option maxHeartbeats 8000000 in
theorem turned_bad (w : World) (F : Nat) (caps : Array Value) (cv v : Value) (c : List Int × Int) (m : Rg) (a0 a1 : Addr) (hP : ¬ regP c.1 c.2 m) (hc : RdConfig cv c w) (hv : RdRegister v m w) (okc : okConfig c) (ok : okRegister m) (hsc : sizConfig c ≤ 1048576) (hs : sizRegister m ≤ 1048576) (hS : Snt w a0 a1) :
    Calls Tryd.prog 24 #[cv, v, .func (.func F) #[] caps] w fun e w' => (∃ u, e = .returned (.tuple #[u, .bool false]) ∧ OwRegister w.heap.size w'.heap.size u zeroRg w') ∧ Below w.heap.size w w' := by
  obtain ⟨ds, cop⟩ := c
  have HC := dHide fun W (hb : Below w.heap.size w W) => hc.below hb
  have HV := dHide fun W (hb : Below w.heap.size w W) => hv.below hb
  have HS := dHide fun W (hb : Below w.heap.size w W) => hS.below hb (Nat.le_refl _)
  obtain ⟨sc, rfl, hc⟩ := hc
  obtain ⟨-, ca, cc, rfl, -, -⟩ := hc
  obtain ⟨a, cap, rfl, -⟩ := formRegister hv
  simp only at *
  have ba : ∀ (w : World) o, Below w.heap.size w (w.alloc o) := fun w o => (Below.refl _ _).alloc (Nat.le_refl _) o
  have B0 := belowThen (belowThen (belowThen (ba w (.cells #[.slice ca ds.length cc, .int .i64 cop] 26)) (ba _ (.cells #[.slice a m.eras.length cap, .int .i64 m.trim] 29))) (ba _ (.cells #[.slice none 0 0, .int .i64 0] 29))) (ba _ (.cells #[.pointer none] 83))
  have X0 := dHide ((Bx.new w [.slice ca ds.length cc, .int .i64 cop] 26).below (belowThen (belowThen (ba _ (.cells #[.slice a m.eras.length cap, .int .i64 m.trim] 29)) (ba _ (.cells #[.slice none 0 0, .int .i64 0] 29))) (ba _ (.cells #[.pointer none] 83))))
  have Y0 := (Bx.new (w.alloc (.cells #[.slice ca ds.length cc, .int .i64 cop] 26)) [.slice a m.eras.length cap, .int .i64 m.trim] 29).below (belowThen (ba _ (.cells #[.slice none 0 0, .int .i64 0] 29)) (ba _ (.cells #[.pointer none] 83)))
  have S0 := (Shp.new (w.alloc (.cells #[.slice ca ds.length cc, .int .i64 cop] 26)) (.slice a m.eras.length cap) (.int .i64 m.trim)).below (belowThen (ba _ (.cells #[.slice none 0 0, .int .i64 0] 29)) (ba _ (.cells #[.pointer none] 83)))
  have Z0 := (BxZ.new (B := w.heap.size) ((w.alloc (.cells #[.slice ca ds.length cc, .int .i64 cop] 26)).alloc (.cells #[.slice a m.eras.length cap, .int .i64 m.trim] 29)) [.slice none 0 0, .int .i64 0] 29 (by simp <;> omega)).below (ba _ (.cells #[.pointer none] 83))
  have E0 := (MapKept.heap_alloc (((w.alloc (.cells #[.slice ca ds.length cc, .int .i64 cop] 26)).alloc (.cells #[.slice a m.eras.length cap, .int .i64 m.trim] 29)).alloc (.cells #[.slice none 0 0, .int .i64 0] 29)) (.cells #[.pointer none] 83)).1
  have e1 : (w.alloc (.cells #[.slice ca ds.length cc, .int .i64 cop] 26)).heap.size = w.heap.size + 1 := by simp
  have e2 : ((w.alloc (.cells #[.slice ca ds.length cc, .int .i64 cop] 26)).alloc (.cells #[.slice a m.eras.length cap, .int .i64 m.trim] 29)).heap.size = w.heap.size + 1 + 1 := by simp
  have e3 : (((w.alloc (.cells #[.slice ca ds.length cc, .int .i64 cop] 26)).alloc (.cells #[.slice a m.eras.length cap, .int .i64 m.trim] 29)).alloc (.cells #[.slice none 0 0, .int .i64 0] 29)).heap.size = w.heap.size + 1 + 1 + 1 := by simp
  have hsz : Hid (w.heap.size + 1 + 1 + 1 + 1 = ((((w.alloc (.cells #[.slice ca ds.length cc, .int .i64 cop] 26)).alloc (.cells #[.slice a m.eras.length cap, .int .i64 m.trim] 29)).alloc (.cells #[.slice none 0 0, .int .i64 0] 29)).alloc (.cells #[.pointer none] 83)).heap.size) := by simp [Hid]
  rw [e1] at Y0 S0
  rw [e2] at Z0
  rw [e3] at E0
  replace Y0 := dHide Y0
  replace S0 := dHide S0
  replace Z0 := dHide Z0
  clear e1 e2 e3 hv hS
  have k0 : ((((w.alloc (.cells #[.slice ca ds.length cc, .int .i64 cop] 26)).alloc (.cells #[.slice a m.eras.length cap, .int .i64 m.trim] 29)).alloc (.cells #[.slice none 0 0, .int .i64 0] 29)).alloc (.cells #[.pointer none] 83)).cell? ⟨w.heap.size + 1 + 1 + 1, 0, none⟩ = some (.pointer none) := by unfold World.cell?; rw [E0]; rfl
  have f0 : ((((w.alloc (.cells #[.slice ca ds.length cc, .int .i64 cop] 26)).alloc (.cells #[.slice a m.eras.length cap, .int .i64 m.trim] 29)).alloc (.cells #[.slice none 0 0, .int .i64 0] 29)).alloc (.cells #[.pointer none] 83)).frozen? ⟨w.heap.size + 1 + 1 + 1, 0, none⟩ = false := by unfold World.frozen?; rw [E0]; rfl
  have CS := dHide (atStore _ (w.heap.size + 1 + 1 + 1) (w.heap.size + 1) _ k0 f0 (dUnhide S0))
  have G2 : CellAt (((((w.alloc (.cells #[.slice ca ds.length cc, .int .i64 cop] 26)).alloc (.cells #[.slice a m.eras.length cap, .int .i64 m.trim] 29)).alloc (.cells #[.slice none 0 0, .int .i64 0] 29)).alloc (.cells #[.pointer none] 83)).setCell ⟨w.heap.size + 1 + 1 + 1, 0, none⟩ (.pointer (some ⟨w.heap.size + 1, 0, none⟩))) (w.heap.size + 1 + 1 + 1) (w.heap.size + 1) := by
    refine ⟨83, ?_⟩
    have := heap_setCell_same ((((w.alloc (.cells #[.slice ca ds.length cc, .int .i64 cop] 26)).alloc (.cells #[.slice a m.eras.length cap, .int .i64 m.trim] 29)).alloc (.cells #[.slice none 0 0, .int .i64 0] 29)).alloc (.cells #[.pointer none] 83)) (w.heap.size + 1 + 1 + 1) 0 _ _ (.pointer (some ⟨w.heap.size + 1, 0, none⟩)) E0
    rw [this]
    rfl
  go_enter Tryd.func24, Tryd.ntmps24
  go_wp2_with fail
  have X2 := dHide ((dUnhide X0).farB (b' := w.heap.size + 1 + 1 + 1) (o := 0) (by omega) (.pointer (some ⟨w.heap.size + 1, 0, none⟩)))
  have Y2 := dHide ((dUnhide Y0).farB (b' := w.heap.size + 1 + 1 + 1) (o := 0) (by omega) (.pointer (some ⟨w.heap.size + 1, 0, none⟩)))
  have Z2 := dHide ((dUnhide Z0).far (b' := w.heap.size + 1 + 1 + 1) (o := 0) (by omega) (.pointer (some ⟨w.heap.size + 1, 0, none⟩)))
  have S2 := dHide (Shp.set (a := ⟨w.heap.size + 1 + 1 + 1, 0, none⟩) (dUnhide S0) (.pointer (some ⟨w.heap.size + 1, 0, none⟩)))
  have B2 := B0.setCell (p := ⟨w.heap.size + 1 + 1 + 1, 0, none⟩) (by simp only; omega) (.pointer (some ⟨w.heap.size + 1, 0, none⟩))
  have s2 : w.heap.size + 1 + 1 + 1 + 1 = (((((w.alloc (.cells #[.slice ca ds.length cc, .int .i64 cop] 26)).alloc (.cells #[.slice a m.eras.length cap, .int .i64 m.trim] 29)).alloc (.cells #[.slice none 0 0, .int .i64 0] 29)).alloc (.cells #[.pointer none] 83)).setCell ⟨w.heap.size + 1 + 1 + 1, 0, none⟩ (.pointer (some ⟨w.heap.size + 1, 0, none⟩))).heap.size := by rw [World.size_setCell]; exact dUnhide hsz
  refine (dUnhide CS).mono ?_
  rintro e w2' ⟨rfl, rfl⟩
  clear CS X0 Y0 Z0 S0 B0 E0 k0 f0 hsz
  have x0 := dUnhide X2 0 _ rfl
  have x1 := dUnhide X2 1 _ rfl
  generalize ((((w.alloc (.cells #[.slice ca ds.length cc, .int .i64 cop] 26)).alloc (.cells #[.slice a m.eras.length cap, .int .i64 m.trim] 29)).alloc (.cells #[.slice none 0 0, .int .i64 0] 29)).alloc (.cells #[.pointer none] 83)).setCell ⟨w.heap.size + 1 + 1 + 1, 0, none⟩ (.pointer (some ⟨w.heap.size + 1, 0, none⟩)) = w2 at *
  have CT := dHide (turn_bad w2 (w.heap.size + 1 + 1 + 1) (w.heap.size + 1) F caps _ _ (ds, cop) m a0 a1 G2 (dUnhide HC w2 B2) ⟨_, rfl, dUnhide Y2⟩ (dUnhide S2) (dUnhide HV w2 B2) okc ok hsc hs (dUnhide HS w2 B2) hP)
  go_wp2_with fail
  refine (dUnhide CT).mono ?_
  rintro e w3 ⟨rfl, b3⟩
  have B3 := belowThen B2 b3
  have Z3 := dHide ((dUnhide Z2).below b3)
  have S3 := dUnhide HS w3 B3
  have g0 := S3.1
  have CI := dHide (is_same a0 w3)
  clear CT x0 x1 b3 B2 S3
  go_wp2_with fail
  refine (dUnhide CI).mono ?_
  rintro e w4 ⟨rfl, e4⟩
  have e4' := e4.symm
  subst e4'
  obtain ⟨z0, f0⟩ := (dUnhide Z3).2 0 _ rfl
  obtain ⟨z1, f1⟩ := (dUnhide Z3).2 1 _ rfl
  have ZZ := dHide (((dUnhide Z3).put 0 (.slice none 0 0)).put 1 (.int .i64 0))
  have BB := dHide ((B3.setCell (p := ⟨w.heap.size + 1 + 1, 0, none⟩) (by simp only; omega) (.slice none 0 0)).setCell (p := ⟨w.heap.size + 1 + 1, 1, none⟩) (by simp only; omega) (.int .i64 0))
  go_wp2_with fail
  generalize (w3.setCell ⟨w.heap.size + 1 + 1, 0, none⟩ (.slice none 0 0)).setCell ⟨w.heap.size + 1 + 1, 1, none⟩ (.int .i64 0) = V at *
  have q0 := ((dUnhide ZZ).2 0 _ rfl).1
  have q1 := ((dUnhide ZZ).2 1 _ rfl).1
  refine bodyPost_ret (v := .tuple #[.agg #[.slice none 0 0, .int .i64 0], .bool false]) (by simp [results, Tryd.results24, go_sem, q0, q1]) rfl ⟨⟨_, rfl, ⟨_, rfl, (NAp.nil V w.heap.size none).ow⟩⟩, dUnhide BB⟩
set_option maxHeartbeats 8000000 in
theorem turned_no (w : World) (F : Nat) (caps : Array Value) (cv v : Value) (c : List Int × Int) (m : Rg) (a0 a1 : Addr) (hF : ∀ args w, (callFunc F args).run Tryd.prog w = .ok (.enter F args) w) (hP : regP c.1 c.2 m) (hG : ∀ W, Below w.heap.size w W → Chg W F caps m a1 none) (hc : RdConfig cv c w) (hv : RdRegister v m w) (okc : okConfig c) (ok : okRegister m) (hsc : sizConfig c ≤ 1048576) (hs : sizRegister m ≤ 1048576) (hS : Snt w a0 a1) :
    Calls Tryd.prog 24 #[cv, v, .func (.func F) #[] caps] w fun e w' => (∃ u, e = .returned (.tuple #[u, .bool false]) ∧ OwRegister w.heap.size w'.heap.size u m w') ∧ Below w.heap.size w w' := by
  obtain ⟨ds, cop⟩ := c
  have HC := dHide fun W (hb : Below w.heap.size w W) => hc.below hb
  have CP := dHide fun W (hb : Below w.heap.size w W) => copied_any v m W (hv.below hb) hs
  have HV := dHide fun W (hb : Below w.heap.size w W) => hv.below hb
  have HS := dHide fun W (hb : Below w.heap.size w W) => hS.below hb (Nat.le_refl _)
  obtain ⟨sc, rfl, hc⟩ := hc
  obtain ⟨-, ca, cc, rfl, -, -⟩ := hc
  obtain ⟨a, cap, rfl, -⟩ := formRegister hv
  simp only at *
  have ba : ∀ (w : World) o, Below w.heap.size w (w.alloc o) := fun w o => (Below.refl _ _).alloc (Nat.le_refl _) o
  have B0 := belowThen (belowThen (belowThen (ba w (.cells #[.slice ca ds.length cc, .int .i64 cop] 26)) (ba _ (.cells #[.slice a m.eras.length cap, .int .i64 m.trim] 29))) (ba _ (.cells #[.slice none 0 0, .int .i64 0] 29))) (ba _ (.cells #[.pointer none] 83))
  have X0 := dHide ((Bx.new w [.slice ca ds.length cc, .int .i64 cop] 26).below (belowThen (belowThen (ba _ (.cells #[.slice a m.eras.length cap, .int .i64 m.trim] 29)) (ba _ (.cells #[.slice none 0 0, .int .i64 0] 29))) (ba _ (.cells #[.pointer none] 83))))
  have Y0 := (Bx.new (w.alloc (.cells #[.slice ca ds.length cc, .int .i64 cop] 26)) [.slice a m.eras.length cap, .int .i64 m.trim] 29).below (belowThen (ba _ (.cells #[.slice none 0 0, .int .i64 0] 29)) (ba _ (.cells #[.pointer none] 83)))
  have S0 := (Shp.new (w.alloc (.cells #[.slice ca ds.length cc, .int .i64 cop] 26)) (.slice a m.eras.length cap) (.int .i64 m.trim)).below (belowThen (ba _ (.cells #[.slice none 0 0, .int .i64 0] 29)) (ba _ (.cells #[.pointer none] 83)))
  have Z0 := (BxZ.new (B := w.heap.size) ((w.alloc (.cells #[.slice ca ds.length cc, .int .i64 cop] 26)).alloc (.cells #[.slice a m.eras.length cap, .int .i64 m.trim] 29)) [.slice none 0 0, .int .i64 0] 29 (by simp <;> omega)).below (ba _ (.cells #[.pointer none] 83))
  have E0 := (MapKept.heap_alloc (((w.alloc (.cells #[.slice ca ds.length cc, .int .i64 cop] 26)).alloc (.cells #[.slice a m.eras.length cap, .int .i64 m.trim] 29)).alloc (.cells #[.slice none 0 0, .int .i64 0] 29)) (.cells #[.pointer none] 83)).1
  have e1 : (w.alloc (.cells #[.slice ca ds.length cc, .int .i64 cop] 26)).heap.size = w.heap.size + 1 := by simp
  have e2 : ((w.alloc (.cells #[.slice ca ds.length cc, .int .i64 cop] 26)).alloc (.cells #[.slice a m.eras.length cap, .int .i64 m.trim] 29)).heap.size = w.heap.size + 1 + 1 := by simp
  have e3 : (((w.alloc (.cells #[.slice ca ds.length cc, .int .i64 cop] 26)).alloc (.cells #[.slice a m.eras.length cap, .int .i64 m.trim] 29)).alloc (.cells #[.slice none 0 0, .int .i64 0] 29)).heap.size = w.heap.size + 1 + 1 + 1 := by simp
  have hsz : Hid (w.heap.size + 1 + 1 + 1 + 1 = ((((w.alloc (.cells #[.slice ca ds.length cc, .int .i64 cop] 26)).alloc (.cells #[.slice a m.eras.length cap, .int .i64 m.trim] 29)).alloc (.cells #[.slice none 0 0, .int .i64 0] 29)).alloc (.cells #[.pointer none] 83)).heap.size) := by simp [Hid]
  rw [e1] at Y0 S0
  rw [e2] at Z0
  rw [e3] at E0
  replace Y0 := dHide Y0
  replace S0 := dHide S0
  replace Z0 := dHide Z0
  clear e1 e2 e3 hv hS
  have k0 : ((((w.alloc (.cells #[.slice ca ds.length cc, .int .i64 cop] 26)).alloc (.cells #[.slice a m.eras.length cap, .int .i64 m.trim] 29)).alloc (.cells #[.slice none 0 0, .int .i64 0] 29)).alloc (.cells #[.pointer none] 83)).cell? ⟨w.heap.size + 1 + 1 + 1, 0, none⟩ = some (.pointer none) := by unfold World.cell?; rw [E0]; rfl
  have f0 : ((((w.alloc (.cells #[.slice ca ds.length cc, .int .i64 cop] 26)).alloc (.cells #[.slice a m.eras.length cap, .int .i64 m.trim] 29)).alloc (.cells #[.slice none 0 0, .int .i64 0] 29)).alloc (.cells #[.pointer none] 83)).frozen? ⟨w.heap.size + 1 + 1 + 1, 0, none⟩ = false := by unfold World.frozen?; rw [E0]; rfl
  have CS := dHide (atStore _ (w.heap.size + 1 + 1 + 1) (w.heap.size + 1) _ k0 f0 (dUnhide S0))
  have G2 : CellAt (((((w.alloc (.cells #[.slice ca ds.length cc, .int .i64 cop] 26)).alloc (.cells #[.slice a m.eras.length cap, .int .i64 m.trim] 29)).alloc (.cells #[.slice none 0 0, .int .i64 0] 29)).alloc (.cells #[.pointer none] 83)).setCell ⟨w.heap.size + 1 + 1 + 1, 0, none⟩ (.pointer (some ⟨w.heap.size + 1, 0, none⟩))) (w.heap.size + 1 + 1 + 1) (w.heap.size + 1) := by
    refine ⟨83, ?_⟩
    have := heap_setCell_same ((((w.alloc (.cells #[.slice ca ds.length cc, .int .i64 cop] 26)).alloc (.cells #[.slice a m.eras.length cap, .int .i64 m.trim] 29)).alloc (.cells #[.slice none 0 0, .int .i64 0] 29)).alloc (.cells #[.pointer none] 83)) (w.heap.size + 1 + 1 + 1) 0 _ _ (.pointer (some ⟨w.heap.size + 1, 0, none⟩)) E0
    rw [this]
    rfl
  go_enter Tryd.func24, Tryd.ntmps24
  go_wp2_with fail
  have X2 := dHide ((dUnhide X0).farB (b' := w.heap.size + 1 + 1 + 1) (o := 0) (by omega) (.pointer (some ⟨w.heap.size + 1, 0, none⟩)))
  have Y2 := dHide ((dUnhide Y0).farB (b' := w.heap.size + 1 + 1 + 1) (o := 0) (by omega) (.pointer (some ⟨w.heap.size + 1, 0, none⟩)))
  have Z2 := dHide ((dUnhide Z0).far (b' := w.heap.size + 1 + 1 + 1) (o := 0) (by omega) (.pointer (some ⟨w.heap.size + 1, 0, none⟩)))
  have S2 := dHide (Shp.set (a := ⟨w.heap.size + 1 + 1 + 1, 0, none⟩) (dUnhide S0) (.pointer (some ⟨w.heap.size + 1, 0, none⟩)))
  have B2 := B0.setCell (p := ⟨w.heap.size + 1 + 1 + 1, 0, none⟩) (by simp only; omega) (.pointer (some ⟨w.heap.size + 1, 0, none⟩))
  have s2 : w.heap.size + 1 + 1 + 1 + 1 = (((((w.alloc (.cells #[.slice ca ds.length cc, .int .i64 cop] 26)).alloc (.cells #[.slice a m.eras.length cap, .int .i64 m.trim] 29)).alloc (.cells #[.slice none 0 0, .int .i64 0] 29)).alloc (.cells #[.pointer none] 83)).setCell ⟨w.heap.size + 1 + 1 + 1, 0, none⟩ (.pointer (some ⟨w.heap.size + 1, 0, none⟩))).heap.size := by rw [World.size_setCell]; exact dUnhide hsz
  refine (dUnhide CS).mono ?_
  rintro e w2' ⟨rfl, rfl⟩
  clear CS X0 Y0 Z0 S0 B0 E0 k0 f0 hsz
  have x0 := dUnhide X2 0 _ rfl
  have x1 := dUnhide X2 1 _ rfl
  generalize ((((w.alloc (.cells #[.slice ca ds.length cc, .int .i64 cop] 26)).alloc (.cells #[.slice a m.eras.length cap, .int .i64 m.trim] 29)).alloc (.cells #[.slice none 0 0, .int .i64 0] 29)).alloc (.cells #[.pointer none] 83)).setCell ⟨w.heap.size + 1 + 1 + 1, 0, none⟩ (.pointer (some ⟨w.heap.size + 1, 0, none⟩)) = w2 at *
  have CT := dHide (turn_ok w2 (w.heap.size + 1 + 1 + 1) (w.heap.size + 1) F caps _ _ (ds, cop) m a0 a1 (none) hF G2 (dUnhide HC w2 B2) ⟨_, rfl, dUnhide Y2⟩ (dUnhide S2) (dUnhide HV w2 B2) okc ok hsc hs (dUnhide HS w2 B2) hP (hG w2 B2))
  go_wp2_with fail
  refine (dUnhide CT).mono ?_
  rintro e w3 ⟨rfl, b3⟩
  have B3 := belowThen B2 b3
  have Z3 := dHide ((dUnhide Z2).below b3)
  have Y3 := dHide ((dUnhide Y2).below b3)
  have S3 := dUnhide HS w3 B3
  have g0 := S3.1
  have g1 := S3.2.1
  obtain ⟨-, -, hne, ⟨c0, t0, hh0⟩, c1', t1, hh1⟩ := S3
  have CI := dHide (is_other a1 a0 _ _ _ _ w3 (Ne.symm hne) hh1 hh0)
  have CJ := dHide (is_same a1 w3)
  have CQ := dHide (dUnhide CP w3 B3)
  have s3 := b3.size
  clear CT x0 x1 b3 B2 hh0 hh1 hne CP
  go_wp2_with fail
  refine (dUnhide CI).mono ?_
  rintro e w4 ⟨rfl, e4⟩
  have e4' := e4.symm
  subst e4'
  go_wp2_with fail
  refine (dUnhide CJ).mono ?_
  rintro e w4 ⟨rfl, e4⟩
  have e4' := e4.symm
  subst e4'
  have y0 := dUnhide Y3 0 _ rfl
  have y1 := dUnhide Y3 1 _ rfl
  go_wp2_with fail
  refine (dUnhide CQ).mono ?_
  rintro e w5 ⟨⟨u5, rfl, N5⟩, b5⟩
  obtain ⟨ua, uc, rfl⟩ := N5.slice
  have B5 := belowThen B3 b5
  have Z5 := dHide ((dUnhide Z3).below b5)
  obtain ⟨z0, f0⟩ := (dUnhide Z5).2 0 _ rfl
  obtain ⟨z1, f1⟩ := (dUnhide Z5).2 1 _ rfl
  have ZZ := dHide (((dUnhide Z5).put 0 (.slice ua m.eras.length uc)).put 1 (.int .i64 m.trim))
  have BB := dHide ((B5.setCell (p := ⟨w.heap.size + 1 + 1, 0, none⟩) (by simp only; omega) (.slice ua m.eras.length uc)).setCell (p := ⟨w.heap.size + 1 + 1, 1, none⟩) (by simp only; omega) (.int .i64 m.trim))
  have OO := dHide ((N5.far (b := w.heap.size + 1 + 1) (o := 0) (by omega) (.slice ua m.eras.length uc)).far (b := w.heap.size + 1 + 1) (o := 1) (by omega) (.int .i64 m.trim)).ow
  clear N5 b5 CQ CI CJ y0 y1 g0 g1
  go_wp2_with fail
  generalize (w5.setCell ⟨w.heap.size + 1 + 1, 0, none⟩ (.slice ua m.eras.length uc)).setCell ⟨w.heap.size + 1 + 1, 1, none⟩ (.int .i64 m.trim) = V at *
  have q0 := ((dUnhide ZZ).2 0 _ rfl).1
  have q1 := ((dUnhide ZZ).2 1 _ rfl).1
  refine bodyPost_ret (v := .tuple #[.agg #[.slice ua m.eras.length uc, .int .i64 m.trim], .bool false]) (by simp [results, Tryd.results24, go_sem, q0, q1]) rfl ⟨⟨_, rfl, ⟨_, rfl, OwK.wide (dUnhide OO) (by omega) (Nat.le_refl _)⟩⟩, dUnhide BB⟩
set_option maxHeartbeats 8000000 in
theorem turned_yes (w : World) (F : Nat) (caps : Array Value) (cv v : Value) (c : List Int × Int) (m : Rg) (a0 a1 : Addr) (hF : ∀ args w, (callFunc F args).run Tryd.prog w = .ok (.enter F args) w) (hP : regP c.1 c.2 m) (m' : Rg) (hG : ∀ W, Below w.heap.size w W → Chg W F caps m a1 (some m')) (hc : RdConfig cv c w) (hv : RdRegister v m w) (okc : okConfig c) (ok : okRegister m) (hsc : sizConfig c ≤ 1048576) (hs : sizRegister m ≤ 1048576) (hS : Snt w a0 a1) :
    Calls Tryd.prog 24 #[cv, v, .func (.func F) #[] caps] w fun e w' => (∃ u, e = .returned (.tuple #[u, .bool true]) ∧ OwRegister w.heap.size w'.heap.size u m' w') ∧ Below w.heap.size w w' := by
  obtain ⟨ds, cop⟩ := c
  have HC := dHide fun W (hb : Below w.heap.size w W) => hc.below hb
  have HV := dHide fun W (hb : Below w.heap.size w W) => hv.below hb
  have HS := dHide fun W (hb : Below w.heap.size w W) => hS.below hb (Nat.le_refl _)
  obtain ⟨sc, rfl, hc⟩ := hc
  obtain ⟨-, ca, cc, rfl, -, -⟩ := hc
  obtain ⟨a, cap, rfl, -⟩ := formRegister hv
  simp only at *
  have ba : ∀ (w : World) o, Below w.heap.size w (w.alloc o) := fun w o => (Below.refl _ _).alloc (Nat.le_refl _) o
  have B0 := belowThen (belowThen (belowThen (ba w (.cells #[.slice ca ds.length cc, .int .i64 cop] 26)) (ba _ (.cells #[.slice a m.eras.length cap, .int .i64 m.trim] 29))) (ba _ (.cells #[.slice none 0 0, .int .i64 0] 29))) (ba _ (.cells #[.pointer none] 83))
  have X0 := dHide ((Bx.new w [.slice ca ds.length cc, .int .i64 cop] 26).below (belowThen (belowThen (ba _ (.cells #[.slice a m.eras.length cap, .int .i64 m.trim] 29)) (ba _ (.cells #[.slice none 0 0, .int .i64 0] 29))) (ba _ (.cells #[.pointer none] 83))))
  have Y0 := (Bx.new (w.alloc (.cells #[.slice ca ds.length cc, .int .i64 cop] 26)) [.slice a m.eras.length cap, .int .i64 m.trim] 29).below (belowThen (ba _ (.cells #[.slice none 0 0, .int .i64 0] 29)) (ba _ (.cells #[.pointer none] 83)))
  have S0 := (Shp.new (w.alloc (.cells #[.slice ca ds.length cc, .int .i64 cop] 26)) (.slice a m.eras.length cap) (.int .i64 m.trim)).below (belowThen (ba _ (.cells #[.slice none 0 0, .int .i64 0] 29)) (ba _ (.cells #[.pointer none] 83)))
  have Z0 := (BxZ.new (B := w.heap.size) ((w.alloc (.cells #[.slice ca ds.length cc, .int .i64 cop] 26)).alloc (.cells #[.slice a m.eras.length cap, .int .i64 m.trim] 29)) [.slice none 0 0, .int .i64 0] 29 (by simp <;> omega)).below (ba _ (.cells #[.pointer none] 83))
  have E0 := (MapKept.heap_alloc (((w.alloc (.cells #[.slice ca ds.length cc, .int .i64 cop] 26)).alloc (.cells #[.slice a m.eras.length cap, .int .i64 m.trim] 29)).alloc (.cells #[.slice none 0 0, .int .i64 0] 29)) (.cells #[.pointer none] 83)).1
  have e1 : (w.alloc (.cells #[.slice ca ds.length cc, .int .i64 cop] 26)).heap.size = w.heap.size + 1 := by simp
  have e2 : ((w.alloc (.cells #[.slice ca ds.length cc, .int .i64 cop] 26)).alloc (.cells #[.slice a m.eras.length cap, .int .i64 m.trim] 29)).heap.size = w.heap.size + 1 + 1 := by simp
  have e3 : (((w.alloc (.cells #[.slice ca ds.length cc, .int .i64 cop] 26)).alloc (.cells #[.slice a m.eras.length cap, .int .i64 m.trim] 29)).alloc (.cells #[.slice none 0 0, .int .i64 0] 29)).heap.size = w.heap.size + 1 + 1 + 1 := by simp
  have hsz : Hid (w.heap.size + 1 + 1 + 1 + 1 = ((((w.alloc (.cells #[.slice ca ds.length cc, .int .i64 cop] 26)).alloc (.cells #[.slice a m.eras.length cap, .int .i64 m.trim] 29)).alloc (.cells #[.slice none 0 0, .int .i64 0] 29)).alloc (.cells #[.pointer none] 83)).heap.size) := by simp [Hid]
  rw [e1] at Y0 S0
  rw [e2] at Z0
  rw [e3] at E0
  replace Y0 := dHide Y0
  replace S0 := dHide S0
  replace Z0 := dHide Z0
  clear e1 e2 e3 hv hS
  have k0 : ((((w.alloc (.cells #[.slice ca ds.length cc, .int .i64 cop] 26)).alloc (.cells #[.slice a m.eras.length cap, .int .i64 m.trim] 29)).alloc (.cells #[.slice none 0 0, .int .i64 0] 29)).alloc (.cells #[.pointer none] 83)).cell? ⟨w.heap.size + 1 + 1 + 1, 0, none⟩ = some (.pointer none) := by unfold World.cell?; rw [E0]; rfl
  have f0 : ((((w.alloc (.cells #[.slice ca ds.length cc, .int .i64 cop] 26)).alloc (.cells #[.slice a m.eras.length cap, .int .i64 m.trim] 29)).alloc (.cells #[.slice none 0 0, .int .i64 0] 29)).alloc (.cells #[.pointer none] 83)).frozen? ⟨w.heap.size + 1 + 1 + 1, 0, none⟩ = false := by unfold World.frozen?; rw [E0]; rfl
  have CS := dHide (atStore _ (w.heap.size + 1 + 1 + 1) (w.heap.size + 1) _ k0 f0 (dUnhide S0))
  have G2 : CellAt (((((w.alloc (.cells #[.slice ca ds.length cc, .int .i64 cop] 26)).alloc (.cells #[.slice a m.eras.length cap, .int .i64 m.trim] 29)).alloc (.cells #[.slice none 0 0, .int .i64 0] 29)).alloc (.cells #[.pointer none] 83)).setCell ⟨w.heap.size + 1 + 1 + 1, 0, none⟩ (.pointer (some ⟨w.heap.size + 1, 0, none⟩))) (w.heap.size + 1 + 1 + 1) (w.heap.size + 1) := by
    refine ⟨83, ?_⟩
    have := heap_setCell_same ((((w.alloc (.cells #[.slice ca ds.length cc, .int .i64 cop] 26)).alloc (.cells #[.slice a m.eras.length cap, .int .i64 m.trim] 29)).alloc (.cells #[.slice none 0 0, .int .i64 0] 29)).alloc (.cells #[.pointer none] 83)) (w.heap.size + 1 + 1 + 1) 0 _ _ (.pointer (some ⟨w.heap.size + 1, 0, none⟩)) E0
    rw [this]
    rfl
  go_enter Tryd.func24, Tryd.ntmps24
  go_wp2_with fail
  have X2 := dHide ((dUnhide X0).farB (b' := w.heap.size + 1 + 1 + 1) (o := 0) (by omega) (.pointer (some ⟨w.heap.size + 1, 0, none⟩)))
  have Y2 := dHide ((dUnhide Y0).farB (b' := w.heap.size + 1 + 1 + 1) (o := 0) (by omega) (.pointer (some ⟨w.heap.size + 1, 0, none⟩)))
  have Z2 := dHide ((dUnhide Z0).far (b' := w.heap.size + 1 + 1 + 1) (o := 0) (by omega) (.pointer (some ⟨w.heap.size + 1, 0, none⟩)))
  have S2 := dHide (Shp.set (a := ⟨w.heap.size + 1 + 1 + 1, 0, none⟩) (dUnhide S0) (.pointer (some ⟨w.heap.size + 1, 0, none⟩)))
  have B2 := B0.setCell (p := ⟨w.heap.size + 1 + 1 + 1, 0, none⟩) (by simp only; omega) (.pointer (some ⟨w.heap.size + 1, 0, none⟩))
  have s2 : w.heap.size + 1 + 1 + 1 + 1 = (((((w.alloc (.cells #[.slice ca ds.length cc, .int .i64 cop] 26)).alloc (.cells #[.slice a m.eras.length cap, .int .i64 m.trim] 29)).alloc (.cells #[.slice none 0 0, .int .i64 0] 29)).alloc (.cells #[.pointer none] 83)).setCell ⟨w.heap.size + 1 + 1 + 1, 0, none⟩ (.pointer (some ⟨w.heap.size + 1, 0, none⟩))).heap.size := by rw [World.size_setCell]; exact dUnhide hsz
  refine (dUnhide CS).mono ?_
  rintro e w2' ⟨rfl, rfl⟩
  clear CS X0 Y0 Z0 S0 B0 E0 k0 f0 hsz
  have x0 := dUnhide X2 0 _ rfl
  have x1 := dUnhide X2 1 _ rfl
  generalize ((((w.alloc (.cells #[.slice ca ds.length cc, .int .i64 cop] 26)).alloc (.cells #[.slice a m.eras.length cap, .int .i64 m.trim] 29)).alloc (.cells #[.slice none 0 0, .int .i64 0] 29)).alloc (.cells #[.pointer none] 83)).setCell ⟨w.heap.size + 1 + 1 + 1, 0, none⟩ (.pointer (some ⟨w.heap.size + 1, 0, none⟩)) = w2 at *
  have CT := dHide (turn_ok w2 (w.heap.size + 1 + 1 + 1) (w.heap.size + 1) F caps _ _ (ds, cop) m a0 a1 (some m') hF G2 (dUnhide HC w2 B2) ⟨_, rfl, dUnhide Y2⟩ (dUnhide S2) (dUnhide HV w2 B2) okc ok hsc hs (dUnhide HS w2 B2) hP (hG w2 B2))
  go_wp2_with fail
  refine (dUnhide CT).mono ?_
  rintro e w3 ⟨rfl, d3, nb, lo, hlo, C3, ta, tc, t1, t2, t3⟩
  have B3 : Below w.heap.size w w3 := B2.trans ⟨d3.os, d3.tape, d3.output, d3.size, fun k hk => d3.block k (by omega) (by omega)⟩
  have Z3 := dHide ((dUnhide Z2).drawn d3 (by omega))
  have S3 := dUnhide HS w3 B3
  have g0 := S3.1
  have g1 := S3.2.1
  have CI := dHide (is_nil a0 w3)
  have CJ := dHide (is_nil a1 w3)
  have CQ := dHide (atLoad w3 (w.heap.size + 1 + 1 + 1) nb C3.cell t3)
  have n0 := (t1.2 0 _ rfl).1
  have n1 := (t1.2 1 _ rfl).1
  have hne : nb ≠ w.heap.size + 1 + 1 := by have := t1.1; omega
  obtain ⟨z0, f0⟩ := (dUnhide Z3).2 0 _ rfl
  obtain ⟨z1, f1⟩ := (dUnhide Z3).2 1 _ rfl
  have ZZ := dHide (((dUnhide Z3).put 0 (.slice ta m'.eras.length tc)).put 1 (.int .i64 m'.trim))
  have BB := dHide ((B3.setCell (p := ⟨w.heap.size + 1 + 1, 0, none⟩) (by simp only; omega) (.slice ta m'.eras.length tc)).setCell (p := ⟨w.heap.size + 1 + 1, 1, none⟩) (by simp only; omega) (.int .i64 m'.trim))
  have OO : Hid (OwEraS lo w3.heap.size (.slice ta m'.eras.length tc) m'.eras ((w3.setCell ⟨w.heap.size + 1 + 1, 0, none⟩ (.slice ta m'.eras.length tc)).setCell ⟨w.heap.size + 1 + 1, 1, none⟩ (.int .i64 m'.trim))) := OwK.far (OwK.far t2 (by omega) _) (by omega) _
  have sV : w3.heap.size = ((w3.setCell ⟨w.heap.size + 1 + 1, 0, none⟩ (.slice ta m'.eras.length tc)).setCell ⟨w.heap.size + 1 + 1, 1, none⟩ (.int .i64 m'.trim)).heap.size := by simp
  clear CT x0 x1 B2 S3 C3 t1 t2 t3 d3
  go_wp2_with fail
  refine (dUnhide CI).mono ?_
  rintro e w4 ⟨rfl, e4⟩
  have e4' := e4.symm
  subst e4'
  go_wp2_with fail
  refine (dUnhide CJ).mono ?_
  rintro e w4 ⟨rfl, e4⟩
  have e4' := e4.symm
  subst e4'
  go_wp2_with fail
  refine (dUnhide CQ).mono ?_
  rintro e w4 ⟨rfl, e4⟩
  have e4' := e4.symm
  subst e4'
  clear CI CJ CQ g0 g1
  go_wp2_with fail
  generalize (w3.setCell ⟨w.heap.size + 1 + 1, 0, none⟩ (.slice ta m'.eras.length tc)).setCell ⟨w.heap.size + 1 + 1, 1, none⟩ (.int .i64 m'.trim) = V at *
  have q0 := ((dUnhide ZZ).2 0 _ rfl).1
  have q1 := ((dUnhide ZZ).2 1 _ rfl).1
  refine bodyPost_ret (v := .tuple #[.agg #[.slice ta m'.eras.length tc, .int .i64 m'.trim], .bool true]) (by simp [results, Tryd.results24, go_sem, q0, q1]) rfl ⟨⟨_, rfl, ⟨_, rfl, OwK.wide (dUnhide OO) (by omega) (by omega)⟩⟩, dUnhide BB⟩
end Go.Proofs.YtfipenjojgflmaaDoor

