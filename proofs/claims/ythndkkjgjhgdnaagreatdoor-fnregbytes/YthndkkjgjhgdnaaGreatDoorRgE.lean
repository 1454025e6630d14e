/- spec's RegClose, RegTrim (printed by tools/mkrge.py). -/
import Derived.Test.YthndkkjgjhgdnaaGreatDoorGk71
import Derived.Test.YthndkkjgjhgdnaaGreatDoorGk72
import Derived.Test.YthndkkjgjhgdnaaGreatDoorGk60
import Derived.Deep.RegionHeld3
namespace Go.Proofs.YthndkkjgjhgdnaaGreatDoor
open Go.ChangeShapes Go.WideShapes Go.ChangeAt Go.RowKit
set_option linter.unusedVariables false
set_option linter.unusedSimpArgs false
set_option maxRecDepth 100000

/-- Nothing. -/
def zeroRg : Rg := ⟨[], 0⟩
/-- When RegClose does. -/
def closeP (m : Rg) (by' last : Int) : Prop := by' = (m.eras.length : Int) ∧ firstO m.eras ≠ 0 ∧ by' ≠ (firstO m.eras : Int) ∧ 0 ≤ last ∧ last ≤ 60
/-- One era is closed. -/
def closeE (ms : List Er) (k : Nat) (last : Int) : List Er := ms.set k ⟨(ms.getD k ⟨[], false, 0⟩).nodes, true, last⟩
open Classical in
/-- RegClose. -/
noncomputable def closeM (ds : List Int) (cop : Int) (m : Rg) (by' last : Int) : Rg × Bool := if regP ds cop m then (if closeP m by' last then (⟨closeE m.eras (firstO m.eras - 1) last, m.trim⟩, true) else (m, false)) else (zeroRg, false)
theorem closeM_bad {ds : List Int} {cop : Int} {m : Rg} {by' last : Int} (h : ¬ regP ds cop m) : closeM ds cop m by' last = (zeroRg, false) := if_neg h
theorem closeM_no {ds : List Int} {cop : Int} {m : Rg} {by' last : Int} (h : regP ds cop m) (hp : ¬ closeP m by' last) : closeM ds cop m by' last = (m, false) := (if_pos h).trans (if_neg hp)
theorem closeM_yes {ds : List Int} {cop : Int} {m : Rg} {by' last : Int} (h : regP ds cop m) (hp : closeP m by' last) : closeM ds cop m by' last = (⟨closeE m.eras (firstO m.eras - 1) last, m.trim⟩, true) := (if_pos h).trans (if_pos hp)
open Classical in
/-- RegTrim. -/
noncomputable def trimR (ds : List Int) (cop : Int) (m : Rg) (x : Int) : Rg × Bool := if regP ds cop m then (if plIn m.eras.length x then (⟨m.eras, max m.trim x⟩, true) else (m, false)) else (zeroRg, false)
theorem trimR_bad {ds : List Int} {cop : Int} {m : Rg} {x : Int} (h : ¬ regP ds cop m) : trimR ds cop m x = (zeroRg, false) := if_neg h
theorem trimR_no {ds : List Int} {cop : Int} {m : Rg} {x : Int} (h : regP ds cop m) (hp : ¬ plIn m.eras.length x) : trimR ds cop m x = (m, false) := (if_pos h).trans (if_neg hp)
theorem trimR_yes {ds : List Int} {cop : Int} {m : Rg} {x : Int} (h : regP ds cop m) (hp : plIn m.eras.length x) : trimR ds cop m x = (⟨m.eras, max m.trim x⟩, true) := (if_pos h).trans (if_pos hp)
/-- One cell of one era of an owned row is written. -/
theorem OwK.put {lo hi : Nat} {a : Option Addr} {n cap : Nat} {ms : List Er} {w : World} (h : OwEraS lo hi (.slice a n cap) ms w) {k : Nat} (hk : k < ms.length) :
    ∃ b off, a = some ⟨b, off, none⟩ ∧ lo ≤ b ∧ b < hi ∧ (∃ q0 q1 q2, w.cell? ⟨b, off + k * 3, none⟩ = some q0 ∧ w.cell? ⟨b, off + k * 3 + 1, none⟩ = some q1 ∧ w.cell? ⟨b, off + k * 3 + 2, none⟩ = some q2) ∧ (∀ j, j < 3 → w.frozen? ⟨b, off + k * 3 + j, none⟩ = false) ∧
      (∀ x : Bool, OwEraS lo hi (.slice a n cap) (ms.set k ⟨ms[k].nodes, x, ms[k].last⟩) (w.setCell ⟨b, off + k * 3 + 1, none⟩ (.bool x))) ∧ (∀ x : Int, OwEraS lo hi (.slice a n cap) (ms.set k ⟨ms[k].nodes, ms[k].closed, x⟩) (w.setCell ⟨b, off + k * 3 + 2, none⟩ (.int .i64 x))) := by
  obtain ⟨rs, rfl, hO, hB, hN, hA⟩ := h
  have hkl : k < rs.length := by simpa using hk
  have hlen := hO.rw
  obtain ⟨hmx, a0, c0, e0, hcap, -⟩ := hlen
  cases e0
  obtain ⟨b, off, rfl, hb1, Z0⟩ := hO.rowG (by omega) zeroEr
  have hb2 : b < hi := by
    rcases hB with h | h
    · subst h; simp at hkl
    · exact h
  have e1 : rs.getD k zeroEr = rs[k] := getD_lt _ hkl
  have em : (rs.map Nst.m)[k] = rs[k].m := List.getElem_map ..
  have fin : ∀ (p : Nst Er) (W : World), p.a = rs[k].a → p.c = rs[k].c → p.m.nodes = rs[k].m.nodes → RowG 3 erCl W b off rs.length (putG (fun i => rs.getD i zeroEr) k p) → (∀ i (hi' : i < rs.length), OwN lo hi (Sv Er.nodes rs[i]) rs[i].m.nodes W) → OwEraS lo hi (.slice (some ⟨b, off, none⟩) rs.length cap) ((rs.map Nst.m).set k p.m) W := fun p W q1 q2 q3 hR hNW => by
    have eS : Sv Er.nodes p = Sv Er.nodes rs[k] := by unfold Sv; rw [q1, q2, q3]
    have fi : ∀ i (hi' : i < rs.length), Sv Er.nodes (putG (fun i => rs.getD i zeroEr) k p i) = Sv Er.nodes rs[i] ∧ (putG (fun i => rs.getD i zeroEr) k p i).m.nodes = rs[i].m.nodes := fun i hi' => by
      by_cases e : i = k
      · subst e; rw [putG_same]; exact ⟨eS, q3⟩
      · rw [putG_ne _ _ e, getD_lt _ hi']; exact ⟨rfl, rfl⟩
    have q := OwK.build (sub := Er.nodes) (lo := lo) (hi := hi) (cap := cap) hR hb1 (.inr hb2) hcap (fun i hi' => by rw [(fi i hi').1, (fi i hi').2]; exact hNW i hi') (fun i j hi' hj hij => by rw [(fi i hi').1, (fi i hi').2, (fi j hj).1, (fi j hj).2]; exact hA.1 i j hi' hj hij) (fun i hi' => by rw [(fi i hi').1, (fi i hi').2]; exact hA.2 i hi')
    rw [range_map_m (ms := (rs.map Nst.m).set k p.m) (by simp) (fun i hi' => by
      have hi2 : i < rs.length := by simpa using hi'
      rw [List.getElem_set]
      by_cases e : i = k
      · subst e; rw [if_pos rfl, putG_same]
      · rw [if_neg (Ne.symm e), putG_ne _ _ e, getD_lt _ hi2, List.getElem_map])] at q
    exact q
  have keep : ∀ (o : Nat) (u : Value) i (hi' : i < rs.length), OwN lo hi (Sv Er.nodes rs[i]) rs[i].m.nodes (w.setCell ⟨b, o, none⟩ u) := fun o u i hi' => (hN _ (List.getElem_mem hi')).putW (hA.2 i hi') u
  have c := fun j u hu => Z0 k hkl j u (by dsimp only; rw [e1]; exact hu)
  refine ⟨b, off, rfl, hb1, hb2, ⟨_, _, _, (c 0 _ rfl).1, (c 1 _ rfl).1, (c 2 _ rfl).1⟩, fun j hj => ?_, fun x => ?_, fun x => ?_⟩
  · match j, hj with
    | 0, _ => exact (c 0 _ rfl).2
    | 1, _ => exact (c 1 _ rfl).2
    | 2, _ => exact (c 2 _ rfl).2
  · have r := Z0.put erCl_len hkl 1 (by decide) (.bool x) ⟨rs[k].a, rs[k].c, rs[k].m.nodes, x, rs[k].m.last⟩ (by rw [e1]; rfl)
    rw [em]
    exact fin ⟨rs[k].a, rs[k].c, rs[k].m.nodes, x, rs[k].m.last⟩ _ rfl rfl rfl r (keep _ _)
  · have r := Z0.put erCl_len hkl 2 (by decide) (.int .i64 x) ⟨rs[k].a, rs[k].c, rs[k].m.nodes, rs[k].m.closed, x⟩ (by rw [e1]; rfl)
    rw [em]
    exact fin ⟨rs[k].a, rs[k].c, rs[k].m.nodes, rs[k].m.closed, x⟩ _ rfl rfl rfl r (keep _ _)
set_option maxHeartbeats 8000000 in
theorem specRegClose_full (cv v : Value) (c : List Int × Int) (m : Rg) (x y : Int) (okx : okInt x) (oky : okInt y) (w : World) (hc : RdConfig cv c w) (hv : RdRegister v m w) (ok : okRegister m) (hs : sizRegister m ≤ 1048576) :
    Calls Tryz.prog 61 #[cv, v, .int .i64 x, .int .i64 y] w fun e w' => (∃ u, e = .returned (.tuple #[u, .bool (closeM c.1 c.2 m x y).2]) ∧ OwRegister w.heap.size w'.heap.size u (closeM c.1 c.2 m x y).1 w' ∧ FullR w' w.heap.size u) ∧ Below w.heap.size w w' := by
  have CO := dHide fun W (hb : Below w.heap.size w W) => specRegOk_any cv v c m W (hc.below hb) (hv.below hb) ok.2 hs
  have CP := dHide fun W (hb : Below w.heap.size w W) => l7Copy_any v m W (hv.below hb) hs
  have CF := dHide fun W (hb : Below w.heap.size w W) => specFirst_any v m W (hv.below hb)
  obtain ⟨ds, cop⟩ := c
  obtain ⟨sc, rfl, hc⟩ := hc
  obtain ⟨a, cap, rfl, hl0⟩ := formRegister hv
  have hle : m.eras.length ≤ 1048576 := by unfold sizRegister sizEraS at hs; omega
  obtain ⟨o1, o2⟩ := ok.2
  simp only at *
  obtain ⟨-, ca, cc, rfl, -, -⟩ := hc
  clear hv
  have ba : ∀ (w : World) o, Below w.heap.size w (w.alloc o) := fun w o => (Below.refl _ _).alloc (Nat.le_refl _) o
  have B0 := belowThen (belowThen (ba w (.cells #[.slice ca ds.length cc, .int .i64 cop] 26)) (ba _ (.cells #[.slice a m.eras.length cap, .int .i64 m.trim] 29))) (ba _ (.cells #[.slice none 0 0, .int .i64 0] 29))
  have X0 := dHide ((Bx.new w [.slice ca ds.length cc, .int .i64 cop] 26).below (belowThen (ba _ (.cells #[.slice a m.eras.length cap, .int .i64 m.trim] 29)) (ba _ (.cells #[.slice none 0 0, .int .i64 0] 29))))
  have Y0 := (Bx.new (w.alloc (.cells #[.slice ca ds.length cc, .int .i64 cop] 26)) [.slice a m.eras.length cap, .int .i64 m.trim] 29).below (ba _ (.cells #[.slice none 0 0, .int .i64 0] 29))
  have Z0 := BxZ.new (B := w.heap.size) ((w.alloc (.cells #[.slice ca ds.length cc, .int .i64 cop] 26)).alloc (.cells #[.slice a m.eras.length cap, .int .i64 m.trim] 29)) [.slice none 0 0, .int .i64 0] 29 (by simp <;> omega)
  have e1 : (w.alloc (.cells #[.slice ca ds.length cc, .int .i64 cop] 26)).heap.size = w.heap.size + 1 := by simp
  have e2 : ((w.alloc (.cells #[.slice ca ds.length cc, .int .i64 cop] 26)).alloc (.cells #[.slice a m.eras.length cap, .int .i64 m.trim] 29)).heap.size = w.heap.size + 1 + 1 := by simp
  rw [e1] at Y0
  rw [e2] at Z0
  replace Y0 := dHide Y0
  replace Z0 := dHide Z0
  clear e1 e2
  have hsz0 : Hid (w.heap.size + 1 + 1 + 1 = (((w.alloc (.cells #[.slice ca ds.length cc, .int .i64 cop] 26)).alloc (.cells #[.slice a m.eras.length cap, .int .i64 m.trim] 29)).alloc (.cells #[.slice none 0 0, .int .i64 0] 29)).heap.size) := by simp [Hid]
  by_cases hP : regP ds cop m
  case neg =>
    rw [closeM_bad hP]
    replace CO := dHide fun W hb => retB_no (dUnhide CO W hb) hP
    clear CP CF
    go_enter Tryz.func61, Tryz.ntmps61
    go_wp2_with fail
    generalize ((w.alloc (.cells #[.slice ca ds.length cc, .int .i64 cop] 26)).alloc (.cells #[.slice a m.eras.length cap, .int .i64 m.trim] 29)).alloc (.cells #[.slice none 0 0, .int .i64 0] 29) = w0 at *
    refine (dUnhide CO _ B0).mono ?_
    rintro e w1 ⟨rfl, b1⟩
    have B1 := belowThen B0 b1
    have Z1 := dHide ((dUnhide Z0).below b1)
    obtain ⟨z0, f0⟩ := (dUnhide Z1).2 0 _ rfl
    obtain ⟨z1, f1⟩ := (dUnhide Z1).2 1 _ rfl
    have ZZ := dHide (((dUnhide Z1).put 0 (.slice none 0 0)).put 1 (.int .i64 0))
    have BB := dHide ((B1.setCell (p := ⟨w.heap.size + 1 + 1, 0, none⟩) (by simp only; omega) (.slice none 0 0)).setCell (p := ⟨w.heap.size + 1 + 1, 1, none⟩) (by simp only; omega) (.int .i64 0))
    clear B0 b1 Z0 Z1 CO X0 Y0
    go_wp2_with fail
    generalize (w1.setCell ⟨w.heap.size + 1 + 1, 0, none⟩ (.slice none 0 0)).setCell ⟨w.heap.size + 1 + 1, 1, none⟩ (.int .i64 0) = V at *
    have q0 := ((dUnhide ZZ).2 0 _ rfl).1
    have q1 := ((dUnhide ZZ).2 1 _ rfl).1
    refine bodyPost_ret (v := .tuple #[.agg #[.slice none 0 0, .int .i64 0], .bool false]) (by simp [results, Tryz.results61, go_sem, q0, q1]) rfl ⟨⟨_, rfl, ⟨_, rfl, (NAp.nil V w.heap.size none).ow⟩, _, _, rfl, .inl ⟨none, rfl⟩⟩, dUnhide BB⟩
  replace CO := dHide fun W hb => retB_yes (dUnhide CO W hb) hP
  obtain ⟨x0i, x1i⟩ := okx
  obtain ⟨y0i, y1i⟩ := oky
  have hfl := firstO_le m.eras
  by_cases h1 : x = (m.eras.length : Int)
  case neg =>
    have hb1 : (x != (m.eras.length : Int)) = true := by simp [h1]
    rw [closeM_no hP fun h => h1 h.1]
    go_enter Tryz.func61, Tryz.ntmps61
    go_wp2_with fail
    generalize ((w.alloc (.cells #[.slice ca ds.length cc, .int .i64 cop] 26)).alloc (.cells #[.slice a m.eras.length cap, .int .i64 m.trim] 29)).alloc (.cells #[.slice none 0 0, .int .i64 0] 29) = w0 at *
    refine (dUnhide CO _ B0).mono ?_
    rintro e w1 ⟨rfl, b1⟩
    have B1 := belowThen B0 b1
    have X1 := dHide ((dUnhide X0).below b1)
    have Y1 := dHide ((dUnhide Y0).below b1)
    have Z1 := dHide ((dUnhide Z0).below b1)
    have s1 := b1.size
    have y0 := dUnhide Y1 0 _ rfl
    have y1 := dUnhide Y1 1 _ rfl
    clear B0 b1 Z0 CO X0 Y0
    go_wp2_with fail
    refine (dUnhide CP _ B1).mono ?_
    rintro e w2 ⟨⟨u2, rfl, N2⟩, b2⟩
    obtain ⟨ua, uc, rfl⟩ := N2.slice
    have B2 := belowThen B1 b2
    have s2 := b2.size
    have X2 := dHide ((dUnhide X1).below b2)
    have Y2 := dHide ((dUnhide Y1).below b2)
    have Z2 := dHide ((dUnhide Z1).below b2)
    clear X1 Y1 Z1 B1 b2 CP y0 y1
    have bA := ba w2 (.cells #[.slice ua m.eras.length uc, .int .i64 m.trim] 29)
    have O3 := dHide (BxZ.new (B := w.heap.size) w2 [.slice ua m.eras.length uc, .int .i64 m.trim] 29 (by have := dUnhide hsz0; omega))
    have X3 := dHide ((dUnhide X2).below bA)
    have Y3 := dHide ((dUnhide Y2).below bA)
    have Z3 := dHide ((dUnhide Z2).below bA)
    have N3 := dHide ((N2.below bA).mono (base' := w.heap.size + 3) (by have := dUnhide hsz0; omega))
    have S3 : Hid (Sits (OwEraS w1.heap.size w2.heap.size (.slice ua m.eras.length uc) m.eras) w1.heap.size w2.heap.size (w2.alloc (.cells #[.slice ua m.eras.length uc, .int .i64 m.trim] 29))) := (OwK.sits N2.ow (Nat.le_refl _)).below bA
    have hw1 : w.heap.size + 3 ≤ w1.heap.size := by have := dUnhide hsz0; omega
    have N2h := dHide N2
    have b23 := bA
    have NB : Hid (∀ j, touch (.slice ua m.eras.length uc) = some j → j < w2.heap.size) := fun j hj => (N2.touched hj).2
    have B3 := belowThen B2 bA
    have y0 := dUnhide Y3 0 _ rfl
    have y1 := dUnhide Y3 1 _ rfl
    have x0 := dUnhide X3 0 _ rfl
    have x1 := dUnhide X3 1 _ rfl
    have hw2 : w.heap.size + 3 ≤ w2.heap.size := by have := dUnhide hsz0; omega
    clear X2 Y2 Z2 B2 bA N2
    go_wp2_with fail
    generalize w2.alloc (.cells #[.slice ua m.eras.length uc, .int .i64 m.trim] 29) = w3 at *
    refine (dUnhide CF _ B3).mono ?_
    rintro e w4 ⟨rfl, b4⟩
    have B4 := belowThen B3 b4
    have s4 := b4.size
    have y0' := (dUnhide Y3).below b4 0 _ rfl
    have ZF := dHide ((dUnhide Z3).below b4)
    have OF := dHide ((dUnhide O3).below b4)
    have N4 := dHide ((dUnhide N3).below b4)
    have sA : w2.heap.size < w4.heap.size := by have := (dUnhide OF).lt; exact this
    clear y0 y1 x0 x1 X3 Y3 Z3 N3 O3 b4 CF B3

    obtain ⟨z0, f0⟩ := (dUnhide ZF).2 0 _ rfl
    obtain ⟨z1, f1⟩ := (dUnhide ZF).2 1 _ rfl
    obtain ⟨p0, g0⟩ := (dUnhide OF).2 0 _ rfl
    obtain ⟨p1, g1⟩ := (dUnhide OF).2 1 _ rfl
    have ZZ := dHide (((dUnhide ZF).put 0 (.slice ua m.eras.length uc)).put 1 (.int .i64 m.trim))
    have BB := dHide ((B4.setCell (p := ⟨w.heap.size + 1 + 1, 0, none⟩) (by simp only; omega) (.slice ua m.eras.length uc)).setCell (p := ⟨w.heap.size + 1 + 1, 1, none⟩) (by simp only; omega) (.int .i64 m.trim))
    have OO : Hid (OwEraS (w.heap.size + 3) w4.heap.size (.slice ua m.eras.length uc) _ ((w4.setCell ⟨w.heap.size + 1 + 1, 0, none⟩ (.slice ua m.eras.length uc)).setCell ⟨w.heap.size + 1 + 1, 1, none⟩ (.int .i64 m.trim))) := OwK.far (OwK.far (dUnhide N4).ow (by omega) _) (by omega) _
    have FV : Hid (Full ((w4.setCell ⟨w.heap.size + 1 + 1, 0, none⟩ (.slice ua m.eras.length uc)).setCell ⟨w.heap.size + 1 + 1, 1, none⟩ (.int .i64 m.trim)) (w.heap.size + 3) (.slice ua m.eras.length uc)) := (((dUnhide N4).full).set _ _ _).set _ _ _
    have hV : w4.heap.size = ((w4.setCell ⟨w.heap.size + 1 + 1, 0, none⟩ (.slice ua m.eras.length uc)).setCell ⟨w.heap.size + 1 + 1, 1, none⟩ (.int .i64 m.trim)).heap.size := by simp
    go_wp2_with fail
    generalize (w4.setCell ⟨w.heap.size + 1 + 1, 0, none⟩ (.slice ua m.eras.length uc)).setCell ⟨w.heap.size + 1 + 1, 1, none⟩ (.int .i64 m.trim) = V at *
    have q0 := ((dUnhide ZZ).2 0 _ rfl).1
    have q1 := ((dUnhide ZZ).2 1 _ rfl).1
    clear z0 z1 f0 f1 p0 p1 g0 g1
    rw [hV] at OO
    refine bodyPost_ret (v := .tuple #[.agg #[.slice ua m.eras.length uc, .int .i64 m.trim], .bool false]) (by simp [results, Tryz.results61, go_sem, q0, q1]) rfl ⟨⟨_, rfl, ⟨_, rfl, OwK.wide (dUnhide OO) (by omega) (Nat.le_refl _)⟩, _, _, rfl, (dUnhide FV).mono (by omega)⟩, dUnhide BB⟩
  have hb1 : (x != (m.eras.length : Int)) = false := by simp [h1]
  by_cases h2 : firstO m.eras = 0
  · have hb2 : ((firstO m.eras : Int) == 0) = true := by simp [h2]
    rw [closeM_no hP fun h => h.2.1 h2]
    go_enter Tryz.func61, Tryz.ntmps61
    go_wp2_with fail
    generalize ((w.alloc (.cells #[.slice ca ds.length cc, .int .i64 cop] 26)).alloc (.cells #[.slice a m.eras.length cap, .int .i64 m.trim] 29)).alloc (.cells #[.slice none 0 0, .int .i64 0] 29) = w0 at *
    refine (dUnhide CO _ B0).mono ?_
    rintro e w1 ⟨rfl, b1⟩
    have B1 := belowThen B0 b1
    have X1 := dHide ((dUnhide X0).below b1)
    have Y1 := dHide ((dUnhide Y0).below b1)
    have Z1 := dHide ((dUnhide Z0).below b1)
    have s1 := b1.size
    have y0 := dUnhide Y1 0 _ rfl
    have y1 := dUnhide Y1 1 _ rfl
    clear B0 b1 Z0 CO X0 Y0
    go_wp2_with fail
    refine (dUnhide CP _ B1).mono ?_
    rintro e w2 ⟨⟨u2, rfl, N2⟩, b2⟩
    obtain ⟨ua, uc, rfl⟩ := N2.slice
    have B2 := belowThen B1 b2
    have s2 := b2.size
    have X2 := dHide ((dUnhide X1).below b2)
    have Y2 := dHide ((dUnhide Y1).below b2)
    have Z2 := dHide ((dUnhide Z1).below b2)
    clear X1 Y1 Z1 B1 b2 CP y0 y1
    have bA := ba w2 (.cells #[.slice ua m.eras.length uc, .int .i64 m.trim] 29)
    have O3 := dHide (BxZ.new (B := w.heap.size) w2 [.slice ua m.eras.length uc, .int .i64 m.trim] 29 (by have := dUnhide hsz0; omega))
    have X3 := dHide ((dUnhide X2).below bA)
    have Y3 := dHide ((dUnhide Y2).below bA)
    have Z3 := dHide ((dUnhide Z2).below bA)
    have N3 := dHide ((N2.below bA).mono (base' := w.heap.size + 3) (by have := dUnhide hsz0; omega))
    have S3 : Hid (Sits (OwEraS w1.heap.size w2.heap.size (.slice ua m.eras.length uc) m.eras) w1.heap.size w2.heap.size (w2.alloc (.cells #[.slice ua m.eras.length uc, .int .i64 m.trim] 29))) := (OwK.sits N2.ow (Nat.le_refl _)).below bA
    have hw1 : w.heap.size + 3 ≤ w1.heap.size := by have := dUnhide hsz0; omega
    have N2h := dHide N2
    have b23 := bA
    have NB : Hid (∀ j, touch (.slice ua m.eras.length uc) = some j → j < w2.heap.size) := fun j hj => (N2.touched hj).2
    have B3 := belowThen B2 bA
    have y0 := dUnhide Y3 0 _ rfl
    have y1 := dUnhide Y3 1 _ rfl
    have x0 := dUnhide X3 0 _ rfl
    have x1 := dUnhide X3 1 _ rfl
    have hw2 : w.heap.size + 3 ≤ w2.heap.size := by have := dUnhide hsz0; omega
    clear X2 Y2 Z2 B2 bA N2
    go_wp2_with fail
    generalize w2.alloc (.cells #[.slice ua m.eras.length uc, .int .i64 m.trim] 29) = w3 at *
    refine (dUnhide CF _ B3).mono ?_
    rintro e w4 ⟨rfl, b4⟩
    have B4 := belowThen B3 b4
    have s4 := b4.size
    have y0' := (dUnhide Y3).below b4 0 _ rfl
    have ZF := dHide ((dUnhide Z3).below b4)
    have OF := dHide ((dUnhide O3).below b4)
    have N4 := dHide ((dUnhide N3).below b4)
    have sA : w2.heap.size < w4.heap.size := by have := (dUnhide OF).lt; exact this
    clear y0 y1 x0 x1 X3 Y3 Z3 N3 O3 b4 CF B3

    obtain ⟨z0, f0⟩ := (dUnhide ZF).2 0 _ rfl
    obtain ⟨z1, f1⟩ := (dUnhide ZF).2 1 _ rfl
    obtain ⟨p0, g0⟩ := (dUnhide OF).2 0 _ rfl
    obtain ⟨p1, g1⟩ := (dUnhide OF).2 1 _ rfl
    have ZZ := dHide (((dUnhide ZF).put 0 (.slice ua m.eras.length uc)).put 1 (.int .i64 m.trim))
    have BB := dHide ((B4.setCell (p := ⟨w.heap.size + 1 + 1, 0, none⟩) (by simp only; omega) (.slice ua m.eras.length uc)).setCell (p := ⟨w.heap.size + 1 + 1, 1, none⟩) (by simp only; omega) (.int .i64 m.trim))
    have OO : Hid (OwEraS (w.heap.size + 3) w4.heap.size (.slice ua m.eras.length uc) _ ((w4.setCell ⟨w.heap.size + 1 + 1, 0, none⟩ (.slice ua m.eras.length uc)).setCell ⟨w.heap.size + 1 + 1, 1, none⟩ (.int .i64 m.trim))) := OwK.far (OwK.far (dUnhide N4).ow (by omega) _) (by omega) _
    have FV : Hid (Full ((w4.setCell ⟨w.heap.size + 1 + 1, 0, none⟩ (.slice ua m.eras.length uc)).setCell ⟨w.heap.size + 1 + 1, 1, none⟩ (.int .i64 m.trim)) (w.heap.size + 3) (.slice ua m.eras.length uc)) := (((dUnhide N4).full).set _ _ _).set _ _ _
    have hV : w4.heap.size = ((w4.setCell ⟨w.heap.size + 1 + 1, 0, none⟩ (.slice ua m.eras.length uc)).setCell ⟨w.heap.size + 1 + 1, 1, none⟩ (.int .i64 m.trim)).heap.size := by simp
    go_wp2_with fail
    generalize (w4.setCell ⟨w.heap.size + 1 + 1, 0, none⟩ (.slice ua m.eras.length uc)).setCell ⟨w.heap.size + 1 + 1, 1, none⟩ (.int .i64 m.trim) = V at *
    have q0 := ((dUnhide ZZ).2 0 _ rfl).1
    have q1 := ((dUnhide ZZ).2 1 _ rfl).1
    clear z0 z1 f0 f1 p0 p1 g0 g1
    rw [hV] at OO
    refine bodyPost_ret (v := .tuple #[.agg #[.slice ua m.eras.length uc, .int .i64 m.trim], .bool false]) (by simp [results, Tryz.results61, go_sem, q0, q1]) rfl ⟨⟨_, rfl, ⟨_, rfl, OwK.wide (dUnhide OO) (by omega) (Nat.le_refl _)⟩, _, _, rfl, (dUnhide FV).mono (by omega)⟩, dUnhide BB⟩
  have hb2 : ((firstO m.eras : Int) == 0) = false := by simp; omega
  by_cases h3 : x = (firstO m.eras : Int)
  · have hb3 : (x == (firstO m.eras : Int)) = true := by simp [h3]
    rw [closeM_no hP fun h => h.2.2.1 h3]
    go_enter Tryz.func61, Tryz.ntmps61
    go_wp2_with fail
    generalize ((w.alloc (.cells #[.slice ca ds.length cc, .int .i64 cop] 26)).alloc (.cells #[.slice a m.eras.length cap, .int .i64 m.trim] 29)).alloc (.cells #[.slice none 0 0, .int .i64 0] 29) = w0 at *
    refine (dUnhide CO _ B0).mono ?_
    rintro e w1 ⟨rfl, b1⟩
    have B1 := belowThen B0 b1
    have X1 := dHide ((dUnhide X0).below b1)
    have Y1 := dHide ((dUnhide Y0).below b1)
    have Z1 := dHide ((dUnhide Z0).below b1)
    have s1 := b1.size
    have y0 := dUnhide Y1 0 _ rfl
    have y1 := dUnhide Y1 1 _ rfl
    clear B0 b1 Z0 CO X0 Y0
    go_wp2_with fail
    refine (dUnhide CP _ B1).mono ?_
    rintro e w2 ⟨⟨u2, rfl, N2⟩, b2⟩
    obtain ⟨ua, uc, rfl⟩ := N2.slice
    have B2 := belowThen B1 b2
    have s2 := b2.size
    have X2 := dHide ((dUnhide X1).below b2)
    have Y2 := dHide ((dUnhide Y1).below b2)
    have Z2 := dHide ((dUnhide Z1).below b2)
    clear X1 Y1 Z1 B1 b2 CP y0 y1
    have bA := ba w2 (.cells #[.slice ua m.eras.length uc, .int .i64 m.trim] 29)
    have O3 := dHide (BxZ.new (B := w.heap.size) w2 [.slice ua m.eras.length uc, .int .i64 m.trim] 29 (by have := dUnhide hsz0; omega))
    have X3 := dHide ((dUnhide X2).below bA)
    have Y3 := dHide ((dUnhide Y2).below bA)
    have Z3 := dHide ((dUnhide Z2).below bA)
    have N3 := dHide ((N2.below bA).mono (base' := w.heap.size + 3) (by have := dUnhide hsz0; omega))
    have S3 : Hid (Sits (OwEraS w1.heap.size w2.heap.size (.slice ua m.eras.length uc) m.eras) w1.heap.size w2.heap.size (w2.alloc (.cells #[.slice ua m.eras.length uc, .int .i64 m.trim] 29))) := (OwK.sits N2.ow (Nat.le_refl _)).below bA
    have hw1 : w.heap.size + 3 ≤ w1.heap.size := by have := dUnhide hsz0; omega
    have N2h := dHide N2
    have b23 := bA
    have NB : Hid (∀ j, touch (.slice ua m.eras.length uc) = some j → j < w2.heap.size) := fun j hj => (N2.touched hj).2
    have B3 := belowThen B2 bA
    have y0 := dUnhide Y3 0 _ rfl
    have y1 := dUnhide Y3 1 _ rfl
    have x0 := dUnhide X3 0 _ rfl
    have x1 := dUnhide X3 1 _ rfl
    have hw2 : w.heap.size + 3 ≤ w2.heap.size := by have := dUnhide hsz0; omega
    clear X2 Y2 Z2 B2 bA N2
    go_wp2_with fail
    generalize w2.alloc (.cells #[.slice ua m.eras.length uc, .int .i64 m.trim] 29) = w3 at *
    refine (dUnhide CF _ B3).mono ?_
    rintro e w4 ⟨rfl, b4⟩
    have B4 := belowThen B3 b4
    have s4 := b4.size
    have y0' := (dUnhide Y3).below b4 0 _ rfl
    have ZF := dHide ((dUnhide Z3).below b4)
    have OF := dHide ((dUnhide O3).below b4)
    have N4 := dHide ((dUnhide N3).below b4)
    have sA : w2.heap.size < w4.heap.size := by have := (dUnhide OF).lt; exact this
    clear y0 y1 x0 x1 X3 Y3 Z3 N3 O3 b4 CF B3

    obtain ⟨z0, f0⟩ := (dUnhide ZF).2 0 _ rfl
    obtain ⟨z1, f1⟩ := (dUnhide ZF).2 1 _ rfl
    obtain ⟨p0, g0⟩ := (dUnhide OF).2 0 _ rfl
    obtain ⟨p1, g1⟩ := (dUnhide OF).2 1 _ rfl
    have ZZ := dHide (((dUnhide ZF).put 0 (.slice ua m.eras.length uc)).put 1 (.int .i64 m.trim))
    have BB := dHide ((B4.setCell (p := ⟨w.heap.size + 1 + 1, 0, none⟩) (by simp only; omega) (.slice ua m.eras.length uc)).setCell (p := ⟨w.heap.size + 1 + 1, 1, none⟩) (by simp only; omega) (.int .i64 m.trim))
    have OO : Hid (OwEraS (w.heap.size + 3) w4.heap.size (.slice ua m.eras.length uc) _ ((w4.setCell ⟨w.heap.size + 1 + 1, 0, none⟩ (.slice ua m.eras.length uc)).setCell ⟨w.heap.size + 1 + 1, 1, none⟩ (.int .i64 m.trim))) := OwK.far (OwK.far (dUnhide N4).ow (by omega) _) (by omega) _
    have FV : Hid (Full ((w4.setCell ⟨w.heap.size + 1 + 1, 0, none⟩ (.slice ua m.eras.length uc)).setCell ⟨w.heap.size + 1 + 1, 1, none⟩ (.int .i64 m.trim)) (w.heap.size + 3) (.slice ua m.eras.length uc)) := (((dUnhide N4).full).set _ _ _).set _ _ _
    have hV : w4.heap.size = ((w4.setCell ⟨w.heap.size + 1 + 1, 0, none⟩ (.slice ua m.eras.length uc)).setCell ⟨w.heap.size + 1 + 1, 1, none⟩ (.int .i64 m.trim)).heap.size := by simp
    go_wp2_with fail
    generalize (w4.setCell ⟨w.heap.size + 1 + 1, 0, none⟩ (.slice ua m.eras.length uc)).setCell ⟨w.heap.size + 1 + 1, 1, none⟩ (.int .i64 m.trim) = V at *
    have q0 := ((dUnhide ZZ).2 0 _ rfl).1
    have q1 := ((dUnhide ZZ).2 1 _ rfl).1
    clear z0 z1 f0 f1 p0 p1 g0 g1
    rw [hV] at OO
    refine bodyPost_ret (v := .tuple #[.agg #[.slice ua m.eras.length uc, .int .i64 m.trim], .bool false]) (by simp [results, Tryz.results61, go_sem, q0, q1]) rfl ⟨⟨_, rfl, ⟨_, rfl, OwK.wide (dUnhide OO) (by omega) (Nat.le_refl _)⟩, _, _, rfl, (dUnhide FV).mono (by omega)⟩, dUnhide BB⟩
  have hb3 : (x == (firstO m.eras : Int)) = false := by simp [h3]
  by_cases h4 : 0 ≤ y ∧ y ≤ 60
  case neg =>
    have CI := dHide fun W => l1In_no y 0 60 (by omega) W
    rw [closeM_no hP fun h => h4 h.2.2.2]
    go_enter Tryz.func61, Tryz.ntmps61
    go_wp2_with fail
    generalize ((w.alloc (.cells #[.slice ca ds.length cc, .int .i64 cop] 26)).alloc (.cells #[.slice a m.eras.length cap, .int .i64 m.trim] 29)).alloc (.cells #[.slice none 0 0, .int .i64 0] 29) = w0 at *
    refine (dUnhide CO _ B0).mono ?_
    rintro e w1 ⟨rfl, b1⟩
    have B1 := belowThen B0 b1
    have X1 := dHide ((dUnhide X0).below b1)
    have Y1 := dHide ((dUnhide Y0).below b1)
    have Z1 := dHide ((dUnhide Z0).below b1)
    have s1 := b1.size
    have y0 := dUnhide Y1 0 _ rfl
    have y1 := dUnhide Y1 1 _ rfl
    clear B0 b1 Z0 CO X0 Y0
    go_wp2_with fail
    refine (dUnhide CP _ B1).mono ?_
    rintro e w2 ⟨⟨u2, rfl, N2⟩, b2⟩
    obtain ⟨ua, uc, rfl⟩ := N2.slice
    have B2 := belowThen B1 b2
    have s2 := b2.size
    have X2 := dHide ((dUnhide X1).below b2)
    have Y2 := dHide ((dUnhide Y1).below b2)
    have Z2 := dHide ((dUnhide Z1).below b2)
    clear X1 Y1 Z1 B1 b2 CP y0 y1
    have bA := ba w2 (.cells #[.slice ua m.eras.length uc, .int .i64 m.trim] 29)
    have O3 := dHide (BxZ.new (B := w.heap.size) w2 [.slice ua m.eras.length uc, .int .i64 m.trim] 29 (by have := dUnhide hsz0; omega))
    have X3 := dHide ((dUnhide X2).below bA)
    have Y3 := dHide ((dUnhide Y2).below bA)
    have Z3 := dHide ((dUnhide Z2).below bA)
    have N3 := dHide ((N2.below bA).mono (base' := w.heap.size + 3) (by have := dUnhide hsz0; omega))
    have S3 : Hid (Sits (OwEraS w1.heap.size w2.heap.size (.slice ua m.eras.length uc) m.eras) w1.heap.size w2.heap.size (w2.alloc (.cells #[.slice ua m.eras.length uc, .int .i64 m.trim] 29))) := (OwK.sits N2.ow (Nat.le_refl _)).below bA
    have hw1 : w.heap.size + 3 ≤ w1.heap.size := by have := dUnhide hsz0; omega
    have N2h := dHide N2
    have b23 := bA
    have NB : Hid (∀ j, touch (.slice ua m.eras.length uc) = some j → j < w2.heap.size) := fun j hj => (N2.touched hj).2
    have B3 := belowThen B2 bA
    have y0 := dUnhide Y3 0 _ rfl
    have y1 := dUnhide Y3 1 _ rfl
    have x0 := dUnhide X3 0 _ rfl
    have x1 := dUnhide X3 1 _ rfl
    have hw2 : w.heap.size + 3 ≤ w2.heap.size := by have := dUnhide hsz0; omega
    clear X2 Y2 Z2 B2 bA N2
    go_wp2_with fail
    generalize w2.alloc (.cells #[.slice ua m.eras.length uc, .int .i64 m.trim] 29) = w3 at *
    refine (dUnhide CF _ B3).mono ?_
    rintro e w4 ⟨rfl, b4⟩
    have B4 := belowThen B3 b4
    have s4 := b4.size
    have y0' := (dUnhide Y3).below b4 0 _ rfl
    have ZF := dHide ((dUnhide Z3).below b4)
    have OF := dHide ((dUnhide O3).below b4)
    have N4 := dHide ((dUnhide N3).below b4)
    have sA : w2.heap.size < w4.heap.size := by have := (dUnhide OF).lt; exact this
    clear y0 y1 x0 x1 X3 Y3 Z3 N3 O3 b4 CF B3

    go_wp2_with fail
    refine (dUnhide CI _).mono ?_
    rintro e w5 ⟨rfl, e5⟩
    have e5' := e5.symm
    subst e5'
    obtain ⟨z0, f0⟩ := (dUnhide ZF).2 0 _ rfl
    obtain ⟨z1, f1⟩ := (dUnhide ZF).2 1 _ rfl
    obtain ⟨p0, g0⟩ := (dUnhide OF).2 0 _ rfl
    obtain ⟨p1, g1⟩ := (dUnhide OF).2 1 _ rfl
    have ZZ := dHide (((dUnhide ZF).put 0 (.slice ua m.eras.length uc)).put 1 (.int .i64 m.trim))
    have BB := dHide ((B4.setCell (p := ⟨w.heap.size + 1 + 1, 0, none⟩) (by simp only; omega) (.slice ua m.eras.length uc)).setCell (p := ⟨w.heap.size + 1 + 1, 1, none⟩) (by simp only; omega) (.int .i64 m.trim))
    have OO : Hid (OwEraS (w.heap.size + 3) w4.heap.size (.slice ua m.eras.length uc) _ ((w4.setCell ⟨w.heap.size + 1 + 1, 0, none⟩ (.slice ua m.eras.length uc)).setCell ⟨w.heap.size + 1 + 1, 1, none⟩ (.int .i64 m.trim))) := OwK.far (OwK.far (dUnhide N4).ow (by omega) _) (by omega) _
    have FV : Hid (Full ((w4.setCell ⟨w.heap.size + 1 + 1, 0, none⟩ (.slice ua m.eras.length uc)).setCell ⟨w.heap.size + 1 + 1, 1, none⟩ (.int .i64 m.trim)) (w.heap.size + 3) (.slice ua m.eras.length uc)) := (((dUnhide N4).full).set _ _ _).set _ _ _
    have hV : w4.heap.size = ((w4.setCell ⟨w.heap.size + 1 + 1, 0, none⟩ (.slice ua m.eras.length uc)).setCell ⟨w.heap.size + 1 + 1, 1, none⟩ (.int .i64 m.trim)).heap.size := by simp
    go_wp2_with fail
    generalize (w4.setCell ⟨w.heap.size + 1 + 1, 0, none⟩ (.slice ua m.eras.length uc)).setCell ⟨w.heap.size + 1 + 1, 1, none⟩ (.int .i64 m.trim) = V at *
    have q0 := ((dUnhide ZZ).2 0 _ rfl).1
    have q1 := ((dUnhide ZZ).2 1 _ rfl).1
    clear z0 z1 f0 f1 p0 p1 g0 g1
    rw [hV] at OO
    refine bodyPost_ret (v := .tuple #[.agg #[.slice ua m.eras.length uc, .int .i64 m.trim], .bool false]) (by simp [results, Tryz.results61, go_sem, q0, q1]) rfl ⟨⟨_, rfl, ⟨_, rfl, OwK.wide (dUnhide OO) (by omega) (Nat.le_refl _)⟩, _, _, rfl, (dUnhide FV).mono (by omega)⟩, dUnhide BB⟩
  have CI := dHide fun W => l1In_yes y 0 60 h4.1 h4.2 W
  obtain ⟨k, hk, e1, -, -⟩ := firstO_pos h2
  have eM : closeE m.eras (firstO m.eras - 1) y = ((m.eras.set k ⟨m.eras[k].nodes, true, m.eras[k].last⟩).set k ⟨m.eras[k].nodes, true, y⟩) := by
    rw [e1, Nat.add_sub_cancel]
    unfold closeE
    rw [getD_lt _ hk, List.set_set]
  rw [closeM_yes hP ⟨h1, h2, h3, h4⟩]
  simp only [eM]
  rw [e1] at CF hb2 hb3 hfl h3
  have hb4 : ((k : Int) + 1 == 0) = false := by simp; omega
  have hb5 : (x == (k : Int) + 1) = false := by simp; omega
  have hb6 : (m.eras.length == k + 1) = false := by simp; omega
  have hb7 : ((m.eras.length : Int) == (k : Int) + 1) = false := by simp; omega
  clear eM h2 h3 h4
  go_enter Tryz.func61, Tryz.ntmps61
  go_wp2_with fail
  generalize ((w.alloc (.cells #[.slice ca ds.length cc, .int .i64 cop] 26)).alloc (.cells #[.slice a m.eras.length cap, .int .i64 m.trim] 29)).alloc (.cells #[.slice none 0 0, .int .i64 0] 29) = w0 at *
  refine (dUnhide CO _ B0).mono ?_
  rintro e w1 ⟨rfl, b1⟩
  have B1 := belowThen B0 b1
  have X1 := dHide ((dUnhide X0).below b1)
  have Y1 := dHide ((dUnhide Y0).below b1)
  have Z1 := dHide ((dUnhide Z0).below b1)
  have s1 := b1.size
  have y0 := dUnhide Y1 0 _ rfl
  have y1 := dUnhide Y1 1 _ rfl
  clear B0 b1 Z0 CO X0 Y0
  go_wp2_with fail
  refine (dUnhide CP _ B1).mono ?_
  rintro e w2 ⟨⟨u2, rfl, N2⟩, b2⟩
  obtain ⟨ua, uc, rfl⟩ := N2.slice
  have B2 := belowThen B1 b2
  have s2 := b2.size
  have X2 := dHide ((dUnhide X1).below b2)
  have Y2 := dHide ((dUnhide Y1).below b2)
  have Z2 := dHide ((dUnhide Z1).below b2)
  clear X1 Y1 Z1 B1 b2 CP y0 y1
  have bA := ba w2 (.cells #[.slice ua m.eras.length uc, .int .i64 m.trim] 29)
  have O3 := dHide (BxZ.new (B := w.heap.size) w2 [.slice ua m.eras.length uc, .int .i64 m.trim] 29 (by have := dUnhide hsz0; omega))
  have X3 := dHide ((dUnhide X2).below bA)
  have Y3 := dHide ((dUnhide Y2).below bA)
  have Z3 := dHide ((dUnhide Z2).below bA)
  have N3 := dHide ((N2.below bA).mono (base' := w.heap.size + 3) (by have := dUnhide hsz0; omega))
  have S3 : Hid (Sits (OwEraS w1.heap.size w2.heap.size (.slice ua m.eras.length uc) m.eras) w1.heap.size w2.heap.size (w2.alloc (.cells #[.slice ua m.eras.length uc, .int .i64 m.trim] 29))) := (OwK.sits N2.ow (Nat.le_refl _)).below bA
  have hw1 : w.heap.size + 3 ≤ w1.heap.size := by have := dUnhide hsz0; omega
  have N2h := dHide N2
  have b23 := bA
  have NB : Hid (∀ j, touch (.slice ua m.eras.length uc) = some j → j < w2.heap.size) := fun j hj => (N2.touched hj).2
  have B3 := belowThen B2 bA
  have y0 := dUnhide Y3 0 _ rfl
  have y1 := dUnhide Y3 1 _ rfl
  have x0 := dUnhide X3 0 _ rfl
  have x1 := dUnhide X3 1 _ rfl
  have hw2 : w.heap.size + 3 ≤ w2.heap.size := by have := dUnhide hsz0; omega
  clear X2 Y2 Z2 B2 bA N2
  go_wp2_with fail
  generalize w2.alloc (.cells #[.slice ua m.eras.length uc, .int .i64 m.trim] 29) = w3 at *
  refine (dUnhide CF _ B3).mono ?_
  rintro e w4 ⟨rfl, b4⟩
  have B4 := belowThen B3 b4
  have s4 := b4.size
  have y0' := (dUnhide Y3).below b4 0 _ rfl
  have ZF := dHide ((dUnhide Z3).below b4)
  have OF := dHide ((dUnhide O3).below b4)
  have N4 := dHide ((dUnhide N3).below b4)
  have sA : w2.heap.size < w4.heap.size := by have := (dUnhide OF).lt; exact this
  clear y0 y1 x0 x1 X3 Y3 Z3 N3 O3 b4 CF B3

  go_wp2_with fail
  refine (dUnhide CI _).mono ?_
  rintro e w5 ⟨rfl, e5⟩
  have e5' := e5.symm
  subst e5'
  obtain ⟨b, off, rfl, hb1', hb2', ⟨c0, c1, c2, k0, k1, k2⟩, hfz, W1, -⟩ := OwK.put (dUnhide N4).ow hk
  have OW1 := dHide (W1 true)
  have hkS : k < (m.eras.set k ⟨m.eras[k].nodes, true, m.eras[k].last⟩).length := by simpa using hk
  obtain ⟨b', off', e', -, -, ⟨d0, d1, d2, j0, j1, j2⟩, hfz', -, W2⟩ := OwK.put (dUnhide OW1) hkS
  cases e'
  have OW2 := dHide (W2 y)
  rw [List.getElem_set_self hkS] at OW2
  have fz1 := hfz 1 (by decide)
  have fz2 := hfz' 2 (by decide)
  have p0 := ((dUnhide OF).2 0 _ rfl).1
  have hne : w2.heap.size ≠ b := by
    intro e
    subst e
    have := dUnhide NB w2.heap.size (by
      have hc : uc ≠ 0 := by
        intro e0
        obtain ⟨rs, q1, q2, -⟩ := dUnhide N4
        obtain ⟨-, a9, c9, e9, q9, -⟩ := (ApR.own elemR q2).rw
        simp only [Value.slice.injEq] at e9
        have q7 := e9.2.1
        have q8 := e9.2.2
        omega
      simp [touch, hc])
    omega
  have ek : ((k + 1 : Nat) : Int) - 1 = (k : Int) := by omega
  have OF1 := dHide ((dUnhide OF).far (b' := b) (o := off + k * 3 + 1) hne (.bool true))
  have OF2 := dHide ((dUnhide OF1).far (b' := b) (o := off + k * 3 + 2) hne (.int .i64 y))
  have ZF1 := dHide (((dUnhide ZF).far (b' := b) (o := off + k * 3 + 1) (by omega) (.bool true)).far (b' := b) (o := off + k * 3 + 2) (by omega) (.int .i64 y))
  have BF := (B4.setCell (p := ⟨b, off + k * 3 + 1, none⟩) (by simp only; omega) (.bool true)).setCell (p := ⟨b, off + k * 3 + 2, none⟩) (by simp only; omega) (.int .i64 y)
  have pp0 := ((dUnhide OF1).2 0 _ rfl).1
  have sV : w4.heap.size = ((w4.setCell ⟨b, off + k * 3 + 1, none⟩ (.bool true)).setCell ⟨b, off + k * 3 + 2, none⟩ (.int .i64 y)).heap.size := by simp
  have OW3 : Hid (OwEraS (w.heap.size + 3) ((w4.setCell ⟨b, off + k * 3 + 1, none⟩ (.bool true)).setCell ⟨b, off + k * 3 + 2, none⟩ (.int .i64 y)).heap.size (.slice (some ⟨b, off, none⟩) m.eras.length uc) ((m.eras.set k ⟨m.eras[k].nodes, true, m.eras[k].last⟩).set k ⟨m.eras[k].nodes, true, y⟩) ((w4.setCell ⟨b, off + k * 3 + 1, none⟩ (.bool true)).setCell ⟨b, off + k * 3 + 2, none⟩ (.int .i64 y))) := by rw [Hid, ← sV]; exact dUnhide OW2
  have FN := dHide (((dUnhide N4).full.set b (off + k * 3 + 1) (.bool true)).set b (off + k * 3 + 2) (.int .i64 y))
  clear W1 W2 hfz hfz' OW1 N4 CI OF ZF OW2
  obtain ⟨z0, f0⟩ := (dUnhide ZF1).2 0 _ rfl
  obtain ⟨z1, f1⟩ := (dUnhide ZF1).2 1 _ rfl
  obtain ⟨p0, g0⟩ := (dUnhide OF2).2 0 _ rfl
  obtain ⟨p1, g1⟩ := (dUnhide OF2).2 1 _ rfl
  have ZZ := dHide (((dUnhide ZF1).put 0 (.slice (some ⟨b, off, none⟩) m.eras.length uc)).put 1 (.int .i64 m.trim))
  have BB := dHide ((BF.setCell (p := ⟨w.heap.size + 1 + 1, 0, none⟩) (by simp only; omega) (.slice (some ⟨b, off, none⟩) m.eras.length uc)).setCell (p := ⟨w.heap.size + 1 + 1, 1, none⟩) (by simp only; omega) (.int .i64 m.trim))
  have OO : Hid (OwEraS (w.heap.size + 3) ((w4.setCell ⟨b, off + k * 3 + 1, none⟩ (.bool true)).setCell ⟨b, off + k * 3 + 2, none⟩ (.int .i64 y)).heap.size (.slice (some ⟨b, off, none⟩) m.eras.length uc) _ ((((w4.setCell ⟨b, off + k * 3 + 1, none⟩ (.bool true)).setCell ⟨b, off + k * 3 + 2, none⟩ (.int .i64 y)).setCell ⟨w.heap.size + 1 + 1, 0, none⟩ (.slice (some ⟨b, off, none⟩) m.eras.length uc)).setCell ⟨w.heap.size + 1 + 1, 1, none⟩ (.int .i64 m.trim))) := OwK.far (OwK.far (dUnhide OW3) (by omega) _) (by omega) _
  have FV : Hid (Full ((((w4.setCell ⟨b, off + k * 3 + 1, none⟩ (.bool true)).setCell ⟨b, off + k * 3 + 2, none⟩ (.int .i64 y)).setCell ⟨w.heap.size + 1 + 1, 0, none⟩ (.slice (some ⟨b, off, none⟩) m.eras.length uc)).setCell ⟨w.heap.size + 1 + 1, 1, none⟩ (.int .i64 m.trim)) (w.heap.size + 3) (.slice (some ⟨b, off, none⟩) m.eras.length uc)) := ((dUnhide FN).set _ _ _).set _ _ _
  have hV : ((w4.setCell ⟨b, off + k * 3 + 1, none⟩ (.bool true)).setCell ⟨b, off + k * 3 + 2, none⟩ (.int .i64 y)).heap.size = ((((w4.setCell ⟨b, off + k * 3 + 1, none⟩ (.bool true)).setCell ⟨b, off + k * 3 + 2, none⟩ (.int .i64 y)).setCell ⟨w.heap.size + 1 + 1, 0, none⟩ (.slice (some ⟨b, off, none⟩) m.eras.length uc)).setCell ⟨w.heap.size + 1 + 1, 1, none⟩ (.int .i64 m.trim)).heap.size := by simp
  go_wp2_with fail
  generalize (((w4.setCell ⟨b, off + k * 3 + 1, none⟩ (.bool true)).setCell ⟨b, off + k * 3 + 2, none⟩ (.int .i64 y)).setCell ⟨w.heap.size + 1 + 1, 0, none⟩ (.slice (some ⟨b, off, none⟩) m.eras.length uc)).setCell ⟨w.heap.size + 1 + 1, 1, none⟩ (.int .i64 m.trim) = V at *
  have q0 := ((dUnhide ZZ).2 0 _ rfl).1
  have q1 := ((dUnhide ZZ).2 1 _ rfl).1
  clear z0 z1 f0 f1 p0 p1 g0 g1
  rw [hV] at OO
  refine bodyPost_ret (v := .tuple #[.agg #[.slice (some ⟨b, off, none⟩) m.eras.length uc, .int .i64 m.trim], .bool true]) (by simp [results, Tryz.results61, go_sem, q0, q1]) rfl ⟨⟨_, rfl, ⟨_, rfl, OwK.wide (dUnhide OO) (by omega) (Nat.le_refl _)⟩, _, _, rfl, (dUnhide FV).mono (by omega)⟩, dUnhide BB⟩
theorem specRegClose_any (cv v : Value) (c : List Int × Int) (m : Rg) (x y : Int) (okx : okInt x) (oky : okInt y) (w : World) (hc : RdConfig cv c w) (hv : RdRegister v m w) (ok : okRegister m) (hs : sizRegister m ≤ 1048576) :
    Calls Tryz.prog 61 #[cv, v, .int .i64 x, .int .i64 y] w fun e w' => (∃ u, e = .returned (.tuple #[u, .bool (closeM c.1 c.2 m x y).2]) ∧ OwRegister w.heap.size w'.heap.size u (closeM c.1 c.2 m x y).1 w') ∧ Below w.heap.size w w' :=
  (specRegClose_full cv v c m x y okx oky w hc hv ok hs).mono fun _ _ ⟨⟨u, h1, h2, _⟩, h3⟩ => ⟨⟨u, h1, h2⟩, h3⟩
end Go.Proofs.YthndkkjgjhgdnaaGreatDoor

