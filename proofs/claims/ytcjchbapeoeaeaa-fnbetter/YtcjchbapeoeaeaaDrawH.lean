/- DrawEntryPack, DrawBetter. -/
import Derived.Test.YtcjchbapeoeaeaaDrawG
import Derived.Test.YtcjchbapeoeaeaaRowB
import Derived.Deep.RegionHeld3
namespace Go.Proofs.Ytcjchbapeoeaeaa
open Go.ChangeShapes Go.WideShapes Go.ChangeAt Go.RowKit
set_option linter.unusedVariables false

set_option maxHeartbeats 1000000 in
theorem drawEntryPack_any (a : Option Addr) (len cap : Nat) (w : World) (hr : Row8 w a len) :
    Calls Try.prog 10 #[.slice a len cap] w fun r w' => (∃ e : Ent, (e.fits ∧ e.data.size ≤ 41) ∧ r = .returned e.val) ∧ Below w.heap.size w w' := by
  have ha : ∀ o, Below w.heap.size w (w.alloc o) := fun o => (Below.refl _ _).alloc (Nat.le_refl _) o
  go_enter Try.func10, Try.ntmps10
  go_wp2_with fail
  have Z0 := FourZ.fresh w (.int .i64 0) (.int .i64 0) (.bool false) (.string ⟨#[]⟩) 25
  have hr0 := hr.below (ha (.cells #[.int .i64 0, .int .i64 0, .bool false, .string ⟨#[]⟩] 25))
  have B0 := ha (.cells #[.int .i64 0, .int .i64 0, .bool false, .string ⟨#[]⟩] 25)
  have hlt := dCell_lt Z0.2.1.1
  generalize w.alloc (.cells #[.int .i64 0, .int .i64 0, .bool false, .string ⟨#[]⟩] 25) = w0 at *
  clear ha hr
  refine (l1New_any _ _ _ _ hr0).mono ?_
  rintro e w1 ⟨bk, rfl, hbk, hc1, b1⟩
  have Z1 := Z0.kept b1
  have B1 : Below w.heap.size w w1 := B0.trans (b1.mono B0.size)
  clear Z0 hr0
  go_wp2_with fail
  refine (l3Draw_any bk _ hc1).mono ?_
  rintro e w2 ⟨⟨m, hm, rfl⟩, hc2, hd2⟩
  have Z2 := Z1.drawn hd2 (by omega)
  have B2 : Below w.heap.size w w2 := hd2.below B1 B1.size (by omega)
  clear Z1 hc1 hc2 hd2 b1 B0 B1
  obtain ⟨P, WV, HO, T⟩ := m
  simp only [Ent.val] at *
  obtain ⟨-, ⟨r0, r1, r2, r3⟩, g0, g1, g2, g3⟩ := id Z2
  go_wp2
  obtain ⟨f0, f1, f2, f3⟩ := Z2.set (.int .i64 P) (.int .i64 WV) (.bool HO) (.string T)
  have hbE := Z2.below B2 (.int .i64 P) (.int .i64 WV) (.bool HO) (.string T)
  generalize (((w2.setCell ⟨w.heap.size, 0, none⟩ (.int .i64 P)).setCell ⟨w.heap.size, 1, none⟩ (.int .i64 WV)).setCell ⟨w.heap.size, 2, none⟩ (.bool HO)).setCell ⟨w.heap.size, 3, none⟩ (.string T) = V at *
  refine bodyPost_ret (v := (⟨P, WV, HO, T⟩ : Ent).val) (by simp [results, Try.results10, go_sem, f0, f1, f2, f3, Ent.val]) rfl ⟨⟨⟨P, WV, HO, T⟩, hm, rfl⟩, hbE⟩
theorem l3Draw_flat (bk : Nat) (w : World) (hc : Cur w bk) :
    Calls Try.prog 29 #[.pointer (some ⟨bk, 0, none⟩)] w fun r w' => (∃ (P WV : Int) (HO : Bool) (T : ByteArray), (Ent.fits ⟨P, WV, HO, T⟩ ∧ T.size ≤ 41) ∧ r = .returned (.agg #[.int .i64 P, .int .i64 WV, .bool HO, .string T])) ∧ Cur w' bk ∧ Drawn bk w w' :=
  (l3Draw_any bk w hc).mono fun r w' ⟨⟨e, h1, h2⟩, h3⟩ => ⟨⟨e.pl, e.wave, e.hole, e.data, h1, h2⟩, h3⟩
set_option maxHeartbeats 2000000 in
theorem drawBetter_any (a : Option Addr) (len cap : Nat) (w : World) (hr : Row8 w a len) :
    Calls Try.prog 18 #[.slice a len cap] w fun r w' => (∃ e e' : Ent, (e.fits ∧ e.data.size ≤ 41) ∧ (e'.fits ∧ e'.data.size ≤ 41) ∧ r = .returned (.tuple #[e.val, e'.val])) ∧ Below w.heap.size w w' := by
  go_enter Try.func18, Try.ntmps18
  go_wp2_with fail
  have ha : ∀ (w : World) o, Below w.heap.size w (w.alloc o) := fun w o => (Below.refl _ _).alloc (Nat.le_refl _) o
  have X0 := FourZ.fresh w (.int .i64 0) (.int .i64 0) (.bool false) (.string ⟨#[]⟩) 25
  have B0 := ha w (.cells #[.int .i64 0, .int .i64 0, .bool false, .string ⟨#[]⟩] 25)
  have hr0 := hr.below B0
  have hsz : (w.alloc (.cells #[.int .i64 0, .int .i64 0, .bool false, .string ⟨#[]⟩] 25)).heap.size = w.heap.size + 1 := by simp
  generalize w.alloc (.cells #[.int .i64 0, .int .i64 0, .bool false, .string ⟨#[]⟩] 25) = w0 at *
  have Y0 := FourZ.fresh w0 (.int .i64 0) (.int .i64 0) (.bool false) (.string ⟨#[]⟩) 25
  have B1 := ha w0 (.cells #[.int .i64 0, .int .i64 0, .bool false, .string ⟨#[]⟩] 25)
  rw [hsz] at Y0
  have hr1 := hr0.below B1
  have X1 := X0.kept B1
  have B1' : Below w.heap.size w (w0.alloc (.cells #[.int .i64 0, .int .i64 0, .bool false, .string ⟨#[]⟩] 25)) := B0.trans (B1.mono B0.size)
  have hsz1 : (w0.alloc (.cells #[.int .i64 0, .int .i64 0, .bool false, .string ⟨#[]⟩] 25)).heap.size = w.heap.size + 1 + 1 := by simp [hsz]
  generalize w0.alloc (.cells #[.int .i64 0, .int .i64 0, .bool false, .string ⟨#[]⟩] 25) = w1 at *
  clear hr hr0 X0 B0 B1 hsz
  refine (l1New_any _ _ _ _ hr1).mono ?_
  rintro e w2 ⟨bk, rfl, hbk, hc2, b2⟩
  have X2 := X1.kept b2
  have Y2 := Y0.kept b2
  have B2 : Below w.heap.size w w2 := B1'.trans (b2.mono B1'.size)
  clear X1 Y0 B1' hr1 b2
  go_wp2_with fail
  refine (l3Draw_any bk _ hc2).mono ?_
  rintro e w3 ⟨⟨m, hm, rfl⟩, hc3, hd3⟩
  have X3 := X2.drawn hd3 (by omega)
  have Y3 := Y2.drawn hd3 (by omega)
  have B3 : Below w.heap.size w w3 := hd3.below B2 B2.size (by omega)
  have hlt3 := hc3.lt
  clear X2 Y2 B2 hc2 hd3
  obtain ⟨P, WV, HO, T⟩ := m
  simp only [Ent.val] at *
  go_wp2_with fail
  have E4 := FourZ.fresh w3 (.int .i64 P) (.int .i64 WV) (.bool HO) (.string T) 25
  have X4 := X3.kept (ha w3 (.cells #[.int .i64 P, .int .i64 WV, .bool HO, .string T] 25))
  have Y4 := Y3.kept (ha w3 (.cells #[.int .i64 P, .int .i64 WV, .bool HO, .string T] 25))
  have hc4 := hc3.below (ha w3 (.cells #[.int .i64 P, .int .i64 WV, .bool HO, .string T] 25))
  have B4 : Below w.heap.size w _ := B3.trans ((ha w3 (.cells #[.int .i64 P, .int .i64 WV, .bool HO, .string T] 25)).mono B3.size)
  generalize hbe : w3.heap.size = be at *
  generalize w3.alloc (.cells #[.int .i64 P, .int .i64 WV, .bool HO, .string T] 25) = w4 at *
  clear hbe X3 Y3 B3 hc3 ha
  obtain ⟨-, ⟨e0, e1, e2, e3⟩, -⟩ := id E4
  have hdd : Drawn bk w4 w4.drew := (Drawn.refl bk w4).drew
  have hcd : Cur w4.drew bk := hc4.below (Below.refl _ _).drew
  go_region_held3 (fun W => W.cell? ⟨be, 0, none⟩ = some (.int .i64 P) ∧ W.cell? ⟨be, 1, none⟩ = some (.int .i64 WV) ∧ W.cell? ⟨be, 2, none⟩ = some (.bool HO) ∧ W.cell? ⟨be, 3, none⟩ = some (.string T)) (go_keep)
    (first
      | (go_at_call 29; refine (l3Draw_flat bk _ hcd).mono ?_; rintro e w5 ⟨⟨P', WV', HO', T', hm', rfl⟩, hc5, hd5⟩; have hd5 := hdd.trans hd5; have E5 := E4.drawn hd5 (by omega); have X5 := X4.drawn hd5 (by omega); have Y5 := Y4.drawn hd5 (by omega); obtain ⟨-, ⟨e0, e1, e2, e3⟩, -⟩ := id E5; obtain ⟨-, ⟨x0, x1, x2, x3⟩, p0, p1, p2, p3⟩ := id X5; obtain ⟨-, ⟨y0, y1, y2, y3⟩, q0, q1, q2, q3⟩ := FourZ.far4 (b' := w.heap.size) Y5 (by omega) (.int .i64 P) (.int .i64 WV) (.bool HO) (.string T); have E6 := FourZ.far4 (b' := w.heap.size) E5 (by omega) (.int .i64 P) (.int .i64 WV) (.bool HO) (.string T); have E7 := FourZ.far4 (b' := w.heap.size + 1) E6 (by omega) (.int .i64 P') (.int .i64 WV') (.bool HO') (.string T'); obtain ⟨-, ⟨h0, h1, h2, h3⟩, -⟩ := id E6; obtain ⟨-, ⟨j0, j1, j2, j3⟩, -⟩ := id E7))
  have hbw : w.heap.size ≤ bk := by omega
  have B5 : Below w.heap.size w w5 := hd5.below B4 B4.size hbw
  have X7 := FourZ.far4 (b' := w.heap.size + 1) (X5.setZ (.int .i64 P) (.int .i64 WV) (.bool HO) (.string T)) (by omega) (.int .i64 P') (.int .i64 WV') (.bool HO') (.string T')
  have Y7 := (FourZ.far4 (b' := w.heap.size) Y5 (by omega) (.int .i64 P) (.int .i64 WV) (.bool HO) (.string T)).setZ (.int .i64 P') (.int .i64 WV') (.bool HO') (.string T')
  have B7 := below_set4 (below_set4 B5 (Nat.le_refl _) (.int .i64 P) (.int .i64 WV) (.bool HO) (.string T)) (b := w.heap.size + 1) (by omega) (.int .i64 P') (.int .i64 WV') (.bool HO') (.string T')
  clear X5 Y5 E5 E6 E7 B5 B4 X4 Y4 E4 e0 e1 e2 e3 h0 h1 h2 h3 j0 j1 j2 j3 y0 y1 y2 y3 q0 q1 q2 q3 x0 x1 x2 x3 p0 p1 p2 p3
  obtain ⟨-, ⟨f0, f1, f2, f3⟩, -⟩ := X7
  obtain ⟨-, ⟨k0, k1, k2, k3⟩, -⟩ := Y7
  generalize (((((((w5.setCell ⟨w.heap.size, 0, none⟩ (.int .i64 P)).setCell ⟨w.heap.size, 1, none⟩ (.int .i64 WV)).setCell ⟨w.heap.size, 2, none⟩ (.bool HO)).setCell ⟨w.heap.size, 3, none⟩ (.string T)).setCell ⟨w.heap.size + 1, 0, none⟩ (.int .i64 P')).setCell ⟨w.heap.size + 1, 1, none⟩ (.int .i64 WV')).setCell ⟨w.heap.size + 1, 2, none⟩ (.bool HO')).setCell ⟨w.heap.size + 1, 3, none⟩ (.string T') = V at *
  go_wp2
  refine bodyPost_ret (v := .tuple #[(⟨P, WV, HO, T⟩ : Ent).val, (⟨P', WV', HO', T'⟩ : Ent).val]) (by simp [results, Try.results18, go_sem, f0, f1, f2, f3, k0, k1, k2, k3, Ent.val]) rfl ⟨⟨⟨P, WV, HO, T⟩, ⟨P', WV', HO', T'⟩, hm, hm', rfl⟩, B7⟩
end Go.Proofs.Ytcjchbapeoeaeaa
