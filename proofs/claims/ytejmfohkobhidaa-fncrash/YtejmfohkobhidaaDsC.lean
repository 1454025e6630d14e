/- Draws of stores: DrawStoreCrash, DrawStorePut (tools/mkstc.py). -/
import Derived.Test.YtejmfohkobhidaaStW
namespace Go.Proofs.Ytejmfohkobhidaa
open Go.ChangeShapes Go.WideShapes Go.ChangeAt Go.RowKit
set_option linter.unusedVariables false
set_option linter.unusedSimpArgs false
set_option maxRecDepth 100000

set_option maxHeartbeats 8000000 in
theorem drawStoreCrash_any (a : Option Addr) (len cap : Nat) (w : World) (hr : Row8 w a len) :
    Calls Try.prog 14 #[.slice a len cap] w fun e w' => (∃ u x, I64 x ∧ e = .returned (.tuple #[u, .int .i64 x]) ∧ Drew6 w w' u 300 30) ∧ Below w.heap.size w w' := by
  have ba : ∀ (w : World) o, Below w.heap.size w (w.alloc o) := fun w o => (Below.refl _ _).alloc (Nat.le_refl _) o
  have b0 := ba w (.cells #[.slice none 0 0, .slice none 0 0, .int .i64 0] 26)
  have Z0 := BxZ.new (B := w.heap.size) w [.slice none 0 0, .slice none 0 0, .int .i64 0] 26 (Nat.le_refl _)
  have hr0 := hr.below b0
  have e1 : (w.alloc (.cells #[.slice none 0 0, .slice none 0 0, .int .i64 0] 26)).heap.size = w.heap.size + 1 := by simp
  go_enter Try.func14, Try.ntmps14
  go_wp2_with fail
  generalize w.alloc (.cells #[.slice none 0 0, .slice none 0 0, .int .i64 0] 26) = w0 at *
  refine (l1New_any a len cap w0 hr0).mono ?_
  rintro e w1 ⟨bk, rfl, hbk, hc1, hb1⟩
  have hk1 := hc1.lt
  have Z1 := Z0.below hb1
  have B1 := belowThen b0 hb1
  clear hr hr0 Z0 b0 hb1
  go_wp2_with fail
  refine (l6Draw_any bk w1 hc1).mono ?_
  rintro e w2 ⟨⟨u, rfl, s, O2, hf, hkl, hll⟩, hc2, hd2⟩
  obtain ⟨ka, kc, la, lc, rfl⟩ := O2.shape
  have Z2 := Z1.drawn hd2 (by omega)
  have B2 := hd2.below B1 B1.size (by omega)
  have hs2 := hd2.size
  have bA := ba w2 (.cells #[.slice ka s.kept.length kc, .slice la s.late.length lc, .int .i64 s.lock] 26)
  have X3 := Bx.new w2 [.slice ka s.kept.length kc, .slice la s.late.length lc, .int .i64 s.lock] 26
  have Z3 := Z2.below bA
  have B3 := belowThen B2 bA
  have O3 := O2.below bA
  have hc3 := hc2.below bA
  have hsx : w2.heap.size ≠ bk := by have := hc2.lt; omega
  clear hc1 Z1 B1 O2 hc2 Z2 B2 hd2
  go_wp2_with fail
  generalize w2.alloc (.cells #[.slice ka s.kept.length kc, .slice la s.late.length lc, .int .i64 s.lock] 26) = w3 at *
  refine (l1Once_any bk 12 (by omega) (by omega) _ hc3).mono ?_
  rintro r w3' ⟨⟨q, rfl⟩, hc3', hd3⟩
  replace X3 := X3.drawn hd3 hsx
  replace Z3 := Z3.drawn hd3 (by omega)
  replace O3 := OwS.drawn O3 hd3 hk1
  replace B3 := hd3.below B3 B3.size (by omega)
  have hsz3 := hd3.size
  replace hc3 := hc3'
  clear hd3 hc3'
  generalize w3' = w3 at *
  cases q
  · obtain ⟨k0, k1, k2⟩ : (w3.cell? ⟨w2.heap.size, 0, none⟩ = some (.slice ka s.kept.length kc)) ∧ (w3.cell? ⟨w2.heap.size, 1, none⟩ = some (.slice la s.late.length lc)) ∧ (w3.cell? ⟨w2.heap.size, 2, none⟩ = some (.int .i64 s.lock)) := ⟨X3 0 _ rfl, X3 1 _ rfl, X3 2 _ rfl⟩
    have CP := dHide (l1Below_any bk 64 (by omega) (by omega) w3.drew (hc3.below (Below.refl _ _).drew))
    go_wp2_with fail
    go_region_law (rw [if_pos (by rfl)]; go_simp; go_at_call 44; refine (dUnhide CP).mono ?_; rintro r w5 ⟨⟨v, hv, rfl⟩, hc5, hd5'⟩; have hd5 := (Drawn.refl bk w3).drew.trans hd5'; have X5 := X3.drawn hd5 hsx; have Z5 := Z3.drawn hd5 (by omega); have O5 := OwS.drawn O3 hd5 hk1; have B5 := hd5.below B3 B3.size (by omega); have y0 := X5 0 _ rfl; have y1 := X5 1 _ rfl; have y2 := X5 2 _ rfl; obtain ⟨z0, f0⟩ := Z5.2 0 _ rfl; obtain ⟨z1, f1⟩ := Z5.2 1 _ rfl; obtain ⟨z2, f2⟩ := Z5.2 2 _ rfl; go_simp)
    all_goals
      have hI : I64 (v : Int) := by
        unfold I64; omega
      obtain ⟨hx, hO⟩ := OwS.into O5 (by omega) Z5
      have HX := dHide hx
      have HO := dHide (hO.mono (base' := w.heap.size) (by omega))
      have HB := dHide (below_three (rb := w.heap.size) B5 (Nat.le_refl _) (.slice ka s.kept.length kc) (.slice la s.late.length lc) (.int .i64 s.lock))
      have HF := dHide hf
      clear hx hO O5 Z5 X5 B5 hv z0 z1 z2 f0 f1 f2 y0 y1 y2 k0 k1 k2 X3 Z3 O3 B3 hd5 hd5' hc5 CP
      generalize ((w5.setCell ⟨w.heap.size, 0, none⟩ (.slice ka s.kept.length kc)).setCell ⟨w.heap.size, 1, none⟩ (.slice la s.late.length lc)).setCell ⟨w.heap.size, 2, none⟩ (.int .i64 s.lock) = V at *
      have q0 := dUnhide HX 0 _ rfl
      have q1 := dUnhide HX 1 _ rfl
      have q2 := dUnhide HX 2 _ rfl
      go_wp2
      refine bodyPost_ret (v := .tuple #[.agg #[.slice ka s.kept.length kc, .slice la s.late.length lc, .int .i64 s.lock], .int .i64 (v : Int)]) (by simp [results, Try.results14, go_sem, q0, q1, q2]) rfl ⟨⟨_, (v : Int), hI, rfl, s, dUnhide HO, dUnhide HF, hkl, hll⟩, dUnhide HB⟩
  · have CP : Hid (Calls Try.prog 43 #[.pointer (some ⟨bk, 0, none⟩), .slice (some ⟨w3.heap.size, 0, none⟩) 4 4] (w3.alloc (.cells #[.int .i64 (-1), .int .i64 0, .int .i64 1048575, .int .i64 1048576] 3)).drew fun e w' => (∃ v, v ∈ [-1, 0, 1048575, 1048576] ∧ e = .returned (.int .i64 v)) ∧ Cur w' bk ∧ Drawn bk w3.drew w') := dHide (pick_new (w := w3.drew) (hc3.below (Below.refl _ _).drew) [-1, 0, 1048575, 1048576] 3 (by simp) (by simp) 4)
    obtain ⟨k0, k1, k2⟩ : (w3.cell? ⟨w2.heap.size, 0, none⟩ = some (.slice ka s.kept.length kc)) ∧ (w3.cell? ⟨w2.heap.size, 1, none⟩ = some (.slice la s.late.length lc)) ∧ (w3.cell? ⟨w2.heap.size, 2, none⟩ = some (.int .i64 s.lock)) := ⟨X3 0 _ rfl, X3 1 _ rfl, X3 2 _ rfl⟩
    have XA := X3.below (ba w3 (.cells #[.int .i64 (-1), .int .i64 0, .int .i64 1048575, .int .i64 1048576] 3))
    have j0 := XA 0 _ rfl
    have j1 := XA 1 _ rfl
    have j2 := XA 2 _ rfl
    clear XA
    go_wp2_with fail
    go_region_law (rw [if_pos (by rfl)]; go_simp; go_at_call 43; refine (dUnhide CP).mono ?_; rintro r w5 ⟨⟨v, hv, rfl⟩, hc5, hd5'⟩; have hd5 := (Drawn.refl bk w3).drew.trans hd5'; have X5 := X3.drawn hd5 hsx; have Z5 := Z3.drawn hd5 (by omega); have O5 := OwS.drawn O3 hd5 hk1; have B5 := hd5.below B3 B3.size (by omega); have y0 := X5 0 _ rfl; have y1 := X5 1 _ rfl; have y2 := X5 2 _ rfl; obtain ⟨z0, f0⟩ := Z5.2 0 _ rfl; obtain ⟨z1, f1⟩ := Z5.2 1 _ rfl; obtain ⟨z2, f2⟩ := Z5.2 2 _ rfl; go_simp)
    all_goals
      have hI : I64 v := by
        simp only [List.mem_cons, List.mem_nil_iff, or_false] at hv
        unfold I64; omega
      obtain ⟨hx, hO⟩ := OwS.into O5 (by omega) Z5
      have HX := dHide hx
      have HO := dHide (hO.mono (base' := w.heap.size) (by omega))
      have HB := dHide (below_three (rb := w.heap.size) B5 (Nat.le_refl _) (.slice ka s.kept.length kc) (.slice la s.late.length lc) (.int .i64 s.lock))
      have HF := dHide hf
      clear hx hO O5 Z5 X5 B5 hv z0 z1 z2 f0 f1 f2 y0 y1 y2 j0 j1 j2 k0 k1 k2 X3 Z3 O3 B3 hd5 hd5' hc5 CP
      generalize ((w5.setCell ⟨w.heap.size, 0, none⟩ (.slice ka s.kept.length kc)).setCell ⟨w.heap.size, 1, none⟩ (.slice la s.late.length lc)).setCell ⟨w.heap.size, 2, none⟩ (.int .i64 s.lock) = V at *
      have q0 := dUnhide HX 0 _ rfl
      have q1 := dUnhide HX 1 _ rfl
      have q2 := dUnhide HX 2 _ rfl
      go_wp2
      refine bodyPost_ret (v := .tuple #[.agg #[.slice ka s.kept.length kc, .slice la s.late.length lc, .int .i64 s.lock], .int .i64 v]) (by simp [results, Try.results14, go_sem, q0, q1, q2]) rfl ⟨⟨_, v, hI, rfl, s, dUnhide HO, dUnhide HF, hkl, hll⟩, dUnhide HB⟩
set_option maxHeartbeats 8000000 in
theorem drawStorePut_any (a : Option Addr) (len cap : Nat) (w : World) (hr : Row8 w a len) :
    Calls Try.prog 7 #[.slice a len cap] w fun r w' => (∃ u e, (Ent.fits e ∧ e.data.size ≤ 41) ∧ r = .returned (.tuple #[u, e.val]) ∧ Drew6 w w' u 300 30) ∧ Below w.heap.size w w' := by
  have ba : ∀ (w : World) o, Below w.heap.size w (w.alloc o) := fun w o => (Below.refl _ _).alloc (Nat.le_refl _) o
  have b0 := ba w (.cells #[.slice none 0 0, .slice none 0 0, .int .i64 0] 26)
  have b0' := ba (w.alloc (.cells #[.slice none 0 0, .slice none 0 0, .int .i64 0] 26)) (.cells #[.int .i64 0, .int .i64 0, .bool false, .string ⟨#[]⟩] 28)
  have e1 : (w.alloc (.cells #[.slice none 0 0, .slice none 0 0, .int .i64 0] 26)).heap.size = w.heap.size + 1 := by simp
  have Z0 := (BxZ.new (B := w.heap.size) w [.slice none 0 0, .slice none 0 0, .int .i64 0] 26 (Nat.le_refl _)).below b0'
  have Y0 := BxZ.new (B := w.heap.size) (w.alloc (.cells #[.slice none 0 0, .slice none 0 0, .int .i64 0] 26)) [.int .i64 0, .int .i64 0, .bool false, .string ⟨#[]⟩] 28 (by omega)
  rw [e1] at Y0
  have e2 : ((w.alloc (.cells #[.slice none 0 0, .slice none 0 0, .int .i64 0] 26)).alloc (.cells #[.int .i64 0, .int .i64 0, .bool false, .string ⟨#[]⟩] 28)).heap.size = w.heap.size + 1 + 1 := by simp
  have B0 := belowThen b0 b0'
  have hr0 := hr.below B0
  clear b0 b0' e1
  go_enter Try.func7, Try.ntmps7
  go_wp2_with fail
  generalize (w.alloc (.cells #[.slice none 0 0, .slice none 0 0, .int .i64 0] 26)).alloc (.cells #[.int .i64 0, .int .i64 0, .bool false, .string ⟨#[]⟩] 28) = w0 at *
  refine (l1New_any a len cap w0 hr0).mono ?_
  rintro e w1 ⟨bk, rfl, hbk, hc1, hb1⟩
  have hk1 := hc1.lt
  have Z1 := Z0.below hb1
  have Y1 := Y0.below hb1
  have B1 := belowThen B0 hb1
  clear hr hr0 Z0 Y0 B0 hb1
  go_wp2_with fail
  refine (l6Draw_any bk w1 hc1).mono ?_
  rintro e w2 ⟨⟨u, rfl, s, O2, hf, hkl, hll⟩, hc2, hd2⟩
  obtain ⟨ka, kc, la, lc, rfl⟩ := O2.shape
  have Z2 := Z1.drawn hd2 (by omega)
  have Y2 := Y1.drawn hd2 (by omega)
  have B2 := hd2.below B1 B1.size (by omega)
  have hs2 := hd2.size
  have bA := ba w2 (.cells #[.slice ka s.kept.length kc, .slice la s.late.length lc, .int .i64 s.lock] 26)
  have X3 := Bx.new w2 [.slice ka s.kept.length kc, .slice la s.late.length lc, .int .i64 s.lock] 26
  have Z3 := Z2.below bA
  have Y3 := Y2.below bA
  have B3 := belowThen B2 bA
  have O3 := O2.below bA
  have hc3 := hc2.below bA
  have hsx : w2.heap.size ≠ bk := by have := hc2.lt; omega
  clear hc1 Z1 Y1 B1 O2 hc2 Z2 Y2 B2 hd2
  go_wp2_with fail
  generalize w2.alloc (.cells #[.slice ka s.kept.length kc, .slice la s.late.length lc, .int .i64 s.lock] 26) = w3 at *
  have CP := dHide (l3Draw_any bk w3.drew (hc3.below (Below.refl _ _).drew))
  obtain ⟨k0, k1, k2⟩ : (w3.cell? ⟨w2.heap.size, 0, none⟩ = some (.slice ka s.kept.length kc)) ∧ (w3.cell? ⟨w2.heap.size, 1, none⟩ = some (.slice la s.late.length lc)) ∧ (w3.cell? ⟨w2.heap.size, 2, none⟩ = some (.int .i64 s.lock)) := ⟨X3 0 _ rfl, X3 1 _ rfl, X3 2 _ rfl⟩
  go_region_law (rw [if_pos (by rfl)]; go_simp; go_at_call 27; refine (dUnhide CP).mono ?_; rintro r w5 ⟨⟨⟨p0, p1, p2, p3⟩, hv, rfl⟩, hc5, hd5'⟩; have hd5 := (Drawn.refl bk w3).drew.trans hd5'; have X5 := X3.drawn hd5 hsx; have Z5 := Z3.drawn hd5 (by omega); have Y5 := Y3.drawn hd5 (by omega); have O5 := OwS.drawn O3 hd5 hk1; have B5 := hd5.below B3 B3.size (by omega); have y0 := X5 0 _ rfl; have y1 := X5 1 _ rfl; have y2 := X5 2 _ rfl; obtain ⟨z0, f0⟩ := Z5.2 0 _ rfl; obtain ⟨z1, f1⟩ := Z5.2 1 _ rfl; obtain ⟨z2, f2⟩ := Z5.2 2 _ rfl; obtain ⟨c0, d0⟩ := Y5.2 0 _ rfl; obtain ⟨c1, d1⟩ := Y5.2 1 _ rfl; obtain ⟨c2, d2⟩ := Y5.2 2 _ rfl; obtain ⟨c3, d3⟩ := Y5.2 3 _ rfl; unfold Ent.val; go_simp)
  all_goals
    have Z6 := ((Z5.put 0 (.slice ka s.kept.length kc)).put 1 (.slice la s.late.length lc)).put 2 (.int .i64 s.lock)
    have Y6 := ((Y5.far (b' := w.heap.size) (o := 0) (by omega) (.slice ka s.kept.length kc)).far (b' := w.heap.size) (o := 1) (by omega) (.slice la s.late.length lc)).far (b' := w.heap.size) (o := 2) (by omega) (.int .i64 s.lock)
    have O6 := (OwS.into O5 (by omega) Z5).2
    have B6 := below_three (rb := w.heap.size) B5 (Nat.le_refl _) (.slice ka s.kept.length kc) (.slice la s.late.length lc) (.int .i64 s.lock)
    have HF := dHide hf
    clear Z5 Y5 O5 B5 X5 z0 z1 z2 f0 f1 f2 c0 c1 c2 c3 d0 d1 d2 d3 y0 y1 y2 k0 k1 k2 X3 Z3 Y3 O3 B3 hd5 hd5' hc5 CP
    generalize ((w5.setCell ⟨w.heap.size, 0, none⟩ (.slice ka s.kept.length kc)).setCell ⟨w.heap.size, 1, none⟩ (.slice la s.late.length lc)).setCell ⟨w.heap.size, 2, none⟩ (.int .i64 s.lock) = V at *
    have Z7 := (((Z6.far (b' := w.heap.size + 1) (o := 0) (by omega) (.int .i64 p0)).far (b' := w.heap.size + 1) (o := 1) (by omega) (.int .i64 p1)).far (b' := w.heap.size + 1) (o := 2) (by omega) (.bool p2)).far (b' := w.heap.size + 1) (o := 3) (by omega) (.string p3)
    have Y7 := (((Y6.put 0 (.int .i64 p0)).put 1 (.int .i64 p1)).put 2 (.bool p2)).put 3 (.string p3)
    have O7 := (((O6.far (b := w.heap.size + 1) (o := 0) (by omega) (.int .i64 p0)).far (b := w.heap.size + 1) (o := 1) (by omega) (.int .i64 p1)).far (b := w.heap.size + 1) (o := 2) (by omega) (.bool p2)).far (b := w.heap.size + 1) (o := 3) (by omega) (.string p3)
    have B7 := (((B6.setCell (p := ⟨w.heap.size + 1, 0, none⟩) (Nat.le_succ _) (.int .i64 p0)).setCell (p := ⟨w.heap.size + 1, 1, none⟩) (Nat.le_succ _) (.int .i64 p1)).setCell (p := ⟨w.heap.size + 1, 2, none⟩) (Nat.le_succ _) (.bool p2)).setCell (p := ⟨w.heap.size + 1, 3, none⟩) (Nat.le_succ _) (.string p3)
    clear Z6 Y6 O6 B6
    generalize (((V.setCell ⟨w.heap.size + 1, 0, none⟩ (.int .i64 p0)).setCell ⟨w.heap.size + 1, 1, none⟩ (.int .i64 p1)).setCell ⟨w.heap.size + 1, 2, none⟩ (.bool p2)).setCell ⟨w.heap.size + 1, 3, none⟩ (.string p3) = V7 at *
    have q0 := Z7.bx 0 _ rfl
    have q1 := Z7.bx 1 _ rfl
    have q2 := Z7.bx 2 _ rfl
    have e0 := Y7.bx 0 _ rfl
    have e1 := Y7.bx 1 _ rfl
    have e2' := Y7.bx 2 _ rfl
    have e3 := Y7.bx 3 _ rfl
    have HO := dHide (O7.mono (base' := w.heap.size) (by omega))
    have HB := dHide B7
    have HV := dHide hv
    clear Z7 Y7 O7 B7 hv hf
    go_wp2
    refine bodyPost_ret (v := .tuple #[.agg #[.slice ka s.kept.length kc, .slice la s.late.length lc, .int .i64 s.lock], .agg #[.int .i64 p0, .int .i64 p1, .bool p2, .string p3]]) (by simp [results, Try.results7, go_sem, q0, q1, q2, e0, e1, e2', e3]) rfl ⟨⟨_, ⟨p0, p1, p2, p3⟩, dUnhide HV, rfl, s, dUnhide HO, dUnhide HF, hkl, hll⟩, dUnhide HB⟩
end Go.Proofs.Ytejmfohkobhidaa
