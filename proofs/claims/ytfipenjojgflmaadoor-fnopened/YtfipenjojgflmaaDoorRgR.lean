/- Registers drawn: DrawRegOpen (printed by tools/mkrgr.py). -/
import Derived.Test.YtfipenjojgflmaaDoorRgP
namespace Go.Proofs.YtfipenjojgflmaaDoor
open Go.ChangeShapes Go.WideShapes Go.ChangeAt Go.RowKit
set_option linter.unusedVariables false
set_option linter.unusedSimpArgs false
set_option maxRecDepth 100000

set_option maxHeartbeats 8000000 in
theorem drawRegOpen_any (a0 : Option Addr) (len cap : Nat) (w : World) (hr : Row8 w a0 len) :
    Calls Tryd.prog 6 #[.slice a0 len cap] w fun e w' => (∃ cv rv ds cop m nv zs, e = .returned (.tuple #[cv, rv, nv]) ∧ Drew7 w' cv rv ds cop m ∧ Ns w' nv zs ∧ zs.length ≤ 40 ∧ (∀ z ∈ zs, -1 ≤ z ∧ z ≤ 9)) ∧ Below w.heap.size w w' := by
  have ba : ∀ (w : World) o, Below w.heap.size w (w.alloc o) := fun w o => (Below.refl _ _).alloc (Nat.le_refl _) o
  have b1 := ba w (.cells #[.slice none 0 0, .int .i64 0] 26)
  have b2 := ba (w.alloc (.cells #[.slice none 0 0, .int .i64 0] 26)) (.cells #[.slice none 0 0, .int .i64 0] 29)
  have bb := belowThen b1 b2
  have e1 : (w.alloc (.cells #[.slice none 0 0, .int .i64 0] 26)).heap.size = w.heap.size + 1 := by simp
  have e2 : ((w.alloc (.cells #[.slice none 0 0, .int .i64 0] 26)).alloc (.cells #[.slice none 0 0, .int .i64 0] 29)).heap.size = w.heap.size + 2 := by simp
  have R0 := (BxZ.new (B := w.heap.size) w [.slice none 0 0, .int .i64 0] 26 (Nat.le_refl _)).below b2
  have S0 := BxZ.new (B := w.heap.size) (w.alloc (.cells #[.slice none 0 0, .int .i64 0] 26)) [.slice none 0 0, .int .i64 0] 29 (by rw [e1]; omega)
  rw [e1] at S0
  have hr0 := hr.below bb
  clear hr b1 b2 e1
  go_enter Tryd.func6, Tryd.ntmps6
  go_wp2_with fail
  generalize (w.alloc (.cells #[.slice none 0 0, .int .i64 0] 26)).alloc (.cells #[.slice none 0 0, .int .i64 0] 29) = w0 at *
  refine (l1New_any a0 len cap w0 hr0).mono ?_
  rintro e w1 ⟨bk, rfl, hbk, hc1, hb1⟩
  have B1 := belowThen bb hb1
  have R1 := R0.below hb1
  have S1 := S0.below hb1
  have hk1 := hc1.lt
  clear R0 S0 bb hb1 hr0
  go_wp2_with fail
  refine (l4Draw_any bk w1 hc1).mono ?_
  rintro e w2 ⟨⟨sv, ds, cop, rfl, O2, hdl, hdd, hc0, hc5⟩, hc2, hd2⟩
  obtain ⟨-, ca, cc, rfl, -, -⟩ := O2.bs
  have hblk := O2.blk
  have bA := ba w2 (.cells #[.slice ca ds.length cc, .int .i64 cop] 26)
  have X3 := Bx.new w2 [.slice ca ds.length cc, .int .i64 cop] 26
  have N3 := O2.bs.below bA
  have R3 := (R1.drawn hd2 (by omega)).below bA
  have S3 := (S1.drawn hd2 (by omega)).below bA
  have B3 := belowThen (hd2.below B1 B1.size (by omega)) bA
  have hc3 := hc2.below bA
  have hs2 := hd2.size
  have hne : ds = [] ∨ blockOf (.slice ca ds.length cc) ≠ bk := by rcases hblk with h | h; exact .inl h; exact .inr (by omega)
  have x0 := X3 0 _ rfl
  have x1 := X3 1 _ rfl
  clear O2 bA hc2 hd2 hc1 R1 S1 B1
  go_wp2_with fail
  generalize hcb : w2.heap.size = cb at *
  generalize w2.alloc (.cells #[.slice ca ds.length cc, .int .i64 cop] 26) = w3 at *
  have hcl : cb < w3.heap.size := dCell_lt x0
  refine (l7Draw_any bk ca cc ds cop w3 hc3 N3 hdl hne).mono ?_
  rintro e w4 ⟨⟨u4, m, rfl, ⟨rv, rfl, O4⟩, hf4⟩, hc4, hd4⟩
  obtain ⟨a, c, rfl⟩ : ∃ a c, rv = .slice a m.eras.length c := by
    obtain ⟨rs, h1, h2, -⟩ := O4
    obtain ⟨-, a, c, e, -⟩ := h2.rw
    exact ⟨a, c, by rw [e, ← h1, List.length_map]⟩
  have bB := ba w4 (.cells #[.slice a m.eras.length c, .int .i64 m.trim] 29)
  have Y5 := Bx.new w4 [.slice a m.eras.length c, .int .i64 m.trim] 29
  have X5 := (X3.drawn hd4 (by omega)).below bB
  have N5 := (N3.drawn hd4 hne).below bB
  have R5 := (R3.drawn hd4 (by omega)).below bB
  have S5 := (S3.drawn hd4 (by omega)).below bB
  have O5 := O4.below bB
  have B5 := belowThen (hd4.below B3 B3.size (by omega)) bB
  have hc5' := hc4.below bB
  have hs4 := hd4.size
  clear x0 x1 X3 N3 R3 S3 O4 B3 hc3 hc4 hd4 bB
  go_wp2_with fail
  generalize hrb : w4.heap.size = rb at *
  generalize w4.alloc (.cells #[.slice a m.eras.length c, .int .i64 m.trim] 29) = w5 at *
  have CO := dHide (l1Once_any bk 4 (by omega) (by omega) w5 hc5')
  go_wp2_with fail
  refine (dUnhide CO).mono ?_
  rintro e w6 ⟨⟨bo, rfl⟩, hc6, hd6⟩
  have Xa := X5.drawn hd6 (by omega)
  have Ya := Y5.drawn hd6 (by omega)
  have Ra := R5.drawn hd6 (by omega)
  have Sa := S5.drawn hd6 (by omega)
  have Na := N5.drawn hd6 hne
  have Oa := O5.drawn hd6 (by omega)
  have Ba := hd6.below B5 B5.size (by omega)
  have hs6 := hd6.size
  have hlt6 := hc6.lt
  clear X5 Y5 R5 S5 N5 O5 B5 hc5' CO hd6
  cases bo
  · skip
    have bd : Below w6.heap.size w6 w6.drew := (Below.refl _ _).drew
    have CPl := dHide (l7DrawSet_any bk _ ds cop w6.drew (hc6.below bd) (Na.below bd) hdl hne)
    have p := And.intro (Xa 0 _ rfl) (And.intro (Xa 1 _ rfl) (And.intro (Ya 0 _ rfl) (Ya 1 _ rfl)))
    have pa := And.intro (Xa.below bd 0 _ rfl) (And.intro (Xa.below bd 1 _ rfl) (And.intro (Ya.below bd 0 _ rfl) (Ya.below bd 1 _ rfl)))
    go_wp2_with fail
    go_region_held3 (fun W => W.cell? ⟨cb, 0, none⟩ = some (.slice ca ds.length cc) ∧ W.cell? ⟨cb, 1, none⟩ = some (.int .i64 cop) ∧ W.cell? ⟨rb, 0, none⟩ = some (.slice a m.eras.length c) ∧ W.cell? ⟨rb, 1, none⟩ = some (.int .i64 m.trim)) (first | with_reducible exact q | with_reducible exact pa | with_reducible exact p | exact qs1 | exact qs2 | go_keep)
      (first
        | (go_at_call 23; refine (dUnhide CPl).mono ?_; rintro r w8 ⟨⟨nv, zs, rfl, O8', hzl, hzz⟩, hc8, hd8⟩; have ON := O8'; have NVs := ON.bs; obtain ⟨-, na, nc, rfl, -, -⟩ := NVs; have X6 := (Xa.below bd).drawn hd8 (by omega); have Y6 := (Ya.below bd).drawn hd8 (by omega); have R6 := (Ra.below bd).drawn hd8 (by omega); have S6 := (Sa.below bd).drawn hd8 (by omega); have q := And.intro (X6 0 _ rfl) (And.intro (X6 1 _ rfl) (And.intro (Y6 0 _ rfl) (Y6 1 _ rfl))); obtain ⟨z0, f0⟩ := R6.2 0 _ rfl; obtain ⟨z1, f1⟩ := R6.2 1 _ rfl; have X7 := ((X6.farB (b' := w.heap.size) (o := 0) (by omega) (.slice ca ds.length cc)).farB (b' := w.heap.size) (o := 1) (by omega) (.int .i64 cop)); have Y7 := ((Y6.farB (b' := w.heap.size) (o := 0) (by omega) (.slice ca ds.length cc)).farB (b' := w.heap.size) (o := 1) (by omega) (.int .i64 cop)); have S7 := ((S6.far (b' := w.heap.size) (o := 0) (by omega) (.slice ca ds.length cc)).far (b' := w.heap.size) (o := 1) (by omega) (.int .i64 cop)); obtain ⟨y0, g0⟩ := S7.2 0 _ rfl; obtain ⟨y1, g1⟩ := S7.2 1 _ rfl; have qs1 := And.intro (X7 0 _ rfl) (And.intro (X7 1 _ rfl) (And.intro (Y7 0 _ rfl) (Y7 1 _ rfl))); have X8 := ((X7.farB (b' := (w.heap.size + 1)) (o := 0) (by omega) (.slice a m.eras.length c)).farB (b' := (w.heap.size + 1)) (o := 1) (by omega) (.int .i64 m.trim)); have Y8 := ((Y7.farB (b' := (w.heap.size + 1)) (o := 0) (by omega) (.slice a m.eras.length c)).farB (b' := (w.heap.size + 1)) (o := 1) (by omega) (.int .i64 m.trim)); have qs2 := And.intro (X8 0 _ rfl) (And.intro (X8 1 _ rfl) (And.intro (Y8 0 _ rfl) (Y8 1 _ rfl)))))
    all_goals
      have R8 := dHide ((((R6.put 0 (.slice ca ds.length cc)).put 1 (.int .i64 cop)).far (b' := (w.heap.size + 1)) (o := 0) (by omega) (.slice a m.eras.length c)).far (b' := (w.heap.size + 1)) (o := 1) (by omega) (.int .i64 m.trim))
      have S8 := dHide ((S7.put 0 (.slice a m.eras.length c)).put 1 (.int .i64 m.trim))
      have N6 := (Na.below bd).drawn hd8 hne
      have nb : ∀ b', b' ≤ w.heap.size + 1 → ds = [] ∨ blockOf (.slice ca ds.length cc) ≠ b' := fun b' hb => by rcases hblk with h | h; exact .inl h; exact .inr (by omega)
      have N8 := dHide (Ns.setFar7 (b' := w.heap.size + 1) (o := 1) (Ns.setFar7 (b' := w.heap.size + 1) (o := 0) (Ns.setFar7 (b' := w.heap.size) (o := 1) (Ns.setFar7 (b' := w.heap.size) (o := 0) N6 (nb _ (by omega)) (.slice ca ds.length cc)) (nb _ (by omega)) (.int .i64 cop)) (nb _ (by omega)) (.slice a m.eras.length c)) (nb _ (by omega)) (.int .i64 m.trim))
      have V8 := dHide ((((ON.far (b := w.heap.size) (o := 0) (by simp; omega) (.slice ca ds.length cc)).far (b := w.heap.size) (o := 1) (by simp; omega) (.int .i64 cop)).far (b := w.heap.size + 1) (o := 0) (by simp; omega) (.slice a m.eras.length c)).far (b := w.heap.size + 1) (o := 1) (by simp; omega) (.int .i64 m.trim)).bs
      have O6 := (Oa.below bd).drawn hd8 (by omega)
      have O8 := dHide ((((O6.far (b := w.heap.size) (o := 0) (by omega) (.slice ca ds.length cc)).far (b := w.heap.size) (o := 1) (by omega) (.int .i64 cop)).far (b := w.heap.size + 1) (o := 0) (by omega) (.slice a m.eras.length c)).far (b := w.heap.size + 1) (o := 1) (by omega) (.int .i64 m.trim)).rd
      have B6 := hd8.below (belowThen Ba bd) (belowThen Ba bd).size (by omega)
      have B8 := dHide ((((B6.setCell (p := ⟨w.heap.size, 0, none⟩) (by simp only; omega) (.slice ca ds.length cc)).setCell (p := ⟨w.heap.size, 1, none⟩) (by simp only; omega) (.int .i64 cop)).setCell (p := ⟨w.heap.size + 1, 0, none⟩) (by simp only; omega) (.slice a m.eras.length c)).setCell (p := ⟨w.heap.size + 1, 1, none⟩) (by simp only; omega) (.int .i64 m.trim))
      clear X6 Y6 X7 Y7 X8 Y8 R6 S6 S7 q qs1 qs2 z0 z1 f0 f1 y0 y1 g0 g1 N6 O6 B6 p pa CPl ON O8'
      go_wp2_with fail
      generalize (((w8.setCell ⟨w.heap.size, 0, none⟩ (.slice ca ds.length cc)).setCell ⟨w.heap.size, 1, none⟩ (.int .i64 cop)).setCell ⟨w.heap.size + 1, 0, none⟩ (.slice a m.eras.length c)).setCell ⟨w.heap.size + 1, 1, none⟩ (.int .i64 m.trim) = V at *
      have q0 := ((dUnhide R8).2 0 _ rfl).1
      have q1 := ((dUnhide R8).2 1 _ rfl).1
      have r0 := ((dUnhide S8).2 0 _ rfl).1
      have r1 := ((dUnhide S8).2 1 _ rfl).1
      refine bodyPost_ret (v := .tuple #[.agg #[.slice ca ds.length cc, .int .i64 cop], .agg #[.slice a m.eras.length c, .int .i64 m.trim], .slice na zs.length nc]) (by simp [results, Tryd.results6, go_sem, q0, q1, r0, r1]) rfl ⟨⟨_, _, ds, cop, m, _, zs, rfl, ⟨⟨ca, cc, rfl, dUnhide N8⟩, hdl, hdd, ⟨hc0, hc5⟩, ⟨a, c, rfl⟩, ⟨_, rfl, dUnhide O8⟩, hf4⟩, dUnhide V8, by omega, hzz⟩, dUnhide B8⟩
  · skip
    have bd : Below w6.heap.size w6 w6.drew := (Below.refl _ _).drew
    have CPl := dHide (l4DrawNodes_any bk _ ds cop w6.drew (hc6.below bd) (Na.below bd) hdl)
    have p := And.intro (Xa 0 _ rfl) (And.intro (Xa 1 _ rfl) (And.intro (Ya 0 _ rfl) (Ya 1 _ rfl)))
    have pa := And.intro (Xa.below bd 0 _ rfl) (And.intro (Xa.below bd 1 _ rfl) (And.intro (Ya.below bd 0 _ rfl) (Ya.below bd 1 _ rfl)))
    go_wp2_with fail
    go_region_held3 (fun W => W.cell? ⟨cb, 0, none⟩ = some (.slice ca ds.length cc) ∧ W.cell? ⟨cb, 1, none⟩ = some (.int .i64 cop) ∧ W.cell? ⟨rb, 0, none⟩ = some (.slice a m.eras.length c) ∧ W.cell? ⟨rb, 1, none⟩ = some (.int .i64 m.trim)) (first | with_reducible exact q | with_reducible exact pa | with_reducible exact p | exact qs1 | exact qs2 | go_keep)
      (first
        | (go_at_call 22; refine (dUnhide CPl).mono ?_; rintro r w8 ⟨⟨nv, zs, rfl, O8', hzl, hzz⟩, hc8, hd8⟩; have ON := ownN_of_row O8'; have NVs := ON.bs; obtain ⟨-, na, nc, rfl, -, -⟩ := NVs; have X6 := (Xa.below bd).drawn hd8 (by omega); have Y6 := (Ya.below bd).drawn hd8 (by omega); have R6 := (Ra.below bd).drawn hd8 (by omega); have S6 := (Sa.below bd).drawn hd8 (by omega); have q := And.intro (X6 0 _ rfl) (And.intro (X6 1 _ rfl) (And.intro (Y6 0 _ rfl) (Y6 1 _ rfl))); obtain ⟨z0, f0⟩ := R6.2 0 _ rfl; obtain ⟨z1, f1⟩ := R6.2 1 _ rfl; have X7 := ((X6.farB (b' := w.heap.size) (o := 0) (by omega) (.slice ca ds.length cc)).farB (b' := w.heap.size) (o := 1) (by omega) (.int .i64 cop)); have Y7 := ((Y6.farB (b' := w.heap.size) (o := 0) (by omega) (.slice ca ds.length cc)).farB (b' := w.heap.size) (o := 1) (by omega) (.int .i64 cop)); have S7 := ((S6.far (b' := w.heap.size) (o := 0) (by omega) (.slice ca ds.length cc)).far (b' := w.heap.size) (o := 1) (by omega) (.int .i64 cop)); obtain ⟨y0, g0⟩ := S7.2 0 _ rfl; obtain ⟨y1, g1⟩ := S7.2 1 _ rfl; have qs1 := And.intro (X7 0 _ rfl) (And.intro (X7 1 _ rfl) (And.intro (Y7 0 _ rfl) (Y7 1 _ rfl))); have X8 := ((X7.farB (b' := (w.heap.size + 1)) (o := 0) (by omega) (.slice a m.eras.length c)).farB (b' := (w.heap.size + 1)) (o := 1) (by omega) (.int .i64 m.trim)); have Y8 := ((Y7.farB (b' := (w.heap.size + 1)) (o := 0) (by omega) (.slice a m.eras.length c)).farB (b' := (w.heap.size + 1)) (o := 1) (by omega) (.int .i64 m.trim)); have qs2 := And.intro (X8 0 _ rfl) (And.intro (X8 1 _ rfl) (And.intro (Y8 0 _ rfl) (Y8 1 _ rfl)))))
    all_goals
      have R8 := dHide ((((R6.put 0 (.slice ca ds.length cc)).put 1 (.int .i64 cop)).far (b' := (w.heap.size + 1)) (o := 0) (by omega) (.slice a m.eras.length c)).far (b' := (w.heap.size + 1)) (o := 1) (by omega) (.int .i64 m.trim))
      have S8 := dHide ((S7.put 0 (.slice a m.eras.length c)).put 1 (.int .i64 m.trim))
      have N6 := (Na.below bd).drawn hd8 hne
      have nb : ∀ b', b' ≤ w.heap.size + 1 → ds = [] ∨ blockOf (.slice ca ds.length cc) ≠ b' := fun b' hb => by rcases hblk with h | h; exact .inl h; exact .inr (by omega)
      have N8 := dHide (Ns.setFar7 (b' := w.heap.size + 1) (o := 1) (Ns.setFar7 (b' := w.heap.size + 1) (o := 0) (Ns.setFar7 (b' := w.heap.size) (o := 1) (Ns.setFar7 (b' := w.heap.size) (o := 0) N6 (nb _ (by omega)) (.slice ca ds.length cc)) (nb _ (by omega)) (.int .i64 cop)) (nb _ (by omega)) (.slice a m.eras.length c)) (nb _ (by omega)) (.int .i64 m.trim))
      have V8 := dHide ((((ON.far (b := w.heap.size) (o := 0) (by simp; omega) (.slice ca ds.length cc)).far (b := w.heap.size) (o := 1) (by simp; omega) (.int .i64 cop)).far (b := w.heap.size + 1) (o := 0) (by simp; omega) (.slice a m.eras.length c)).far (b := w.heap.size + 1) (o := 1) (by simp; omega) (.int .i64 m.trim)).bs
      have O6 := (Oa.below bd).drawn hd8 (by omega)
      have O8 := dHide ((((O6.far (b := w.heap.size) (o := 0) (by omega) (.slice ca ds.length cc)).far (b := w.heap.size) (o := 1) (by omega) (.int .i64 cop)).far (b := w.heap.size + 1) (o := 0) (by omega) (.slice a m.eras.length c)).far (b := w.heap.size + 1) (o := 1) (by omega) (.int .i64 m.trim)).rd
      have B6 := hd8.below (belowThen Ba bd) (belowThen Ba bd).size (by omega)
      have B8 := dHide ((((B6.setCell (p := ⟨w.heap.size, 0, none⟩) (by simp only; omega) (.slice ca ds.length cc)).setCell (p := ⟨w.heap.size, 1, none⟩) (by simp only; omega) (.int .i64 cop)).setCell (p := ⟨w.heap.size + 1, 0, none⟩) (by simp only; omega) (.slice a m.eras.length c)).setCell (p := ⟨w.heap.size + 1, 1, none⟩) (by simp only; omega) (.int .i64 m.trim))
      clear X6 Y6 X7 Y7 X8 Y8 R6 S6 S7 q qs1 qs2 z0 z1 f0 f1 y0 y1 g0 g1 N6 O6 B6 p pa CPl ON O8'
      go_wp2_with fail
      generalize (((w8.setCell ⟨w.heap.size, 0, none⟩ (.slice ca ds.length cc)).setCell ⟨w.heap.size, 1, none⟩ (.int .i64 cop)).setCell ⟨w.heap.size + 1, 0, none⟩ (.slice a m.eras.length c)).setCell ⟨w.heap.size + 1, 1, none⟩ (.int .i64 m.trim) = V at *
      have q0 := ((dUnhide R8).2 0 _ rfl).1
      have q1 := ((dUnhide R8).2 1 _ rfl).1
      have r0 := ((dUnhide S8).2 0 _ rfl).1
      have r1 := ((dUnhide S8).2 1 _ rfl).1
      refine bodyPost_ret (v := .tuple #[.agg #[.slice ca ds.length cc, .int .i64 cop], .agg #[.slice a m.eras.length c, .int .i64 m.trim], .slice na zs.length nc]) (by simp [results, Tryd.results6, go_sem, q0, q1, r0, r1]) rfl ⟨⟨_, _, ds, cop, m, _, zs, rfl, ⟨⟨ca, cc, rfl, dUnhide N8⟩, hdl, hdd, ⟨hc0, hc5⟩, ⟨a, c, rfl⟩, ⟨_, rfl, dUnhide O8⟩, hf4⟩, dUnhide V8, by omega, hzz⟩, dUnhide B8⟩
end Go.Proofs.YtfipenjojgflmaaDoor
