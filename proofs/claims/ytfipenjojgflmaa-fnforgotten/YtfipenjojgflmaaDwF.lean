/- Writers drawn: DrawWriterForget. -/
import Derived.Test.YtfipenjojgflmaaDwE
import Derived.Deep.RegionHeld3
namespace Go.Proofs.Ytfipenjojgflmaa
open Go.ChangeShapes Go.WideShapes Go.ChangeAt Go.RowKit
set_option linter.unusedVariables false
set_option linter.unusedSimpArgs false
set_option maxRecDepth 100000

/-- A configuration and a writer that were drawn. -/
def Drew8 (W : World) (cv rv : Value) (ds : List Int) (cop : Int) (m : Wt) : Prop := (∃ ca cc, cv = .agg #[.slice ca ds.length cc, .int .i64 cop] ∧ Ns W (.slice ca ds.length cc) ds) ∧ ds.length ≤ 9 ∧ (∀ d ∈ ds, -1 ≤ d ∧ d ≤ 8) ∧ (0 ≤ cop ∧ cop ≤ 5) ∧ (∃ a c, rv = .agg #[.int .i64 m.epoch, .slice a m.words.length c]) ∧ RdWriter rv m W ∧ fitW 60 m
theorem Drew8.below {W W' : World} {cv rv : Value} {ds : List Int} {cop : Int} {m : Wt} (h : Drew8 W cv rv ds cop m) (hb : Below W.heap.size W W') : Drew8 W' cv rv ds cop m := by
  obtain ⟨⟨ca, cc, h1, h2⟩, h3, h4, h5, h6, h7, h8⟩ := h
  exact ⟨⟨ca, cc, h1, h2.below hb⟩, h3, h4, h5, h6, h7.below hb, h8⟩
set_option maxHeartbeats 8000000 in
theorem drawWriterForget_any (a0 : Option Addr) (len cap : Nat) (w : World) (hr : Row8 w a0 len) :
    Calls Try.prog 24 #[.slice a0 len cap] w fun e w' => (∃ cv rv ds cop m p, e = .returned (.tuple #[cv, rv, .int .i64 p]) ∧ Drew8 w' cv rv ds cop m ∧ okInt p) ∧ Below w.heap.size w w' := by
  have ba : ∀ (w : World) o, Below w.heap.size w (w.alloc o) := fun w o => (Below.refl _ _).alloc (Nat.le_refl _) o
  have b1 := ba w (.cells #[.slice none 0 0, .int .i64 0] 26)
  have b2 := ba (w.alloc (.cells #[.slice none 0 0, .int .i64 0] 26)) (.cells #[.int .i64 0, .slice none 0 0] 29)
  have bb := belowThen b1 b2
  have e1 : (w.alloc (.cells #[.slice none 0 0, .int .i64 0] 26)).heap.size = w.heap.size + 1 := by simp
  have e2 : ((w.alloc (.cells #[.slice none 0 0, .int .i64 0] 26)).alloc (.cells #[.int .i64 0, .slice none 0 0] 29)).heap.size = w.heap.size + 2 := by simp
  have R0 := (BxZ.new (B := w.heap.size) w [.slice none 0 0, .int .i64 0] 26 (Nat.le_refl _)).below b2
  have S0 := BxZ.new (B := w.heap.size) (w.alloc (.cells #[.slice none 0 0, .int .i64 0] 26)) [.int .i64 0, .slice none 0 0] 29 (by rw [e1]; omega)
  rw [e1] at S0
  have hr0 := hr.below bb
  clear hr b1 b2 e1
  go_enter Try.func24, Try.ntmps24
  go_wp2_with fail
  generalize (w.alloc (.cells #[.slice none 0 0, .int .i64 0] 26)).alloc (.cells #[.int .i64 0, .slice none 0 0] 29) = w0 at *
  refine (l1New_any a0 len cap w0 hr0).mono ?_
  rintro e w1 ⟨bk, rfl, hbk, hc1, hb1⟩
  have B1 := belowThen bb hb1
  have R1 := R0.below hb1
  have S1 := S0.below hb1
  have hk1 := hc1.lt
  clear R0 S0 bb hb1 hr0
  go_wp2_with fail
  refine (l4Draw_any bk w1 hc1).mono ?_
  rintro e w2 ⟨⟨sv, ds, cop, rfl, O2, hdl, hdd, hc0, hc5⟩, hc2, hd2⟩
  obtain ⟨-, ca, cc, rfl, -, -⟩ := O2.bs
  have hblk := O2.blk
  have bA := ba w2 (.cells #[.slice ca ds.length cc, .int .i64 cop] 26)
  have X3 := Bx.new w2 [.slice ca ds.length cc, .int .i64 cop] 26
  have N3 := O2.bs.below bA
  have R3 := (R1.drawn hd2 (by omega)).below bA
  have S3 := (S1.drawn hd2 (by omega)).below bA
  have B3 := belowThen (hd2.below B1 B1.size (by omega)) bA
  have hc3 := hc2.below bA
  have hs2 := hd2.size
  have hne : ds = [] ∨ blockOf (.slice ca ds.length cc) ≠ bk := by rcases hblk with h | h; exact .inl h; exact .inr (by omega)
  have x0 := X3 0 _ rfl
  have x1 := X3 1 _ rfl
  clear O2 bA hc2 hd2 hc1 R1 S1 B1
  go_wp2_with fail
  generalize hcb : w2.heap.size = cb at *
  generalize w2.alloc (.cells #[.slice ca ds.length cc, .int .i64 cop] 26) = w3 at *
  have hcl : cb < w3.heap.size := dCell_lt x0
  refine (l8Draw_any bk ca cc ds cop w3 hc3 N3 hdl hne).mono ?_
  rintro e w4 ⟨⟨rv, m, rfl, O4, hf4⟩, hc4, hd4⟩
  obtain ⟨a, c, rfl⟩ := O4.shape
  have bB := ba w4 (.cells #[.int .i64 m.epoch, .slice a m.words.length c] 29)
  have Y5 := Bx.new w4 [.int .i64 m.epoch, .slice a m.words.length c] 29
  have X5 := (X3.drawn hd4 (by omega)).below bB
  have N5 := (N3.drawn hd4 hne).below bB
  have R5 := (R3.drawn hd4 (by omega)).below bB
  have S5 := (S3.drawn hd4 (by omega)).below bB
  have O5 := O4.below bB
  have B5 := belowThen (hd4.below B3 B3.size (by omega)) bB
  have hc5' := hc4.below bB
  have hs4 := hd4.size
  clear x0 x1 X3 N3 R3 S3 O4 B3 hc3 hc4 hd4 bB
  go_wp2_with fail
  generalize hrb : w4.heap.size = rb at *
  generalize w4.alloc (.cells #[.int .i64 m.epoch, .slice a m.words.length c] 29) = w5 at *
  have bd : Below w5.heap.size w5 w5.drew := (Below.refl _ _).drew
  have hwl : IntKind.i64.wrap ((ds.length : Int) + 1) = (ds.length : Int) + 1 := by rw [IntKind.wrap_i64]; omega
  have CPl := l1Below_any bk (ds.length + 1) (by omega) (by omega) w5.drew (hc5'.below bd)
  rw [show ((ds.length + 1 : Nat) : Int) = (ds.length : Int) + 1 by omega] at CPl
  replace CPl := dHide CPl
  have p := And.intro (X5 0 _ rfl) (And.intro (X5 1 _ rfl) (And.intro (Y5 0 _ rfl) (Y5 1 _ rfl)))
  have pd := And.intro (X5.below bd 0 _ rfl) (And.intro (X5.below bd 1 _ rfl) (And.intro (Y5.below bd 0 _ rfl) (Y5.below bd 1 _ rfl)))
  go_region_held3 (fun W => W.cell? ⟨cb, 0, none⟩ = some (.slice ca ds.length cc) ∧ W.cell? ⟨cb, 1, none⟩ = some (.int .i64 cop) ∧ W.cell? ⟨rb, 0, none⟩ = some (.int .i64 m.epoch) ∧ W.cell? ⟨rb, 1, none⟩ = some (.slice a m.words.length c)) (first | with_reducible exact q | with_reducible exact pd | with_reducible exact p | exact qs1 | exact qs2 | go_keep)
    (first
      | (go_at_call 44; refine (dUnhide CPl).mono ?_; rintro r w6 ⟨⟨pl, hpl, rfl⟩, hc6, hd6⟩; have X6 := (X5.below bd).drawn hd6 (by omega); have Y6 := (Y5.below bd).drawn hd6 (by omega); have R6 := (R5.below bd).drawn hd6 (by omega); have S6 := (S5.below bd).drawn hd6 (by omega); have q := And.intro (X6 0 _ rfl) (And.intro (X6 1 _ rfl) (And.intro (Y6 0 _ rfl) (Y6 1 _ rfl))); obtain ⟨z0, f0⟩ := R6.2 0 _ rfl; obtain ⟨z1, f1⟩ := R6.2 1 _ rfl; have X7 := ((X6.farB (b' := w.heap.size) (o := 0) (by omega) (.slice ca ds.length cc)).farB (b' := w.heap.size) (o := 1) (by omega) (.int .i64 cop)); have Y7 := ((Y6.farB (b' := w.heap.size) (o := 0) (by omega) (.slice ca ds.length cc)).farB (b' := w.heap.size) (o := 1) (by omega) (.int .i64 cop)); have S7 := ((S6.far (b' := w.heap.size) (o := 0) (by omega) (.slice ca ds.length cc)).far (b' := w.heap.size) (o := 1) (by omega) (.int .i64 cop)); obtain ⟨y0, g0⟩ := S7.2 0 _ rfl; obtain ⟨y1, g1⟩ := S7.2 1 _ rfl; have qs1 := And.intro (X7 0 _ rfl) (And.intro (X7 1 _ rfl) (And.intro (Y7 0 _ rfl) (Y7 1 _ rfl))); have X8 := ((X7.farB (b' := (w.heap.size + 1)) (o := 0) (by omega) (.int .i64 m.epoch)).farB (b' := (w.heap.size + 1)) (o := 1) (by omega) (.slice a m.words.length c)); have Y8 := ((Y7.farB (b' := (w.heap.size + 1)) (o := 0) (by omega) (.int .i64 m.epoch)).farB (b' := (w.heap.size + 1)) (o := 1) (by omega) (.slice a m.words.length c)); have qs2 := And.intro (X8 0 _ rfl) (And.intro (X8 1 _ rfl) (And.intro (Y8 0 _ rfl) (Y8 1 _ rfl)))))
  all_goals
    have hd6' := (Drawn.of_below (bk := bk) bd).trans hd6
    have R8 := dHide ((((R6.put 0 (.slice ca ds.length cc)).put 1 (.int .i64 cop)).far (b' := (w.heap.size + 1)) (o := 0) (by omega) (.int .i64 m.epoch)).far (b' := (w.heap.size + 1)) (o := 1) (by omega) (.slice a m.words.length c))
    have S8 := dHide ((S7.put 0 (.int .i64 m.epoch)).put 1 (.slice a m.words.length c))
    have N6 := N5.drawn hd6' hne
    have nb : ∀ b', b' ≤ w.heap.size + 1 → ds = [] ∨ blockOf (.slice ca ds.length cc) ≠ b' := fun b' hb => by rcases hblk with h | h; exact .inl h; exact .inr (by omega)
    have N8 := dHide (Ns.setFar8 (b' := w.heap.size + 1) (o := 1) (Ns.setFar8 (b' := w.heap.size + 1) (o := 0) (Ns.setFar8 (b' := w.heap.size) (o := 1) (Ns.setFar8 (b' := w.heap.size) (o := 0) N6 (nb _ (by omega)) (.slice ca ds.length cc)) (nb _ (by omega)) (.int .i64 cop)) (nb _ (by omega)) (.int .i64 m.epoch)) (nb _ (by omega)) (.slice a m.words.length c))
    have O6 := O5.drawn hd6' (by omega)
    have O8 := dHide ((((O6.far (b := w.heap.size) (o := 0) (by omega) (.slice ca ds.length cc)).far (b := w.heap.size) (o := 1) (by omega) (.int .i64 cop)).far (b := w.heap.size + 1) (o := 0) (by omega) (.int .i64 m.epoch)).far (b := w.heap.size + 1) (o := 1) (by omega) (.slice a m.words.length c)).rd
    have B6 := hd6'.below B5 B5.size (by omega)
    have B8 := dHide ((((B6.setCell (p := ⟨w.heap.size, 0, none⟩) (by simp only; omega) (.slice ca ds.length cc)).setCell (p := ⟨w.heap.size, 1, none⟩) (by simp only; omega) (.int .i64 cop)).setCell (p := ⟨w.heap.size + 1, 0, none⟩) (by simp only; omega) (.int .i64 m.epoch)).setCell (p := ⟨w.heap.size + 1, 1, none⟩) (by simp only; omega) (.slice a m.words.length c))
    clear X6 Y6 X7 Y7 X8 Y8 R6 S6 S7 q qs1 qs2 z0 z1 f0 f1 y0 y1 g0 g1 N6 O6 B6 p pd CPl
    go_wp2_with fail
    generalize (((w6.setCell ⟨w.heap.size, 0, none⟩ (.slice ca ds.length cc)).setCell ⟨w.heap.size, 1, none⟩ (.int .i64 cop)).setCell ⟨w.heap.size + 1, 0, none⟩ (.int .i64 m.epoch)).setCell ⟨w.heap.size + 1, 1, none⟩ (.slice a m.words.length c) = V at *
    have q0 := ((dUnhide R8).2 0 _ rfl).1
    have q1 := ((dUnhide R8).2 1 _ rfl).1
    have r0 := ((dUnhide S8).2 0 _ rfl).1
    have r1 := ((dUnhide S8).2 1 _ rfl).1
    refine bodyPost_ret (v := .tuple #[.agg #[.slice ca ds.length cc, .int .i64 cop], .agg #[.int .i64 m.epoch, .slice a m.words.length c], .int .i64 (pl : Int)]) (by simp [results, Try.results24, go_sem, q0, q1, r0, r1]) rfl ⟨⟨_, _, ds, cop, m, (pl : Int), rfl, ⟨⟨ca, cc, rfl, dUnhide N8⟩, hdl, hdd, ⟨hc0, hc5⟩, ⟨a, c, rfl⟩, ⟨_, rfl, dUnhide O8⟩, hf4⟩, ⟨by omega, by omega⟩⟩, dUnhide B8⟩
end Go.Proofs.Ytfipenjojgflmaa
