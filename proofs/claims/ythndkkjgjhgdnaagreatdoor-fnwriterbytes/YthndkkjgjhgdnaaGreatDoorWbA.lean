/- Writers drawn: DrawWriterOk, DrawWriterPack, DrawWriterRead (printed by tools/mkgba.py). -/
import Derived.Test.YthndkkjgjhgdnaaGreatDoorSpA
import Derived.Test.YthndkkjgjhgdnaaGreatDoorDwD
import Derived.Test.YthndkkjgjhgdnaaGreatDoorDwB
import Derived.Test.YthndkkjgjhgdnaaGreatDoorGk73
import Derived.Deep.RegionHeld3
namespace Go.Proofs.YthndkkjgjhgdnaaGreatDoor
open Go.ChangeShapes Go.WideShapes Go.ChangeAt Go.RowKit
set_option linter.unusedVariables false
set_option linter.unusedSimpArgs false
set_option maxRecDepth 100000

theorem fitW_siz {n : Nat} {m : Wt} (h : fitW n m) (hn : n ≤ 60 := by omega) : sizWriter m ≤ 100000 := by
  obtain ⟨h1, h2⟩ := sumW_fit h.2.1
  have h3 := h.1
  have h4 : n * m.words.length ≤ 60 * 60 := Nat.mul_le_mul hn (by omega)
  unfold sizWriter sizWordS
  omega
theorem wtM_len {ds : List Int} {cop : Int} {m : Wt} (h : fitW 14 m) : (wtM ds cop m).1.length ≤ 100000 := by
  by_cases hp : wrP ds cop m
  · rw [wtM_yes hp]
    have h1 := wdsB_len m.words
    obtain ⟨h2, h2'⟩ := sumW_fit h.2.1
    have h3 := h.1
    have h4 := numB_len m.epoch.toNat
    have h5 := numB_len m.words.length
    have h6 : 14 * m.words.length ≤ 14 * 14 := Nat.mul_le_mul (Nat.le_refl _) h3
    simp only [wtB, List.length_append]
    omega
  · rw [wtM_no hp]; simp
/-- A configuration and a record that were drawn. -/
def DrewWb (W : World) (cv rv : Value) : Prop := ∃ (ds : List Int) (cop : Int) (m : Wt), (∃ ca cc, cv = .agg #[.slice ca ds.length cc, .int .i64 cop] ∧ Ns W (.slice ca ds.length cc) ds) ∧ ds.length ≤ 9 ∧ (∀ d ∈ ds, -1 ≤ d ∧ d ≤ 8) ∧ (0 ≤ cop ∧ cop ≤ 5) ∧ (∃ a c, rv = .agg #[.int .i64 m.epoch, .slice a m.words.length c]) ∧ RdWriter rv m W ∧ fitW 60 m
/-- The same, and nothing of them lies ahead of a block. -/
def DrewWbO (L : Nat) (W : World) (cv rv : Value) : Prop := ∃ (ds : List Int) (cop : Int) (m : Wt), (∃ ca cc, cv = .agg #[.slice ca ds.length cc, .int .i64 cop] ∧ Ns W (.slice ca ds.length cc) ds ∧ (ds = [] ∨ L ≤ blockOf (.slice ca ds.length cc))) ∧ ds.length ≤ 9 ∧ (∀ d ∈ ds, -1 ≤ d ∧ d ≤ 8) ∧ (0 ≤ cop ∧ cop ≤ 5) ∧ (∃ a c, rv = .agg #[.int .i64 m.epoch, .slice a m.words.length c] ∧ RdW L (.slice a m.words.length c) m.words W) ∧ fitW 60 m
theorem DrewWbO.rd {L : Nat} {W : World} {cv rv : Value} (h : DrewWbO L W cv rv) : DrewWb W cv rv := by
  obtain ⟨ds, cop, m, ⟨ca, cc, rfl, N, -⟩, h1, h2, h3, ⟨a, c, rfl, O⟩, h4⟩ := h
  exact ⟨ds, cop, m, ⟨ca, cc, rfl, N⟩, h1, h2, h3, ⟨a, c, rfl⟩, ⟨_, rfl, O.rd⟩, h4⟩
/-- A configuration and bytes that were drawn. -/
def DrewWbB (W : World) (cv v : Value) : Prop := ∃ (ds : List Int) (cop : Int) (bs : List UInt8), (∃ ca cc, cv = .agg #[.slice ca ds.length cc, .int .i64 cop] ∧ Ns W (.slice ca ds.length cc) ds) ∧ ds.length ≤ 9 ∧ (∀ d ∈ ds, -1 ≤ d ∧ d ≤ 8) ∧ (0 ≤ cop ∧ cop ≤ 5) ∧ Bs W v bs ∧ bs.length ≤ 1000000
set_option maxHeartbeats 8000000 in
theorem drawWriterOk_own (a0 : Option Addr) (len cap : Nat) (w : World) (hr : Row8 w a0 len) :
    Calls Tryz.prog 34 #[.slice a0 len cap] w fun e w' => (∃ cv rv, e = .returned (.tuple #[cv, rv]) ∧ DrewWbO w.heap.size w' cv rv) ∧ Below w.heap.size w w' := by
  have ba : ∀ (w : World) o, Below w.heap.size w (w.alloc o) := fun w o => (Below.refl _ _).alloc (Nat.le_refl _) o
  have b1 := ba w (.cells #[.slice none 0 0, .int .i64 0] 26)
  have b2 := ba (w.alloc (.cells #[.slice none 0 0, .int .i64 0] 26)) (.cells #[.int .i64 0, .slice none 0 0] 40)
  have bb := belowThen b1 b2
  have e1 : (w.alloc (.cells #[.slice none 0 0, .int .i64 0] 26)).heap.size = w.heap.size + 1 := by simp
  have e2 : ((w.alloc (.cells #[.slice none 0 0, .int .i64 0] 26)).alloc (.cells #[.int .i64 0, .slice none 0 0] 40)).heap.size = w.heap.size + 2 := by simp
  have R0 := (BxZ.new (B := w.heap.size) w [.slice none 0 0, .int .i64 0] 26 (Nat.le_refl _)).below b2
  have S0 := BxZ.new (B := w.heap.size) (w.alloc (.cells #[.slice none 0 0, .int .i64 0] 26)) [.int .i64 0, .slice none 0 0] 40 (by rw [e1]; omega)
  rw [e1] at S0
  have hr0 := hr.below bb
  clear hr b1 b2 e1
  go_enter Tryz.func34, Tryz.ntmps34
  go_wp2_with fail
  generalize (w.alloc (.cells #[.slice none 0 0, .int .i64 0] 26)).alloc (.cells #[.int .i64 0, .slice none 0 0] 40) = w0 at *
  refine (l1New_any a0 len cap w0 hr0).mono ?_
  rintro e w1 ⟨bk, rfl, hbk, hc1, hb1⟩
  have B1 := belowThen bb hb1
  have R1 := R0.below hb1
  have S1 := S0.below hb1
  have hk1 := hc1.lt
  clear R0 S0 bb hb1 hr0
  go_wp2_with fail
  refine (l4Draw_any bk w1 hc1).mono ?_
  rintro e w2 ⟨⟨sv, ds, cop, rfl, O2, hdl, hdd, hc0, hc5⟩, hc2, hd2⟩
  obtain ⟨-, ca, cc, rfl, -, -⟩ := O2.bs
  have hblk := O2.blk
  have bA := ba w2 (.cells #[.slice ca ds.length cc, .int .i64 cop] 26)
  have X3 := Bx.new w2 [.slice ca ds.length cc, .int .i64 cop] 26
  have N3 := O2.bs.below bA
  have R3 := (R1.drawn hd2 (by omega)).below bA
  have S3 := (S1.drawn hd2 (by omega)).below bA
  have B3 := belowThen (hd2.below B1 B1.size (by omega)) bA
  have hc3 := hc2.below bA
  have hs2 := hd2.size
  have hne : ds = [] ∨ blockOf (.slice ca ds.length cc) ≠ bk := by rcases hblk with h | h; exact .inl h; exact .inr (by omega)
  have x0 := X3 0 _ rfl
  have x1 := X3 1 _ rfl
  clear O2 bA hc2 hd2 hc1 R1 S1 B1
  go_wp2_with fail
  generalize hcb : w2.heap.size = cb at *
  generalize w2.alloc (.cells #[.slice ca ds.length cc, .int .i64 cop] 26) = w3 at *
  have hcl : cb < w3.heap.size := dCell_lt x0
  have bd : Below w3.heap.size w3 w3.drew := (Below.refl _ _).drew
  have CD := dHide (l8Draw_any bk ca cc ds cop w3.drew (hc3.below bd) (N3.below bd) hdl hne)
  have p := And.intro (X3 0 _ rfl) (X3 1 _ rfl)
  have pd := And.intro (X3.below bd 0 _ rfl) (X3.below bd 1 _ rfl)
  clear x0 x1
  go_region_held3 (fun W => W.cell? ⟨cb, 0, none⟩ = some (.slice ca ds.length cc) ∧ W.cell? ⟨cb, 1, none⟩ = some (.int .i64 cop)) (first | with_reducible exact q | with_reducible exact pd | with_reducible exact p | exact qs1 | exact qs2 | go_keep)
    (first
      | (go_at_call 66; refine (dUnhide CD).mono ?_; rintro r w6 ⟨⟨rv, m, rfl, O6, hf6⟩, hc6, hd6⟩; have O6 : RdW w3.heap.size _ _ _ := O6; obtain ⟨a, c, rfl⟩ : ∃ a c, rv = .slice a m.words.length c := (by obtain ⟨rs, h1, h2, -⟩ := O6; obtain ⟨-, a, c, e, -⟩ := h2.rw; exact ⟨a, c, by rw [e, ← h1, List.length_map]⟩); have X6 := (X3.below bd).drawn hd6 (by omega); have R6 := (R3.below bd).drawn hd6 (by omega); have S6 := (S3.below bd).drawn hd6 (by omega); have q := And.intro (X6 0 _ rfl) (X6 1 _ rfl); obtain ⟨z0, f0⟩ := R6.2 0 _ rfl; obtain ⟨z1, f1⟩ := R6.2 1 _ rfl; have X7 := ((X6.farB (b' := w.heap.size) (o := 0) (by omega) (.slice ca ds.length cc)).farB (b' := w.heap.size) (o := 1) (by omega) (.int .i64 cop)); have S7 := ((S6.far (b' := w.heap.size) (o := 0) (by omega) (.slice ca ds.length cc)).far (b' := w.heap.size) (o := 1) (by omega) (.int .i64 cop)); obtain ⟨y0, g0⟩ := S7.2 0 _ rfl; obtain ⟨y1, g1⟩ := S7.2 1 _ rfl; have qs1 := And.intro (X7 0 _ rfl) (X7 1 _ rfl); have X8 := ((X7.farB (b' := (w.heap.size + 1)) (o := 0) (by omega) (.int .i64 m.epoch)).farB (b' := (w.heap.size + 1)) (o := 1) (by omega) (.slice a m.words.length c)); have qs2 := And.intro (X8 0 _ rfl) (X8 1 _ rfl))
      | fail)
  all_goals
    have hd6' := (Drawn.of_below (bk := bk) bd).trans hd6
    have R8 := dHide (((((R6.put 0 (.slice ca ds.length cc)).put 1 (.int .i64 cop)).far (b' := (w.heap.size + 1)) (o := 0) (by omega) (.int .i64 m.epoch)).far (b' := (w.heap.size + 1)) (o := 1) (by omega) (.slice a m.words.length c)))
    have S8 := dHide ((S7.put 0 (.int .i64 m.epoch)).put 1 (.slice a m.words.length c))
    have N6 := N3.drawn hd6' hne
    have nb : ∀ b', b' ≤ w.heap.size + 1 → ds = [] ∨ blockOf (.slice ca ds.length cc) ≠ b' := fun b' hb => by rcases hblk with h | h; exact .inl h; exact .inr (by omega)
    have nbo : ds = [] ∨ w.heap.size ≤ blockOf (.slice ca ds.length cc) := by rcases hblk with h | h; exact .inl h; exact .inr (by omega)
    have hlo : w.heap.size ≤ w3.heap.size := B3.size
    have N8 := dHide (Ns.setFar8 (b' := w.heap.size + 1) (o := 1) (Ns.setFar8 (b' := w.heap.size + 1) (o := 0) (Ns.setFar8 (b' := w.heap.size) (o := 1) (Ns.setFar8 (b' := w.heap.size) (o := 0) N6 (nb _ (by omega)) (.slice ca ds.length cc)) (nb _ (by omega)) (.int .i64 cop)) (nb _ (by omega)) (.int .i64 m.epoch)) (nb _ (by omega)) (.slice a m.words.length c))
    have O8 := dHide ((((O6.far (b := w.heap.size) (o := 0) (by omega) (.slice ca ds.length cc)).far (b := w.heap.size) (o := 1) (by omega) (.int .i64 cop)).far (b := w.heap.size + 1) (o := 0) (by omega) (.int .i64 m.epoch)).far (b := w.heap.size + 1) (o := 1) (by omega) (.slice a m.words.length c))
    have B6 := hd6'.below B3 B3.size (by omega)
    have B8 := dHide ((((B6.setCell (p := ⟨w.heap.size, 0, none⟩) (by simp only; omega) (.slice ca ds.length cc)).setCell (p := ⟨w.heap.size, 1, none⟩) (by simp only; omega) (.int .i64 cop)).setCell (p := ⟨w.heap.size + 1, 0, none⟩) (by simp only; omega) (.int .i64 m.epoch)).setCell (p := ⟨w.heap.size + 1, 1, none⟩) (by simp only; omega) (.slice a m.words.length c))
    clear X6 X7 X8 R6 S6 S7 q qs1 qs2 z0 z1 f0 f1 y0 y1 g0 g1 N6 O6 B6 p pd CD
    go_wp2_with fail
    generalize ((((w6.setCell ⟨w.heap.size, 0, none⟩ (.slice ca ds.length cc)).setCell ⟨w.heap.size, 1, none⟩ (.int .i64 cop)).setCell ⟨w.heap.size + 1, 0, none⟩ (.int .i64 m.epoch)).setCell ⟨w.heap.size + 1, 1, none⟩ (.slice a m.words.length c)) = V at *
    have q0 := ((dUnhide R8).2 0 _ rfl).1
    have q1 := ((dUnhide R8).2 1 _ rfl).1
    have r0 := ((dUnhide S8).2 0 _ rfl).1
    have r1 := ((dUnhide S8).2 1 _ rfl).1
    refine bodyPost_ret (v := .tuple #[.agg #[.slice ca ds.length cc, .int .i64 cop], .agg #[.int .i64 m.epoch, .slice a m.words.length c]]) (by simp [results, Tryz.results34, go_sem, q0, q1, r0, r1]) rfl ⟨⟨_, _, rfl, ds, cop, m, ⟨ca, cc, rfl, dUnhide N8, nbo⟩, hdl, hdd, ⟨hc0, hc5⟩, ⟨a, c, rfl, (dUnhide O8).mono hlo⟩, hf6⟩, dUnhide B8⟩

theorem drawWriterOk_any (a0 : Option Addr) (len cap : Nat) (w : World) (hr : Row8 w a0 len) :
    Calls Tryz.prog 34 #[.slice a0 len cap] w fun e w' => (∃ cv rv, e = .returned (.tuple #[cv, rv]) ∧ DrewWb w' cv rv) ∧ Below w.heap.size w w' :=
  (drawWriterOk_own a0 len cap w hr).mono fun _ _ ⟨⟨cv, rv, h, hd⟩, hb⟩ => ⟨⟨cv, rv, h, hd.rd⟩, hb⟩
set_option maxHeartbeats 8000000 in
theorem drawWriterPack_any (a0 : Option Addr) (len cap : Nat) (w : World) (hr : Row8 w a0 len) :
    Calls Tryz.prog 12 #[.slice a0 len cap] w fun e w' => (∃ cv rv, e = .returned (.tuple #[cv, rv]) ∧ DrewWb w' cv rv) ∧ Below w.heap.size w w' := by
  have ba : ∀ (w : World) o, Below w.heap.size w (w.alloc o) := fun w o => (Below.refl _ _).alloc (Nat.le_refl _) o
  have b1 := ba w (.cells #[.slice none 0 0, .int .i64 0] 26)
  have b2 := ba (w.alloc (.cells #[.slice none 0 0, .int .i64 0] 26)) (.cells #[.int .i64 0, .slice none 0 0] 40)
  have bb := belowThen b1 b2
  have e1 : (w.alloc (.cells #[.slice none 0 0, .int .i64 0] 26)).heap.size = w.heap.size + 1 := by simp
  have e2 : ((w.alloc (.cells #[.slice none 0 0, .int .i64 0] 26)).alloc (.cells #[.int .i64 0, .slice none 0 0] 40)).heap.size = w.heap.size + 2 := by simp
  have R0 := (BxZ.new (B := w.heap.size) w [.slice none 0 0, .int .i64 0] 26 (Nat.le_refl _)).below b2
  have S0 := BxZ.new (B := w.heap.size) (w.alloc (.cells #[.slice none 0 0, .int .i64 0] 26)) [.int .i64 0, .slice none 0 0] 40 (by rw [e1]; omega)
  rw [e1] at S0
  have hr0 := hr.below bb
  clear hr b1 b2 e1
  go_enter Tryz.func12, Tryz.ntmps12
  go_wp2_with fail
  generalize (w.alloc (.cells #[.slice none 0 0, .int .i64 0] 26)).alloc (.cells #[.int .i64 0, .slice none 0 0] 40) = w0 at *
  refine (drawWriterOk_own a0 len cap w0 hr0).mono ?_
  rintro e w4 ⟨⟨cv, rv, rfl, ds, cop, m, ⟨ca, cc, rfl, N4, hblk⟩, hdl, hdd, hco, ⟨a, c, rfl, O4⟩, hf4⟩, b4⟩
  have B4 := belowThen bb b4
  have R4 := R0.below b4
  have S4 := S0.below b4
  have s4 := b4.size
  have bA := ba w4 (.cells #[.slice ca ds.length cc, .int .i64 cop] 26)
  have bB := ba (w4.alloc (.cells #[.slice ca ds.length cc, .int .i64 cop] 26)) (.cells #[.int .i64 m.epoch, .slice a m.words.length c] 40)
  have bC := belowThen bA bB
  have X5 := (Bx.new w4 [.slice ca ds.length cc, .int .i64 cop] 26).below bB
  have Y5 := Bx.new (w4.alloc (.cells #[.slice ca ds.length cc, .int .i64 cop] 26)) [.int .i64 m.epoch, .slice a m.words.length c] 40
  rw [show (w4.alloc (.cells #[.slice ca ds.length cc, .int .i64 cop] 26)).heap.size = w4.heap.size + 1 by simp] at Y5
  have R5 := dHide (R4.below bC)
  have S5 := dHide (S4.below bC)
  have N5 := dHide (N4.below bC)
  have O5 := dHide (O4.below bC)
  have B5 := dHide (belowThen B4 bC)
  clear R0 S0 bb b4 B4 R4 S4 N4 O4 bA bB bC hr0 ba
  go_wp2_with fail
  generalize ((w4.alloc (.cells #[.slice ca ds.length cc, .int .i64 cop] 26)).alloc (.cells #[.int .i64 m.epoch, .slice a m.words.length c] 40)) = w5 at *
  have hk4 : w.heap.size + 2 ≤ w4.heap.size := by omega
  generalize w4.heap.size = k4 at *
  have p := And.intro (And.intro (X5 0 _ rfl) (X5 1 _ rfl)) (And.intro (Y5 0 _ rfl) (Y5 1 _ rfl))
  obtain ⟨z0, f0⟩ := (dUnhide R5).2 0 _ rfl
  obtain ⟨z1, f1⟩ := (dUnhide R5).2 1 _ rfl
  have X7 := ((X5.farB (b' := w.heap.size) (o := 0) (by omega) (.slice ca ds.length cc)).farB (b' := w.heap.size) (o := 1) (by omega) (.int .i64 cop))
  have Y7 := ((Y5.farB (b' := w.heap.size) (o := 0) (by omega) (.slice ca ds.length cc)).farB (b' := w.heap.size) (o := 1) (by omega) (.int .i64 cop))
  have S7 := (((dUnhide S5).far (b' := w.heap.size) (o := 0) (by omega) (.slice ca ds.length cc)).far (b' := w.heap.size) (o := 1) (by omega) (.int .i64 cop))
  obtain ⟨y0, g0⟩ := S7.2 0 _ rfl
  obtain ⟨y1, g1⟩ := S7.2 1 _ rfl
  have qs1 := And.intro (And.intro (X7 0 _ rfl) (X7 1 _ rfl)) (And.intro (Y7 0 _ rfl) (Y7 1 _ rfl))
  have X8 := ((X7.farB (b' := (w.heap.size + 1)) (o := 0) (by omega) (.int .i64 m.epoch)).farB (b' := (w.heap.size + 1)) (o := 1) (by omega) (.slice a m.words.length c))
  have Y8 := ((Y7.farB (b' := (w.heap.size + 1)) (o := 0) (by omega) (.int .i64 m.epoch)).farB (b' := (w.heap.size + 1)) (o := 1) (by omega) (.slice a m.words.length c))
  have qs2 := And.intro (And.intro (X8 0 _ rfl) (X8 1 _ rfl)) (And.intro (Y8 0 _ rfl) (Y8 1 _ rfl))
  have S8 := dHide ((S7.put 0 (.int .i64 m.epoch)).put 1 (.slice a m.words.length c))
  clear X5 Y5 X7 Y7 X8 Y8 S7 S5
  go_region_held3 (fun W => (W.cell? ⟨k4, 0, none⟩ = some (.slice ca ds.length cc) ∧ W.cell? ⟨k4, 1, none⟩ = some (.int .i64 cop)) ∧ (W.cell? ⟨k4 + 1, 0, none⟩ = some (.int .i64 m.epoch) ∧ W.cell? ⟨k4 + 1, 1, none⟩ = some (.slice a m.words.length c))) (first | with_reducible exact p | exact qs1 | exact qs2 | go_keep) (fail)
  all_goals
    have R8 := dHide ((((((dUnhide R5).put 0 (.slice ca ds.length cc)).put 1 (.int .i64 cop)).far (b' := (w.heap.size + 1)) (o := 0) (by omega) (.int .i64 m.epoch)).far (b' := (w.heap.size + 1)) (o := 1) (by omega) (.slice a m.words.length c)))
    have nb : ∀ b', b' ≤ w.heap.size + 1 → ds = [] ∨ blockOf (.slice ca ds.length cc) ≠ b' := fun b' hb => by rcases hblk with h | h; exact .inl h; exact .inr (by omega)
    have N8 := dHide (Ns.setFar8 (b' := w.heap.size + 1) (o := 1) (Ns.setFar8 (b' := w.heap.size + 1) (o := 0) (Ns.setFar8 (b' := w.heap.size) (o := 1) (Ns.setFar8 (b' := w.heap.size) (o := 0) (dUnhide N5) (nb _ (by omega)) (.slice ca ds.length cc)) (nb _ (by omega)) (.int .i64 cop)) (nb _ (by omega)) (.int .i64 m.epoch)) (nb _ (by omega)) (.slice a m.words.length c))
    have O8 := dHide (((((dUnhide O5).far (b := w.heap.size) (o := 0) (by omega) (.slice ca ds.length cc)).far (b := w.heap.size) (o := 1) (by omega) (.int .i64 cop)).far (b := w.heap.size + 1) (o := 0) (by omega) (.int .i64 m.epoch)).far (b := w.heap.size + 1) (o := 1) (by omega) (.slice a m.words.length c))
    have B8 := dHide (((((dUnhide B5).setCell (p := ⟨w.heap.size, 0, none⟩) (by simp only; omega) (.slice ca ds.length cc)).setCell (p := ⟨w.heap.size, 1, none⟩) (by simp only; omega) (.int .i64 cop)).setCell (p := ⟨w.heap.size + 1, 0, none⟩) (by simp only; omega) (.int .i64 m.epoch)).setCell (p := ⟨w.heap.size + 1, 1, none⟩) (by simp only; omega) (.slice a m.words.length c))
    clear qs1 qs2 z0 z1 f0 f1 y0 y1 g0 g1 N5 O5 B5 p R5
    go_wp2_with fail
    generalize ((((w5.setCell ⟨w.heap.size, 0, none⟩ (.slice ca ds.length cc)).setCell ⟨w.heap.size, 1, none⟩ (.int .i64 cop)).setCell ⟨w.heap.size + 1, 0, none⟩ (.int .i64 m.epoch)).setCell ⟨w.heap.size + 1, 1, none⟩ (.slice a m.words.length c)) = V at *
    have q0 := ((dUnhide R8).2 0 _ rfl).1
    have q1 := ((dUnhide R8).2 1 _ rfl).1
    have r0 := ((dUnhide S8).2 0 _ rfl).1
    have r1 := ((dUnhide S8).2 1 _ rfl).1
    refine bodyPost_ret (v := .tuple #[.agg #[.slice ca ds.length cc, .int .i64 cop], .agg #[.int .i64 m.epoch, .slice a m.words.length c]]) (by simp [results, Tryz.results12, go_sem, q0, q1, r0, r1]) rfl ⟨⟨_, _, rfl, ds, cop, m, ⟨ca, cc, rfl, dUnhide N8⟩, hdl, hdd, hco, ⟨a, c, rfl⟩, ⟨_, rfl, (dUnhide O8).rd⟩, hf4⟩, by first | exact dUnhide B8 | exact (dUnhide B8).drew⟩
set_option maxHeartbeats 8000000 in
theorem drawWriterRead_any (a0 : Option Addr) (len cap : Nat) (w : World) (hr : Row8 w a0 len) :
    Calls Tryz.prog 17 #[.slice a0 len cap] w fun e w' => (∃ cv v, e = .returned (.tuple #[cv, v]) ∧ DrewWbB w' cv v) ∧ Below w.heap.size w w' := by
  have ba : ∀ (w : World) o, Below w.heap.size w (w.alloc o) := fun w o => (Below.refl _ _).alloc (Nat.le_refl _) o
  have bb := ba w (.cells #[.slice none 0 0, .int .i64 0] 26)
  have R0 := BxZ.new (B := w.heap.size) w [.slice none 0 0, .int .i64 0] 26 (Nat.le_refl _)
  have e2 : w.heap.size < (w.alloc (.cells #[.slice none 0 0, .int .i64 0] 26)).heap.size := by simp
  have hr0 := hr.below bb
  clear hr
  go_enter Tryz.func17, Tryz.ntmps17
  go_wp2_with fail
  generalize w.alloc (.cells #[.slice none 0 0, .int .i64 0] 26) = w0 at *
  refine (l1New_any a0 len cap w0 hr0).mono ?_
  rintro e w1 ⟨bk, rfl, hbk, hc1, hb1⟩
  have B1 := belowThen bb hb1
  have R1 := R0.below hb1
  have hk1 := hc1.lt
  clear R0 bb hb1 hr0
  go_wp2_with fail
  refine (l4DrawRight_any bk w1 hc1).mono ?_
  rintro e w2 ⟨⟨sv, ds, cop, rfl, o2, hdl, hdd, hc0⟩, hc2, hd2⟩
  have O2 := ownN_of_row o2
  obtain ⟨-, ca, cc, rfl, -, -⟩ := O2.bs
  have hblk := O2.blk
  have bA := ba w2 (.cells #[.slice ca ds.length cc, .int .i64 cop] 26)
  have X3 := Bx.new w2 [.slice ca ds.length cc, .int .i64 cop] 26
  have N3 := O2.bs.below bA
  have R3 := (R1.drawn hd2 (by omega)).below bA
  have B3 := belowThen (hd2.below B1 B1.size (by omega)) bA
  have hc3 := hc2.below bA
  have hs2 := hd2.size
  have hne : ds = [] ∨ blockOf (.slice ca ds.length cc) ≠ bk := by rcases hblk with h | h; exact .inl h; exact .inr (by omega)
  have x0 := X3 0 _ rfl
  have x1 := X3 1 _ rfl
  clear O2 o2 bA hc2 hd2 hc1 R1 B1
  go_wp2_with fail
  generalize hcb : w2.heap.size = cb at *
  generalize w2.alloc (.cells #[.slice ca ds.length cc, .int .i64 cop] 26) = w3 at *
  have hcl : cb < w3.heap.size := dCell_lt x0
  have bd : Below w3.heap.size w3 w3.drew := (Below.refl _ _).drew
  have CD := dHide (l8DrawRight_any bk ca cc ds cop w3.drew (hc3.below bd) (N3.below bd) (by omega) hne)
  have p := And.intro (X3 0 _ rfl) (X3 1 _ rfl)
  have pd := And.intro (X3.below bd 0 _ rfl) (X3.below bd 1 _ rfl)
  clear x0 x1
  go_region_held3 (fun W => W.cell? ⟨cb, 0, none⟩ = some (.slice ca ds.length cc) ∧ W.cell? ⟨cb, 1, none⟩ = some (.int .i64 cop)) (first | with_reducible exact q | with_reducible exact q7 | with_reducible exact pd | with_reducible exact p | go_keep)
    (first
      | (go_at_call 42; refine (dUnhide CD).mono ?_; rintro r w6 ⟨⟨m, a, c, rfl, O6', hf6⟩, hc6, hd6⟩; have O6 : RdW w3.heap.size _ _ _ := RdW.of O6'; have X6 := (X3.below bd).drawn hd6 (by omega); have R6 := (R3.below bd).drawn hd6 (by omega); have N6 := (N3.below bd).drawn hd6 hne; have q := And.intro (X6 0 _ rfl) (X6 1 _ rfl); have CP := dHide (specWriterPack_any (.agg #[.slice ca ds.length cc, .int .i64 cop]) (.agg #[.int .i64 m.epoch, .slice a m.words.length c]) (ds, cop) m w6 ⟨_, rfl, N6⟩ ⟨_, rfl, O6.rd⟩ (by have := fitW_siz hf6; omega)))
      | (go_at_call 14; refine (dUnhide CP).mono ?_; rintro r w7 ⟨⟨u7, rfl, hO7⟩, hb7⟩; have X7 := X6.below hb7; have q7 := And.intro (X7 0 _ rfl) (X7 1 _ rfl))
      | fail)
  all_goals
    have CL : Hid ((wtM ds cop m).1.length ≤ 100000) := by
      unfold Hid
      exact wtM_len hf6
    generalize wtM ds cop m = M at *
    obtain ⟨PB, pb⟩ := M
    simp only at hO7 CL
    have hd6' := (Drawn.of_below (bk := bk) bd).trans hd6
    have B6 := hd6'.below B3 B3.size (by omega)
    have B7 := belowThen B6 hb7
    have hc7 := hc6.below hb7
    have R7 := R6.below hb7
    have N7 := N6.below hb7
    have hz7 : w.heap.size < w7.heap.size := by have := B7.size; have := (R7.2 0 _ rfl).1; exact dCell_lt this
    clear X6 R6 N6 q CP CD O6 O6' p pd hd6 hc6 B6 hb7 B3 hf6
    go_wp2_with fail
    have be : Below w7.heap.size w7 w7.drew := (Below.refl _ _).drew
    have CS := dHide (spoil_own bk u7 PB w7.drew (hc7.below be) (hO7.bs.below be) (by have := dUnhide CL; omega))
    have p := And.intro (X7 0 _ rfl) (X7 1 _ rfl)
    have pd := And.intro (X7.below be 0 _ rfl) (X7.below be 1 _ rfl)
    go_region_held3 (fun W => W.cell? ⟨cb, 0, none⟩ = some (.slice ca ds.length cc) ∧ W.cell? ⟨cb, 1, none⟩ = some (.int .i64 cop)) (first | with_reducible exact q | with_reducible exact pd | with_reducible exact p | exact qs1 | go_keep)
      (first
        | (go_at_call 30; refine (dUnhide CS).mono ?_; rintro r w8 ⟨⟨u8, bs8, rfl, q8', l8⟩, hd8⟩; have q8 : OwnB w8 w7.heap.size u8 bs8 := q8'; have X8 := (X7.below be).drawn hd8 (by omega); have R8 := (R7.below be).drawn hd8 (by omega); have q := And.intro (X8 0 _ rfl) (X8 1 _ rfl); obtain ⟨z0, f0⟩ := R8.2 0 _ rfl; obtain ⟨z1, f1⟩ := R8.2 1 _ rfl; have X9 := ((X8.farB (b' := w.heap.size) (o := 0) (by omega) (.slice ca ds.length cc)).farB (b' := w.heap.size) (o := 1) (by omega) (.int .i64 cop)); have qs1 := And.intro (X9 0 _ rfl) (X9 1 _ rfl))
        | fail)
    all_goals
      have hd8' := (Drawn.of_below (bk := bk) be).trans hd8
      have R9 := dHide ((R8.put 0 (.slice ca ds.length cc)).put 1 (.int .i64 cop))
      have nb : ds = [] ∨ blockOf (.slice ca ds.length cc) ≠ w.heap.size := by rcases hblk with h | h; exact .inl h; exact .inr (by omega)
      have N8 := N7.drawn hd8' hne
      have N9 := dHide (Ns.setFar8 (b' := w.heap.size) (o := 1) (Ns.setFar8 (b' := w.heap.size) (o := 0) N8 nb (.slice ca ds.length cc)) nb (.int .i64 cop))
      have Q9 := dHide ((q8.setFar (b := w.heap.size) (o := 0) hz7 (.slice ca ds.length cc)).setFar (b := w.heap.size) (o := 1) hz7 (.int .i64 cop)).bs
      have B8 := hd8'.below B7 B7.size (by omega)
      have B9 := dHide ((B8.setCell (p := ⟨w.heap.size, 0, none⟩) (Nat.le_refl _) (.slice ca ds.length cc)).setCell (p := ⟨w.heap.size, 1, none⟩) (Nat.le_refl _) (.int .i64 cop))
      have l9 : bs8.length ≤ 1000000 := by have := dUnhide CL; omega
      clear X8 X9 R8 q qs1 z0 z1 f0 f1 N8 B8 p pd CS q8 q8'
      go_wp2_with fail
      generalize ((w8.setCell ⟨w.heap.size, 0, none⟩ (.slice ca ds.length cc)).setCell ⟨w.heap.size, 1, none⟩ (.int .i64 cop)) = V at *
      have q0 := ((dUnhide R9).2 0 _ rfl).1
      have q1 := ((dUnhide R9).2 1 _ rfl).1
      refine bodyPost_ret (v := .tuple #[.agg #[.slice ca ds.length cc, .int .i64 cop], u8]) (by simp [results, Tryz.results17, go_sem, q0, q1]) rfl ⟨⟨_, _, rfl, ds, cop, bs8, ⟨ca, cc, rfl, dUnhide N9⟩, (by omega), (fun d hd => by have := hdd d hd; omega), (by omega), dUnhide Q9, l9⟩, dUnhide B9⟩
end Go.Proofs.YthndkkjgjhgdnaaGreatDoor
