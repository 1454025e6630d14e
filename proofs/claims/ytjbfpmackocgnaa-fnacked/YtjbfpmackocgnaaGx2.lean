/- Several texts in one: DwE, DwF, DwH. -/
import Derived.Test.YtjbfpmackocgnaaDwD
import Derived.Deep.RegionHeld3
namespace Go.Proofs.Ytjbfpmackocgnaa
open Go.ChangeShapes Go.WideShapes Go.ChangeAt Go.RowKit
set_option linter.unusedVariables false
set_option linter.unusedSimpArgs false
set_option maxRecDepth 100000

theorem RdW.shape {lo : Nat} {v : Value} {ms : List Wd} {W : World} (h : RdW lo v ms W) : ∃ a c, v = .slice a ms.length c := by
  obtain ⟨rs, rfl, ⟨-, a, c, rfl, -⟩, -⟩ := h
  exact ⟨a, c, by rw [List.length_map]⟩
end Go.Proofs.Ytjbfpmackocgnaa
namespace Go.Proofs.Ytjbfpmackocgnaa
open Go.ChangeShapes Go.WideShapes Go.ChangeAt Go.RowKit
set_option linter.unusedVariables false
set_option linter.unusedSimpArgs false
set_option maxRecDepth 100000

/-- A configuration and a writer that were drawn. -/
def Drew8 (W : World) (cv rv : Value) (ds : List Int) (cop : Int) (m : Wt) : Prop := (∃ ca cc, cv = .agg #[.slice ca ds.length cc, .int .i64 cop] ∧ Ns W (.slice ca ds.length cc) ds) ∧ ds.length ≤ 9 ∧ (∀ d ∈ ds, -1 ≤ d ∧ d ≤ 8) ∧ (0 ≤ cop ∧ cop ≤ 5) ∧ (∃ a c, rv = .agg #[.int .i64 m.epoch, .slice a m.words.length c]) ∧ RdWriter rv m W ∧ fitW 60 m
theorem Drew8.below {W W' : World} {cv rv : Value} {ds : List Int} {cop : Int} {m : Wt} (h : Drew8 W cv rv ds cop m) (hb : Below W.heap.size W W') : Drew8 W' cv rv ds cop m := by
  obtain ⟨⟨ca, cc, h1, h2⟩, h3, h4, h5, h6, h7, h8⟩ := h
  exact ⟨⟨ca, cc, h1, h2.below hb⟩, h3, h4, h5, h6, h7.below hb, h8⟩
end Go.Proofs.Ytjbfpmackocgnaa
namespace Go.Proofs.Ytjbfpmackocgnaa
open Go.ChangeShapes Go.WideShapes Go.ChangeAt Go.RowKit
set_option linter.unusedVariables false
set_option linter.unusedSimpArgs false
set_option maxRecDepth 100000

set_option maxHeartbeats 8000000 in
theorem drawWriterAck_any (a0 : Option Addr) (len cap : Nat) (w : World) (hr : Row8 w a0 len) :
    Calls Try.prog 19 #[.slice a0 len cap] w fun e w' => (∃ cv rv ds cop m off x, e = .returned (.tuple #[cv, rv, .int .i64 off, .int .i64 x]) ∧ Drew8 w' cv rv ds cop m ∧ okInt off ∧ okInt x) ∧ Below w.heap.size w w' := by
  have ba : ∀ (w : World) o, Below w.heap.size w (w.alloc o) := fun w o => (Below.refl _ _).alloc (Nat.le_refl _) o
  have b1 := ba w (.cells #[.slice none 0 0, .int .i64 0] 26)
  have b2 := ba (w.alloc (.cells #[.slice none 0 0, .int .i64 0] 26)) (.cells #[.int .i64 0, .slice none 0 0] 29)
  have bb := belowThen b1 b2
  have e1 : (w.alloc (.cells #[.slice none 0 0, .int .i64 0] 26)).heap.size = w.heap.size + 1 := by simp
  have e2 : ((w.alloc (.cells #[.slice none 0 0, .int .i64 0] 26)).alloc (.cells #[.int .i64 0, .slice none 0 0] 29)).heap.size = w.heap.size + 2 := by simp
  have R0 := (BxZ.new (B := w.heap.size) w [.slice none 0 0, .int .i64 0] 26 (Nat.le_refl _)).below b2
  have S0 := BxZ.new (B := w.heap.size) (w.alloc (.cells #[.slice none 0 0, .int .i64 0] 26)) [.int .i64 0, .slice none 0 0] 29 (by rw [e1]; omega)
  rw [e1] at S0
  have hr0 := hr.below bb
  clear hr b1 b2 e1
  go_enter Try.func19, Try.ntmps19
  go_wp2_with fail
  generalize (w.alloc (.cells #[.slice none 0 0, .int .i64 0] 26)).alloc (.cells #[.int .i64 0, .slice none 0 0] 29) = w0 at *
  refine (l1New_any a0 len cap w0 hr0).mono ?_
  rintro e w1 ⟨bk, rfl, hbk, hc1, hb1⟩
  have B1 := belowThen bb hb1
  have R1 := R0.below hb1
  have S1 := S0.below hb1
  have hk1 := hc1.lt
  clear R0 S0 bb hb1 hr0
  go_wp2_with fail
  refine (l4Draw_any bk w1 hc1).mono ?_
  rintro e w2 ⟨⟨sv, ds, cop, rfl, O2, hdl, hdd, hc0, hc5⟩, hc2, hd2⟩
  obtain ⟨-, ca, cc, rfl, -, -⟩ := O2.bs
  have hblk := O2.blk
  have bA := ba w2 (.cells #[.slice ca ds.length cc, .int .i64 cop] 26)
  have X3 := Bx.new w2 [.slice ca ds.length cc, .int .i64 cop] 26
  have N3 := O2.bs.below bA
  have R3 := (R1.drawn hd2 (by omega)).below bA
  have S3 := (S1.drawn hd2 (by omega)).below bA
  have B3 := belowThen (hd2.below B1 B1.size (by omega)) bA
  have hc3 := hc2.below bA
  have hs2 := hd2.size
  have hne : ds = [] ∨ blockOf (.slice ca ds.length cc) ≠ bk := by rcases hblk with h | h; exact .inl h; exact .inr (by omega)
  have x0 := X3 0 _ rfl
  have x1 := X3 1 _ rfl
  clear O2 bA hc2 hd2 hc1 R1 S1 B1
  go_wp2_with fail
  generalize hcb : w2.heap.size = cb at *
  generalize w2.alloc (.cells #[.slice ca ds.length cc, .int .i64 cop] 26) = w3 at *
  have hcl : cb < w3.heap.size := dCell_lt x0
  refine (l8Draw_any bk ca cc ds cop w3 hc3 N3 hdl hne).mono ?_
  rintro e w4 ⟨⟨rv, m, rfl, O4, hf4⟩, hc4, hd4⟩
  obtain ⟨a, c, rfl⟩ := O4.shape
  have bB := ba w4 (.cells #[.int .i64 m.epoch, .slice a m.words.length c] 29)
  have Y5 := Bx.new w4 [.int .i64 m.epoch, .slice a m.words.length c] 29
  have X5 := (X3.drawn hd4 (by omega)).below bB
  have N5 := (N3.drawn hd4 hne).below bB
  have R5 := (R3.drawn hd4 (by omega)).below bB
  have S5 := (S3.drawn hd4 (by omega)).below bB
  have O5 := O4.below bB
  have B5 := belowThen (hd4.below B3 B3.size (by omega)) bB
  have hc5' := hc4.below bB
  have hs4 := hd4.size
  clear x0 x1 X3 N3 R3 S3 O4 B3 hc3 hc4 hd4 bB
  go_wp2_with fail
  have es5 : (w4.alloc (.cells #[.int .i64 m.epoch, .slice a m.words.length c] 29)).heap.size = w4.heap.size + 1 := by simp
  generalize hrb : w4.heap.size = rb at *
  generalize w4.alloc (.cells #[.int .i64 m.epoch, .slice a m.words.length c] 29) = w5 at *
  have hel : m.words.length ≤ 60 := hf4.1
  have hwl' : Hid (wrap64 ((m.words.length : Int) + 1) = (m.words.length : Int) + 1) := by unfold Hid wrap64; omega
  have CP := l1Below_any bk (m.words.length + 1) (by omega) (by omega) w5 hc5'
  rw [show ((m.words.length + 1 : Nat) : Int) = (m.words.length : Int) + 1 by omega] at CP
  have y1 := Y5 1 _ rfl
  go_wp2_with fail
  try rw [dUnhide hwl']
  refine CP.mono ?_
  rintro e w6 ⟨⟨p, hp, rfl⟩, hc6, hd6⟩
  have X6 := X5.drawn hd6 (by omega)
  have Y6 := Y5.drawn hd6 (by omega)
  have R6 := R5.drawn hd6 (by omega)
  have S6 := S5.drawn hd6 (by omega)
  have N6 := N5.drawn hd6 hne
  have O6 := O5.drawn hd6 (by omega)
  have B6 := hd6.below B5 B5.size (by omega)
  have hs6 := hd6.size
  have t1' : Hid (wrap64 (1 + (p : Int)) = 1 + (p : Int)) := by unfold Hid wrap64; omega
  clear X5 Y5 R5 S5 N5 O5 B5 hc5' hd6 CP y1 hwl'
  go_wp2_with fail
  try rw [dUnhide t1']
  refine (l1Below_any bk 20 (by omega) (by omega) w6 hc6).mono ?_
  rintro e w7 ⟨⟨q, hq, rfl⟩, hc7, hd7⟩
  have X7 := X6.drawn hd7 (by omega)
  have Y7 := Y6.drawn hd7 (by omega)
  have R7 := R6.drawn hd7 (by omega)
  have S7 := S6.drawn hd7 (by omega)
  have N7 := N6.drawn hd7 hne
  have O7 := O6.drawn hd7 (by omega)
  have B7 := hd7.below B6 B6.size (by omega)
  have hs7 := hd7.size
  have t2' : Hid (wrap64 (1 + (p : Int) - (q : Int) / 19) = 1 + (p : Int) - (q : Int) / 19) := by unfold Hid wrap64; omega
  clear X6 Y6 R6 S6 N6 O6 B6 hc6 hd7
  have bdr : Below w7.heap.size w7 w7.drew := (Below.refl _ _).drew
  have Xd := X7.below bdr
  have Yd := Y7.below bdr
  have Rd := R7.below bdr
  have Sd := S7.below bdr
  have Nd := N7.below bdr
  have Od := O7.below bdr
  have hcd := hc7.below bdr
  have Bd := belowThen B7 bdr
  have nb : ∀ b', b' ≤ w.heap.size + 1 → ds = [] ∨ blockOf (.slice ca ds.length cc) ≠ b' := fun b' hb => by rcases hblk with h | h; exact .inl h; exact .inr (by omega)
  have p0 := And.intro (X7 0 _ rfl) (And.intro (X7 1 _ rfl) (And.intro (Y7 0 _ rfl) (Y7 1 _ rfl)))
  have pd := And.intro (Xd 0 _ rfl) (And.intro (Xd 1 _ rfl) (And.intro (Yd 0 _ rfl) (Yd 1 _ rfl)))
  clear bdr X7 Y7 R7 S7 N7 O7 B7 hc7 t2' t1'
  go_wp2_with fail
  have hok : okInt (1 + (p : Int) - (q : Int) / 19) := ⟨by omega, by omega⟩
  have hwd : IntKind.i64.wrap ((ds.length : Int) + 1) = (ds.length : Int) + 1 := by rw [IntKind.wrap_i64]; omega
  generalize 1 + (p : Int) - (q : Int) / 19 = off at *
  refine wp_region_noPanic ?_
  refine wp_region_held_drew (S := fun W => W.cell? ⟨cb, 0, none⟩ = some (.slice ca ds.length cc) ∧ W.cell? ⟨cb, 1, none⟩ = some (.int .i64 cop) ∧ W.cell? ⟨rb, 0, none⟩ = some (.int .i64 m.epoch) ∧ W.cell? ⟨rb, 1, none⟩ = some (.slice a m.words.length c)) (by kernel_rfl) (by first | with_reducible exact pd | exact p0 | go_keep) (fun hHeld => ?_)
  generalize w7.drew = wd at *
  refine wpAnyH_take (i := 0) (oi := { dst := some 28, op := Op.load 26 (Operand.tmp 7), type := 26, pos := "l08_writer.go:133", after := #[], guard := none }) (v := ?_) rfl (by kernel_rfl) (by kernel_rfl) (by kernel_rfl) (fun _ _ _ h => h) (Or.inl ⟨by rfl, ?_⟩) (by assumption) ?_
  rotate_left 1
  · intro w hSw
    (try dsimp only at hSw)
    first | (go_simp; done) | (go_simp; with_reducible rfl)
  try simp only [Act.put, List.setIfInBounds_toArray, List.set_cons_zero, List.set_cons_succ]
  refine wpAnyH_take (i := 1) (oi := { dst := some 29, op := Op.load 29 (Operand.tmp 8), type := 29, pos := "l08_writer.go:133", after := #[{ on := 13, ground := Ground.gcOnly Departure.lateStores }], guard := none }) (v := ?_) rfl (by kernel_rfl) (by kernel_rfl) (by kernel_rfl) (fun _ _ _ h => h) (Or.inl ⟨by rfl, ?_⟩) (by assumption) ?_
  rotate_left 1
  · intro w hSw
    (try dsimp only at hSw)
    first | (go_simp; done) | (go_simp; with_reducible rfl)
  try simp only [Act.put, List.setIfInBounds_toArray, List.set_cons_zero, List.set_cons_succ]
  refine wpAnyH_take (i := 2) (oi := { dst := some 30, op := Op.move (Operand.tmp 9), type := 3, pos := "l08_writer.go:133", after := #[{ on := 14, ground := Ground.gcOnly Departure.lateStores }], guard := none }) (v := ?_) rfl (by kernel_rfl) (by kernel_rfl) (by kernel_rfl) (fun _ _ _ h => h) (Or.inl ⟨by rfl, ?_⟩) (by assumption) ?_
  rotate_left 1
  · intro w hSw
    (try dsimp only at hSw)
    first | (go_simp; done) | (go_simp; with_reducible rfl)
  try simp only [Act.put, List.setIfInBounds_toArray, List.set_cons_zero, List.set_cons_succ]
  refine wpAnyH_take (i := 3) (oi := { dst := some 31, op := Op.move (Operand.tmp 6), type := 82, pos := "l08_writer.go:133", after := #[], guard := none }) (v := ?_) rfl (by kernel_rfl) (by kernel_rfl) (by kernel_rfl) (fun _ _ _ h => h) (Or.inl ⟨by rfl, ?_⟩) (by assumption) ?_
  rotate_left 1
  · intro w hSw
    (try dsimp only at hSw)
    first | (go_simp; done) | (go_simp; with_reducible rfl)
  try simp only [Act.put, List.setIfInBounds_toArray, List.set_cons_zero, List.set_cons_succ]
  refine wpAnyH_take (i := 4) (oi := { dst := some 32, op := Op.fieldAddr 26 (Operand.tmp 7) 0, type := 0, pos := "l08_writer.go:133", after := #[], guard := none }) (v := ?_) rfl (by kernel_rfl) (by kernel_rfl) (by kernel_rfl) (fun _ _ _ h => h) (Or.inl ⟨by rfl, ?_⟩) (by assumption) ?_
  rotate_left 1
  · intro w hSw
    (try dsimp only at hSw)
    first | (go_simp; done) | (go_simp; with_reducible rfl)
  try simp only [Act.put, List.setIfInBounds_toArray, List.set_cons_zero, List.set_cons_succ]
  refine wpAnyH_take (i := 5) (oi := { dst := some 33, op := Op.load 24 (Operand.tmp 32), type := 24, pos := "l08_writer.go:133", after := #[{ on := 4, ground := Ground.data }], guard := none }) (v := ?_) rfl (by kernel_rfl) (by kernel_rfl) (by kernel_rfl) (fun _ _ _ h => h) (Or.inl ⟨by rfl, ?_⟩) (by assumption) ?_
  rotate_left 1
  · intro w hSw
    (try dsimp only at hSw)
    first | (go_simp; done) | (go_simp; with_reducible rfl)
  try simp only [Act.put, List.setIfInBounds_toArray, List.set_cons_zero, List.set_cons_succ]
  refine wpAnyH_take (i := 6) (oi := { dst := some 34, op := Op.call { callee := Callee.builtin Builtin.len, args := #[Operand.tmp 33], argTypes := #[24] }, type := 3, pos := "l08_writer.go:133", after := #[{ on := 5, ground := Ground.data }], guard := none }) (v := ?_) rfl (by kernel_rfl) (by kernel_rfl) (by kernel_rfl) (fun _ _ _ h => h) (Or.inl ⟨by rfl, ?_⟩) (by assumption) ?_
  rotate_left 1
  · intro w hSw
    (try dsimp only at hSw)
    first | (go_simp; done) | (go_simp; with_reducible rfl)
  try simp only [Act.put, List.setIfInBounds_toArray, List.set_cons_zero, List.set_cons_succ]
  refine wpAnyH_take (i := 7) (oi := { dst := some 35, op := Op.binOp BinOp.add 3 (Operand.tmp 34) (Operand.const (Value.int IntKind.i64 1)) 3, type := 3, pos := "l08_writer.go:133", after := #[{ on := 6, ground := Ground.data }], guard := none }) (v := ?_) rfl (by kernel_rfl) (by kernel_rfl) (by kernel_rfl) (fun _ _ _ h => h) (Or.inl ⟨by rfl, ?_⟩) (by assumption) ?_
  rotate_left 1
  · intro w hSw
    (try dsimp only at hSw)
    first | (go_simp; done) | (go_simp; with_reducible rfl)
  try simp only [Act.put, List.setIfInBounds_toArray, List.set_cons_zero, List.set_cons_succ]
  refine wpAnyH_take (i := 9) (oi := { dst := some 37, op := Op.move (Operand.tmp 6), type := 82, pos := "l08_writer.go:133", after := #[], guard := none }) (v := ?_) rfl (by kernel_rfl) (by kernel_rfl) (by kernel_rfl) (fun _ _ _ h => h) (Or.inl ⟨by rfl, ?_⟩) (by assumption) ?_
  rotate_left 1
  · intro w hSw
    (try dsimp only at hSw)
    first | (go_simp; done) | (go_simp; with_reducible rfl)
  try simp only [Act.put, List.setIfInBounds_toArray, List.set_cons_zero, List.set_cons_succ]
  refine wpAnyH_ready (rs := [8]) (by kernel_rfl) (by simp) ?_
  refine AllReadyH.cons (o := { dst := some 36, op := Op.call { callee := Callee.value (Operand.func 57), args := #[Operand.tmp 31, Operand.tmp 35], argTypes := #[82, 3] }, type := 3, pos := "l08_writer.go:133", after := #[{ on := 3, ground := Ground.data }, { on := 7, ground := Ground.data }], guard := none }) rfl (fun K hK => ?_) AllReadyH.nil
  go_simp
  have CPx := l1Below_any bk (ds.length + 1) (by omega) (by omega) wd hcd
  rw [show ((ds.length + 1 : Nat) : Int) = (ds.length : Int) + 1 by omega] at CPx
  refine CPx.mono ?_
  rintro e wd ⟨⟨p2, hp2, rfl⟩, hcd, hdd'⟩
  replace Xd := Xd.drawn hdd' (by omega)
  replace Yd := Yd.drawn hdd' (by omega)
  replace Rd := Rd.drawn hdd' (by omega)
  replace Sd := Sd.drawn hdd' (by omega)
  replace Nd := Nd.drawn hdd' hne
  replace Od := Od.drawn hdd' (by omega)
  replace Bd := hdd'.below Bd Bd.size (by omega)
  clear hdd' CPx
  have pd := And.intro (Xd 0 _ rfl) (And.intro (Xd 1 _ rfl) (And.intro (Yd 0 _ rfl) (Yd 1 _ rfl)))
  (try go_wp2_with fail)
  refine hK.out _ _ (by first | with_reducible exact pd | exact p0 | go_keep) (fun hHeld => ?_)
  clear hK K
  try simp only [Act.put, List.setIfInBounds_toArray, List.set_cons_zero, List.set_cons_succ]
  refine wpAnyH_ready (rs := [10]) (by kernel_rfl) (by simp) ?_
  refine AllReadyH.cons (o := { dst := some 38, op := Op.call { callee := Callee.value (Operand.func 57), args := #[Operand.tmp 37, Operand.const (Value.int IntKind.i64 20)], argTypes := #[82, 3] }, type := 3, pos := "l08_writer.go:133", after := #[{ on := 9, ground := Ground.data }, { on := 8, ground := Ground.chain }], guard := none }) rfl (fun K hK => ?_) AllReadyH.nil
  go_simp
  have CPx := l1Below_any bk 20 (by omega) (by omega) wd hcd
  refine CPx.mono ?_
  rintro e wd ⟨⟨q2, hq2, rfl⟩, hcd, hdd'⟩
  replace Xd := Xd.drawn hdd' (by omega)
  replace Yd := Yd.drawn hdd' (by omega)
  replace Rd := Rd.drawn hdd' (by omega)
  replace Sd := Sd.drawn hdd' (by omega)
  replace Nd := Nd.drawn hdd' hne
  replace Od := Od.drawn hdd' (by omega)
  replace Bd := hdd'.below Bd Bd.size (by omega)
  clear hdd' CPx
  have t4 : IntKind.i64.wrap ((q2 : Int) / 19) = (q2 : Int) / 19 := by rw [IntKind.wrap_i64]; omega
  have t3 : IntKind.i64.wrap ((p2 : Int) - (q2 : Int) / 19) = (p2 : Int) - (q2 : Int) / 19 := by rw [IntKind.wrap_i64]; omega
  have pd := And.intro (Xd 0 _ rfl) (And.intro (Xd 1 _ rfl) (And.intro (Yd 0 _ rfl) (Yd 1 _ rfl)))
  (try go_wp2_with fail)
  refine hK.out _ _ (by first | with_reducible exact pd | exact p0 | go_keep) (fun hHeld => ?_)
  clear hK K
  try simp only [Act.put, List.setIfInBounds_toArray, List.set_cons_zero, List.set_cons_succ]
  refine wpAnyH_take (i := 11) (oi := { dst := some 39, op := Op.binOp BinOp.quo 3 (Operand.tmp 38) (Operand.const (Value.int IntKind.i64 19)) 3, type := 3, pos := "l08_writer.go:133", after := #[{ on := 10, ground := Ground.data }, { on := 15, ground := Ground.gcOnly Departure.lateStores }], guard := none }) (v := ?_) rfl (by kernel_rfl) (by kernel_rfl) (by kernel_rfl) (fun _ _ _ h => h) (Or.inl ⟨by rfl, ?_⟩) (by assumption) ?_
  rotate_left 1
  · intro w hSw
    (try dsimp only at hSw)
    first | (go_simp; done) | (go_simp; with_reducible rfl)
  try simp only [Act.put, List.setIfInBounds_toArray, List.set_cons_zero, List.set_cons_succ]
  refine wpAnyH_take (i := 12) (oi := { dst := some 40, op := Op.binOp BinOp.sub 3 (Operand.tmp 36) (Operand.tmp 39) 3, type := 3, pos := "l08_writer.go:133", after := #[{ on := 8, ground := Ground.data }, { on := 11, ground := Ground.data }, { on := 15, ground := Ground.gcOnly Departure.lateStores }], guard := none }) (v := ?_) rfl (by kernel_rfl) (by kernel_rfl) (by kernel_rfl) (fun _ _ _ h => h) (Or.inl ⟨by rfl, ?_⟩) (by assumption) ?_
  rotate_left 1
  · intro w hSw
    (try dsimp only at hSw)
    first | (go_simp; done) | (go_simp; with_reducible rfl)
  try simp only [Act.put, List.setIfInBounds_toArray, List.set_cons_zero, List.set_cons_succ]
  refine wpAnyH_ready (rs := [13]) (by kernel_rfl) (by simp) ?_
  refine AllReadyH.cons (o := { dst := none, op := Op.store 26 (Operand.tmp 2) (Operand.tmp 28), type := 0, pos := "l08_writer.go:133", after := #[{ on := 0, ground := Ground.data }, { on := 10, ground := Ground.chain }, { on := 0, ground := Ground.phase }, { on := 1, ground := Ground.textOnly Departure.lateStores }, { on := 2, ground := Ground.textOnly Departure.lateStores }, { on := 3, ground := Ground.textOnly Departure.lateStores }, { on := 4, ground := Ground.textOnly Departure.lateStores }, { on := 5, ground := Ground.textOnly Departure.lateStores }, { on := 6, ground := Ground.textOnly Departure.lateStoresUnsure }, { on := 7, ground := Ground.textOnly Departure.lateStores }, { on := 8, ground := Ground.textOnly Departure.lateStoresUnsure }, { on := 9, ground := Ground.textOnly Departure.lateStores }, { on := 10, ground := Ground.textOnly Departure.lateStoresUnsure }, { on := 11, ground := Ground.textOnly Departure.lateStores }, { on := 12, ground := Ground.textOnly Departure.lateStores }], guard := none }) rfl (fun K hK => ?_) AllReadyH.nil
  obtain ⟨z0, f0⟩ := Rd.2 0 _ rfl
  obtain ⟨z1, f1⟩ := Rd.2 1 _ rfl
  go_simp
  have Ry := (Rd.put 0 (.slice ca ds.length cc)).put 1 (.int .i64 cop)
  have Sy := (Sd.far (b' := w.heap.size) (o := 0) (by omega) (.slice ca ds.length cc)).far (b' := w.heap.size) (o := 1) (by omega) (.int .i64 cop)
  replace Xd := (Xd.farB (b' := w.heap.size) (o := 0) (by omega) (.slice ca ds.length cc)).farB (b' := w.heap.size) (o := 1) (by omega) (.int .i64 cop)
  replace Yd := (Yd.farB (b' := w.heap.size) (o := 0) (by omega) (.slice ca ds.length cc)).farB (b' := w.heap.size) (o := 1) (by omega) (.int .i64 cop)
  replace Nd := Ns.setFar8 (b' := w.heap.size) (o := 1) (Ns.setFar8 (b' := w.heap.size) (o := 0) Nd (nb _ (by omega)) (.slice ca ds.length cc)) (nb _ (by omega)) (.int .i64 cop)
  replace Od := (Od.far (b := w.heap.size) (o := 0) (by omega) (.slice ca ds.length cc)).far (b := w.heap.size) (o := 1) (by omega) (.int .i64 cop)
  replace Bd := (Bd.setCell (p := ⟨w.heap.size, 0, none⟩) (by simp only; omega) (.slice ca ds.length cc)).setCell (p := ⟨w.heap.size, 1, none⟩) (by simp only; omega) (.int .i64 cop)
  clear z0 z1 f0 f1 Rd Sd
  (try clear hcd)
  have Rd := Ry
  have Sd := Sy
  clear Ry Sy
  generalize (wd.setCell ⟨w.heap.size, 0, none⟩ (.slice ca ds.length cc)).setCell ⟨w.heap.size, 1, none⟩ (.int .i64 cop) = wd at *
  have pd := And.intro (Xd 0 _ rfl) (And.intro (Xd 1 _ rfl) (And.intro (Yd 0 _ rfl) (Yd 1 _ rfl)))
  (try go_wp2_with fail)
  refine hK.out _ _ (by first | with_reducible exact pd | exact p0 | go_keep) (fun hHeld => ?_)
  clear hK K
  try simp only [Act.put, List.setIfInBounds_toArray, List.set_cons_zero, List.set_cons_succ]
  refine wpAnyH_ready (rs := [14]) (by kernel_rfl) (by simp) ?_
  refine AllReadyH.cons (o := { dst := none, op := Op.store 29 (Operand.tmp 3) (Operand.tmp 29), type := 0, pos := "l08_writer.go:133", after := #[{ on := 1, ground := Ground.data }, { on := 13, ground := Ground.chain }, { on := 0, ground := Ground.phase }, { on := 1, ground := Ground.phase }, { on := 2, ground := Ground.textOnly Departure.lateStores }, { on := 3, ground := Ground.textOnly Departure.lateStores }, { on := 4, ground := Ground.textOnly Departure.lateStores }, { on := 5, ground := Ground.textOnly Departure.lateStores }, { on := 6, ground := Ground.textOnly Departure.lateStoresUnsure }, { on := 7, ground := Ground.textOnly Departure.lateStores }, { on := 8, ground := Ground.textOnly Departure.lateStoresUnsure }, { on := 9, ground := Ground.textOnly Departure.lateStores }, { on := 10, ground := Ground.textOnly Departure.lateStoresUnsure }, { on := 11, ground := Ground.textOnly Departure.lateStores }, { on := 12, ground := Ground.textOnly Departure.lateStores }, { on := 13, ground := Ground.phase }], guard := none }) rfl (fun K hK => ?_) AllReadyH.nil
  obtain ⟨z0, f0⟩ := Sd.2 0 _ rfl
  obtain ⟨z1, f1⟩ := Sd.2 1 _ rfl
  go_simp
  have Ry := (Sd.put 0 (.int .i64 m.epoch)).put 1 (.slice a m.words.length c)
  have Sy := (Rd.far (b' := w.heap.size + 1) (o := 0) (by omega) (.int .i64 m.epoch)).far (b' := w.heap.size + 1) (o := 1) (by omega) (.slice a m.words.length c)
  replace Xd := (Xd.farB (b' := w.heap.size + 1) (o := 0) (by omega) (.int .i64 m.epoch)).farB (b' := w.heap.size + 1) (o := 1) (by omega) (.slice a m.words.length c)
  replace Yd := (Yd.farB (b' := w.heap.size + 1) (o := 0) (by omega) (.int .i64 m.epoch)).farB (b' := w.heap.size + 1) (o := 1) (by omega) (.slice a m.words.length c)
  replace Nd := Ns.setFar8 (b' := w.heap.size + 1) (o := 1) (Ns.setFar8 (b' := w.heap.size + 1) (o := 0) Nd (nb _ (by omega)) (.int .i64 m.epoch)) (nb _ (by omega)) (.slice a m.words.length c)
  replace Od := (Od.far (b := w.heap.size + 1) (o := 0) (by omega) (.int .i64 m.epoch)).far (b := w.heap.size + 1) (o := 1) (by omega) (.slice a m.words.length c)
  replace Bd := (Bd.setCell (p := ⟨w.heap.size + 1, 0, none⟩) (by simp only; omega) (.int .i64 m.epoch)).setCell (p := ⟨w.heap.size + 1, 1, none⟩) (by simp only; omega) (.slice a m.words.length c)
  clear z0 z1 f0 f1 Sd Rd
  (try clear hcd)
  have Sd := Ry
  have Rd := Sy
  clear Ry Sy
  generalize (wd.setCell ⟨w.heap.size + 1, 0, none⟩ (.int .i64 m.epoch)).setCell ⟨w.heap.size + 1, 1, none⟩ (.slice a m.words.length c) = wd at *
  have pd := And.intro (Xd 0 _ rfl) (And.intro (Xd 1 _ rfl) (And.intro (Yd 0 _ rfl) (Yd 1 _ rfl)))
  (try go_wp2_with fail)
  refine hK.out _ _ (by first | with_reducible exact pd | exact p0 | go_keep) (fun hHeld => ?_)
  clear hK K
  try simp only [Act.put, List.setIfInBounds_toArray, List.set_cons_zero, List.set_cons_succ]
  refine wpAnyH_take (i := 15) (oi := { dst := some 4, op := Op.assign (Operand.tmp 30), type := 3, pos := "l08_writer.go:133", after := #[{ on := 2, ground := Ground.data }, { on := 14, ground := Ground.chain }, { on := 0, ground := Ground.phase }, { on := 1, ground := Ground.phase }, { on := 2, ground := Ground.phase }, { on := 3, ground := Ground.textOnly Departure.lateStores }, { on := 4, ground := Ground.textOnly Departure.lateStores }, { on := 5, ground := Ground.textOnly Departure.lateStores }, { on := 6, ground := Ground.textOnly Departure.lateStoresUnsure }, { on := 7, ground := Ground.textOnly Departure.lateStores }, { on := 8, ground := Ground.textOnly Departure.lateStoresUnsure }, { on := 9, ground := Ground.textOnly Departure.lateStores }, { on := 10, ground := Ground.textOnly Departure.lateStoresUnsure }, { on := 11, ground := Ground.textOnly Departure.lateStores }, { on := 12, ground := Ground.textOnly Departure.lateStores }, { on := 13, ground := Ground.phase }, { on := 14, ground := Ground.phase }], guard := none }) (v := ?_) rfl (by kernel_rfl) (by kernel_rfl) (by kernel_rfl) (fun _ _ _ h => h) (Or.inl ⟨by rfl, ?_⟩) (by assumption) ?_
  rotate_left 1
  · intro w hSw
    (try dsimp only at hSw)
    first | (go_simp; done) | (go_simp; with_reducible rfl)
  try simp only [Act.put, List.setIfInBounds_toArray, List.set_cons_zero, List.set_cons_succ]
  refine wpAnyH_take (i := 16) (oi := { dst := some 5, op := Op.assign (Operand.tmp 40), type := 3, pos := "l08_writer.go:133", after := #[{ on := 12, ground := Ground.data }, { on := 15, ground := Ground.chain }, { on := 0, ground := Ground.phase }, { on := 1, ground := Ground.phase }, { on := 2, ground := Ground.phase }, { on := 3, ground := Ground.phase }, { on := 4, ground := Ground.phase }, { on := 5, ground := Ground.phase }, { on := 6, ground := Ground.phase }, { on := 7, ground := Ground.phase }, { on := 8, ground := Ground.phase }, { on := 9, ground := Ground.phase }, { on := 10, ground := Ground.phase }, { on := 11, ground := Ground.phase }, { on := 12, ground := Ground.phase }, { on := 13, ground := Ground.phase }, { on := 14, ground := Ground.phase }, { on := 15, ground := Ground.phase }], guard := none }) (v := ?_) rfl (by kernel_rfl) (by kernel_rfl) (by kernel_rfl) (fun _ _ _ h => h) (Or.inl ⟨by rfl, ?_⟩) (by assumption) ?_
  rotate_left 1
  · intro w hSw
    (try dsimp only at hSw)
    first | (go_simp; done) | (go_simp; with_reducible rfl)
  try simp only [Act.put, List.setIfInBounds_toArray, List.set_cons_zero, List.set_cons_succ]
  refine wpAnyH_done (by kernel_rfl) ?_ _
  refine NoPanic.normal ?_
  go_wp2_with fail
  have q0 := (Rd.2 0 _ rfl).1
  have q1 := (Rd.2 1 _ rfl).1
  have r0 := (Sd.2 0 _ rfl).1
  have r1 := (Sd.2 1 _ rfl).1
  refine bodyPost_ret (v := .tuple #[.agg #[.slice ca ds.length cc, .int .i64 cop], .agg #[.int .i64 m.epoch, .slice a m.words.length c], .int .i64 off, .int .i64 ((p2 : Int) - (q2 : Int) / 19)]) (by simp [results, Try.results19, go_sem, q0, q1, r0, r1, t4, t3]) rfl ⟨⟨_, _, ds, cop, m, off, _, rfl, ⟨⟨ca, cc, rfl, Nd⟩, hdl, hdd, ⟨hc0, hc5⟩, ⟨a, c, rfl⟩, ⟨_, rfl, Od.rd⟩, hf4⟩, hok, ⟨by omega, by omega⟩⟩, Bd⟩
end Go.Proofs.Ytjbfpmackocgnaa
