/- The walk of the law FnMendEntry (printed by tools/mkl9e.py). -/
import Derived.Test.YtjbfpmackocgnaaMdF
import Derived.Test.YtjbfpmackocgnaaQ9N
import Derived.Test.YtjbfpmackocgnaaQ9E
import Derived.Test.YtjbfpmackocgnaaBigB
import Derived.Test.YtjbfpmackocgnaaGaA
namespace Go.Proofs.Ytjbfpmackocgnaa
open Go.ChangeShapes Go.WideShapes Go.ChangeAt Go.RowKit
set_option linter.unusedVariables false
set_option linter.unusedSimpArgs false

theorem field_by (w : World) : (Instr.field 47 (.agg #[.int .i64 5, .int .i64 3, .slice none 0 0, .slice none 0 0, .bool false, .slice none 0 0]) 0).run Try.prog w = .ok (.int .i64 5) w := by kernel_rfl
theorem outE_pl (m : Mn) (x : Int) : (outE m x).pl = x := by unfold outE; split <;> rfl
theorem outE_wave (m : Mn) (x : Int) : (outE m x).wave = m.bye := by unfold outE; split <;> rfl
set_option maxHeartbeats 8000000 in
set_option maxRecDepth 100000 in
theorem walkFnMendEntry (a0 : Option Addr) (len0 cap0 : Nat) (z0 : List Int) (w : World) (w0 : IsRow .u8 w a0 len0 cap0 z0) :
    Calls Try.prog 5 #[.slice a0 len0 cap0] w fun e w' => e = .returned (.bool true) ∧ Below w.heap.size w w' := by
  have hr := row8_of w0
  have hlen := hr.1
  clear w0
  by_cases hbig : 1048576 < len0
  · have CB := dHide (big_yes a0 len0 cap0 hbig hlen)
    go_enter Try.func5, Try.ntmps5
    go_wp2_with fail
    refine (dUnhide CB _).mono ?_
    rintro e w1 ⟨rfl, rfl⟩
    go_wp2
    go_ret
    exact ⟨rfl, Below.refl _ _⟩
  have CB := dHide (big_no a0 len0 cap0 hbig)
  have CN := dHide (implNew_any 3 5 w)
  have HR := dHide hr
  have ba : ∀ (w : World) o, Below w.heap.size w (w.alloc o) := fun w o => (Below.refl _ _).alloc (Nat.le_refl _) o
  clear hbig hr
  go_enter Try.func5, Try.ntmps5
  go_wp2_with fail
  refine (dUnhide CB _).mono ?_
  rintro e w1 ⟨rfl, rfl⟩
  clear CB
  go_wp2_with fail
  refine (dUnhide CN).mono ?_
  rintro e w1 ⟨rfl, B0⟩
  have CD := dHide (drawMendEntry_any a0 len0 cap0 w1 (Row8.below (dUnhide HR) B0))
  clear CN
  have hfb := field_by
  go_wp2_with fail
  refine (dUnhide CD).mono ?_
  rintro e w2 ⟨m, q, off, rfl, R1, fit, ⟨ho1, ho2⟩, b1⟩
  have B1 := belowThen B0 b1
  have F := dHide fit
  clear hfb
  have bA := ba w2 (.cells #[.int .i64 m.bye, .int .i64 m.epoch, .slice q.sa m.sealed.length q.sc, .slice q.ea m.seen.length q.ec, .bool m.planned, .slice q.wa m.wrote.length q.wc] 47)
  have X2 := Bx.new w2 [.int .i64 m.bye, .int .i64 m.epoch, .slice q.sa m.sealed.length q.sc, .slice q.ea m.seen.length q.ec, .bool m.planned, .slice q.wa m.wrote.length q.wc] 47
  have R2 := R1.below bA
  have B2 := belowThen B1 bA
  clear CD b1 B0 HR R1 B1 bA fit
  go_wp2_with fail
  generalize hbx : w2.heap.size = bx at *
  generalize w2.alloc (.cells #[.int .i64 m.bye, .int .i64 m.epoch, .slice q.sa m.sealed.length q.sc, .slice q.ea m.seen.length q.ec, .bool m.planned, .slice q.wa m.wrote.length q.wc] 47) = w3 at *
  clear hbx
  have ok1 : okInt off := ⟨by omega, by omega⟩
  have oke : okInt m.epoch := (dUnhide F).1.2.1
  have C1 := dHide (implMendEntry_any _ m off w3 R2 ok1 oke)
  obtain ⟨x0, x1, x2, x3, x4, x5⟩ : _ ∧ _ ∧ _ ∧ _ ∧ _ ∧ _ := ⟨X2 0 _ rfl, X2 1 _ rfl, X2 2 _ rfl, X2 3 _ rfl, X2 4 _ rfl, X2 5 _ rfl⟩
  go_wp2_with fail
  refine (dUnhide C1).mono ?_
  rintro e w4 ⟨rfl, b4⟩
  clear C1 x0 x1 x2 x3 x4 x5
  have hE : Hid ((entOk9 m off ∧ (entR m off).2 = true ∧ (entR m off).1 = outE m (4294967296 * m.epoch + off)) ∨ (¬ entOk9 m off ∧ (entR m off).2 = false)) := by
    by_cases h : entOk9 m off
    · exact .inl ⟨h, by rw [entR_yes h], by rw [entR_yes h]⟩
    · exact .inr ⟨h, by rw [entR_no h]⟩
  have CS : Hid (∀ W, RdMend (.agg #[.int .i64 m.bye, .int .i64 m.epoch, .slice q.sa m.sealed.length q.sc, .slice q.ea m.seen.length q.ec, .bool m.planned, .slice q.wa m.wrote.length q.wc]) m W → Calls Try.prog 28 #[.agg #[.int .i64 m.bye, .int .i64 m.epoch, .slice q.sa m.sealed.length q.sc, .slice q.ea m.seen.length q.ec, .bool m.planned, .slice q.wa m.wrote.length q.wc], .int .i64 off] W fun e w' => e = .returned (.tuple #[(entR m off).1.val, .bool (entR m off).2]) ∧ Below W.heap.size W w') := fun W h => specMendEntry_any _ m off W h ok1 oke
  generalize entR m off = r at *
  obtain ⟨e, s⟩ := r
  have bE := ba w4 (.cells #[.int .i64 e.pl, .int .i64 e.wave, .bool e.hole, .string e.data] 52)
  have X4 := (X2.below b4).below bE
  have R4 := (R2.below b4).below bE
  have Y4 := Bx.new w4 [.int .i64 e.pl, .int .i64 e.wave, .bool e.hole, .string e.data] 52
  have B4 := belowThen (belowThen B2 b4) bE
  have CS1 := dHide (dUnhide CS _ R4)
  obtain ⟨x0, x1, x2, x3, x4, x5⟩ : _ ∧ _ ∧ _ ∧ _ ∧ _ ∧ _ := ⟨X4 0 _ rfl, X4 1 _ rfl, X4 2 _ rfl, X4 3 _ rfl, X4 4 _ rfl, X4 5 _ rfl⟩
  clear X2 R2 B2 b4 bE
  simp only [Ent.val] at *
  go_wp2_with fail
  generalize hby : w4.heap.size = bY at *
  generalize w4.alloc (.cells #[.int .i64 e.pl, .int .i64 e.wave, .bool e.hole, .string e.data] 52) = w5 at *
  clear hby
  refine (dUnhide CS1).mono ?_
  rintro e' w6 ⟨rfl, b6⟩
  clear CS CS1 x0 x1 x2 x3 x4 x5
  have bE := ba w6 (.cells #[.int .i64 e.pl, .int .i64 e.wave, .bool e.hole, .string e.data] 52)
  have X6 := (X4.below b6).below bE
  have Y6 := (Y4.below b6).below bE
  have V6 := Bx.new w6 [.int .i64 e.pl, .int .i64 e.wave, .bool e.hole, .string e.data] 52
  have B6 := belowThen (belowThen B4 b6) bE
  clear X4 R4 Y4 B4 b6 bE
  go_upto_region 8 with fail
  generalize hbv : w6.heap.size = bV at *
  generalize w6.alloc (.cells #[.int .i64 e.pl, .int .i64 e.wave, .bool e.hole, .string e.data] 52) = w7 at *
  clear hbv
  have hs0 : (s != s) = false := by simp
  obtain ⟨y0, y1, y2, y3⟩ : _ ∧ _ ∧ _ ∧ _ := ⟨Y6 0 _ rfl, Y6 1 _ rfl, Y6 2 _ rfl, Y6 3 _ rfl⟩
  obtain ⟨v0, v1, v2, v3⟩ : _ ∧ _ ∧ _ ∧ _ := ⟨V6 0 _ rfl, V6 1 _ rfl, V6 2 _ rfl, V6 3 _ rfl⟩
  obtain hL | hR := dUnhide hE
  · clear hE
    obtain ⟨⟨hpl, ⟨he1, he2⟩, ⟨hf1, hf2⟩, hf3⟩, rfl, he⟩ := hL
    have epl : e.pl = 4294967296 * m.epoch + off := by rw [he, outE_pl]
    have ewv : e.wave = m.bye := by rw [he, outE_wave]
    have hip : isPl e.pl := by rw [epl]; exact ⟨by omega, by omega, by omega, by omega, by omega⟩
    have CE : Hid (∀ W, Calls Try.prog 29 #[.int .i64 e.pl] W fun e' w' => e' = .returned (.int .i64 m.epoch) ∧ Below W.heap.size W w') := fun W => by
      have h := implEpoch_yes e.pl hip W
      rwa [show e.pl / 4294967296 = m.epoch by rw [epl]; omega] at h
    have CO : Hid (∀ W, Calls Try.prog 30 #[.int .i64 e.pl] W fun e' w' => e' = .returned (.int .i64 off) ∧ Below W.heap.size W w') := fun W => by
      have h := implOff_yes e.pl hip W
      rwa [show e.pl % 4294967296 = off by rw [epl]; omega] at h
    have PP : Hid (∀ W, Below w7.heap.size w7 W → W.cell? ⟨bx, 0, none⟩ = some (.int .i64 m.bye) ∧ W.cell? ⟨bx, 1, none⟩ = some (.int .i64 m.epoch) ∧ W.cell? ⟨bx, 4, none⟩ = some (.bool true) ∧ W.cell? ⟨bY, 0, none⟩ = some (.int .i64 e.pl) ∧ W.cell? ⟨bY, 1, none⟩ = some (.int .i64 m.bye)) := fun W hb => ⟨X6.below hb 0 _ rfl, X6.below hb 1 _ rfl, by simpa [hpl] using X6.below hb 4 _ rfl, Y6.below hb 0 _ rfl, by simpa [ewv] using Y6.below hb 1 _ rfl⟩
    clear X6 Y6 V6 he epl ewv hip
    go_upto_region 12 with fail
    clear y0 y1 y2 y3 v0 v1 v2 v3
    have bdr : Below w7.heap.size w7 w7.drew := (Below.refl _ _).drew
    refine wp_region_noPanic ?_
    refine wp_region_held_drew (S := fun W => W.cell? ⟨bx, 0, none⟩ = some (.int .i64 m.bye) ∧ W.cell? ⟨bx, 1, none⟩ = some (.int .i64 m.epoch) ∧ W.cell? ⟨bx, 4, none⟩ = some (.bool true) ∧ W.cell? ⟨bY, 0, none⟩ = some (.int .i64 e.pl) ∧ W.cell? ⟨bY, 1, none⟩ = some (.int .i64 m.bye)) (by kernel_rfl) (by first | with_reducible exact dUnhide PP _ hwd | exact dUnhide PP _ (Below.refl _ _) | exact dUnhide PP _ bdr | go_keep) (fun hHeld => ?_)
    have hwd := bdr
    clear bdr
    generalize w7.drew = wd at *
    refine wpAnyH_take (i := 0) (oi := { dst := some 69, op := Op.fieldAddr 47 (Operand.tmp 3) 4, type := 0, pos := "laws.go:780", after := #[], guard := none }) (v := ?_) rfl (by kernel_rfl) (by kernel_rfl) (by kernel_rfl) (fun _ _ _ h => h) (Or.inl ⟨by rfl, ?_⟩) (by assumption) ?_
    rotate_left 1
    · intro w hSw
      (try dsimp only at hSw)
      first | (go_simp; done) | (go_simp; with_reducible rfl)
    try simp only [Act.put, List.setIfInBounds_toArray, List.set_cons_zero, List.set_cons_succ]
    refine wpAnyH_take (i := 1) (oi := { dst := some 70, op := Op.load 4 (Operand.tmp 69), type := 4, pos := "laws.go:780", after := #[⟨0, .data⟩], guard := none }) (v := ?_) rfl (by kernel_rfl) (by kernel_rfl) (by kernel_rfl) (fun _ _ _ h => h) (Or.inl ⟨by rfl, ?_⟩) (by assumption) ?_
    rotate_left 1
    · intro w hSw
      (try dsimp only at hSw)
      first | (go_simp; done) | (go_simp; with_reducible rfl)
    try simp only [Act.put, List.setIfInBounds_toArray, List.set_cons_zero, List.set_cons_succ]
    refine wpAnyH_take (i := 2) (oi := { dst := some 71, op := Op.move (Operand.tmp 70), type := 4, pos := "laws.go:780", after := #[⟨1, .data⟩], guard := none }) (v := ?_) rfl (by kernel_rfl) (by kernel_rfl) (by kernel_rfl) (fun _ _ _ h => h) (Or.inl ⟨by rfl, ?_⟩) (by assumption) ?_
    rotate_left 1
    · intro w hSw
      (try dsimp only at hSw)
      first | (go_simp; done) | (go_simp; with_reducible rfl)
    try simp only [Act.put, List.setIfInBounds_toArray, List.set_cons_zero, List.set_cons_succ]
    refine wpAnyH_take (i := 3) (oi := { dst := some 72, op := Op.fieldAddr 52 (Operand.tmp 5) 0, type := 0, pos := "laws.go:780", after := #[⟨2, .guard⟩], guard := some (2, true) }) (v := ?_) rfl (by kernel_rfl) (by kernel_rfl) (by kernel_rfl) (fun _ _ _ h => h) (Or.inl ⟨by rfl, ?_⟩) (by assumption) ?_
    rotate_left 1
    · intro w hSw
      (try dsimp only at hSw)
      first | (go_simp; done) | (go_simp; with_reducible rfl)
    try simp only [Act.put, List.setIfInBounds_toArray, List.set_cons_zero, List.set_cons_succ]
    refine wpAnyH_take (i := 4) (oi := { dst := some 73, op := Op.load 3 (Operand.tmp 72), type := 3, pos := "laws.go:780", after := #[⟨3, .data⟩, ⟨2, .guard⟩], guard := some (2, true) }) (v := ?_) rfl (by kernel_rfl) (by kernel_rfl) (by kernel_rfl) (fun _ _ _ h => h) (Or.inl ⟨by rfl, ?_⟩) (by assumption) ?_
    rotate_left 1
    · intro w hSw
      (try dsimp only at hSw)
      first | (go_simp; done) | (go_simp; with_reducible rfl)
    try simp only [Act.put, List.setIfInBounds_toArray, List.set_cons_zero, List.set_cons_succ]
    refine wpAnyH_take (i := 6) (oi := { dst := some 75, op := Op.fieldAddr 47 (Operand.tmp 3) 1, type := 0, pos := "laws.go:780", after := #[⟨2, .guard⟩], guard := some (2, true) }) (v := ?_) rfl (by kernel_rfl) (by kernel_rfl) (by kernel_rfl) (fun _ _ _ h => h) (Or.inl ⟨by rfl, ?_⟩) (by assumption) ?_
    rotate_left 1
    · intro w hSw
      (try dsimp only at hSw)
      first | (go_simp; done) | (go_simp; with_reducible rfl)
    try simp only [Act.put, List.setIfInBounds_toArray, List.set_cons_zero, List.set_cons_succ]
    refine wpAnyH_take (i := 7) (oi := { dst := some 76, op := Op.load 3 (Operand.tmp 75), type := 3, pos := "laws.go:780", after := #[⟨6, .data⟩, ⟨2, .guard⟩], guard := some (2, true) }) (v := ?_) rfl (by kernel_rfl) (by kernel_rfl) (by kernel_rfl) (fun _ _ _ h => h) (Or.inl ⟨by rfl, ?_⟩) (by assumption) ?_
    rotate_left 1
    · intro w hSw
      (try dsimp only at hSw)
      first | (go_simp; done) | (go_simp; with_reducible rfl)
    try simp only [Act.put, List.setIfInBounds_toArray, List.set_cons_zero, List.set_cons_succ]
    refine wpAnyH_ready (rs := [5]) (by kernel_rfl) (by simp) ?_
    refine AllReadyH.cons (o := { dst := some 74, op := Op.call { callee := Callee.value (Operand.func 29), args := #[Operand.tmp 73], argTypes := #[3] }, type := 3, pos := "laws.go:780", after := #[⟨4, .data⟩, ⟨2, .chain⟩, ⟨2, .guard⟩], guard := some (2, true) }) rfl (fun K hK => ?_) AllReadyH.nil
    go_simp
    refine (dUnhide CE wd).mono ?_
    rintro e' wd' ⟨rfl, b9⟩
    replace hwd := belowThen hwd b9
    clear b9
    generalize wd' = wd at *
    (try go_wp2_with fail)
    refine hK.out _ _ (by first | with_reducible exact dUnhide PP _ hwd | exact dUnhide PP _ (Below.refl _ _) | exact dUnhide PP _ bdr | go_keep) (fun hHeld => ?_)
    clear hK K
    try simp only [Act.put, List.setIfInBounds_toArray, List.set_cons_zero, List.set_cons_succ]
    refine wpAnyH_take (i := 8) (oi := { dst := some 77, op := Op.binOp BinOp.eql 3 (Operand.tmp 74) (Operand.tmp 76) 3, type := 4, pos := "laws.go:780", after := #[⟨5, .data⟩, ⟨7, .data⟩, ⟨2, .guard⟩], guard := some (2, true) }) (v := ?_) rfl (by kernel_rfl) (by kernel_rfl) (by kernel_rfl) (fun _ _ _ h => h) (Or.inl ⟨by rfl, ?_⟩) (by assumption) ?_
    rotate_left 1
    · intro w hSw
      (try dsimp only at hSw)
      first | (go_simp; done) | (go_simp; with_reducible rfl)
    try simp only [Act.put, List.setIfInBounds_toArray, List.set_cons_zero, List.set_cons_succ]
    refine wpAnyH_take (i := 9) (oi := { dst := some 78, op := Op.pick (Operand.tmp 71) (Operand.tmp 77) (Operand.const (Value.bool false)), type := 4, pos := "laws.go:780", after := #[⟨2, .data⟩, ⟨8, .data⟩], guard := none }) (v := ?_) rfl (by kernel_rfl) (by kernel_rfl) (by kernel_rfl) (fun _ _ _ h => h) (Or.inl ⟨by rfl, ?_⟩) (by assumption) ?_
    rotate_left 1
    · intro w hSw
      (try dsimp only at hSw)
      first | (go_simp; done) | (go_simp; with_reducible rfl)
    try simp only [Act.put, List.setIfInBounds_toArray, List.set_cons_zero, List.set_cons_succ]
    refine wpAnyH_take (i := 10) (oi := { dst := some 79, op := Op.move (Operand.tmp 78), type := 4, pos := "laws.go:780", after := #[⟨9, .data⟩, ⟨5, .chain⟩], guard := none }) (v := ?_) rfl (by kernel_rfl) (by kernel_rfl) (by kernel_rfl) (fun _ _ _ h => h) (Or.inl ⟨by rfl, ?_⟩) (by assumption) ?_
    rotate_left 1
    · intro w hSw
      (try dsimp only at hSw)
      first | (go_simp; done) | (go_simp; with_reducible rfl)
    try simp only [Act.put, List.setIfInBounds_toArray, List.set_cons_zero, List.set_cons_succ]
    refine wpAnyH_take (i := 11) (oi := { dst := some 80, op := Op.fieldAddr 52 (Operand.tmp 5) 0, type := 0, pos := "laws.go:780", after := #[⟨10, .guard⟩], guard := some (10, true) }) (v := ?_) rfl (by kernel_rfl) (by kernel_rfl) (by kernel_rfl) (fun _ _ _ h => h) (Or.inl ⟨by rfl, ?_⟩) (by assumption) ?_
    rotate_left 1
    · intro w hSw
      (try dsimp only at hSw)
      first | (go_simp; done) | (go_simp; with_reducible rfl)
    try simp only [Act.put, List.setIfInBounds_toArray, List.set_cons_zero, List.set_cons_succ]
    refine wpAnyH_take (i := 12) (oi := { dst := some 81, op := Op.load 3 (Operand.tmp 80), type := 3, pos := "laws.go:780", after := #[⟨11, .data⟩, ⟨10, .guard⟩], guard := some (10, true) }) (v := ?_) rfl (by kernel_rfl) (by kernel_rfl) (by kernel_rfl) (fun _ _ _ h => h) (Or.inl ⟨by rfl, ?_⟩) (by assumption) ?_
    rotate_left 1
    · intro w hSw
      (try dsimp only at hSw)
      first | (go_simp; done) | (go_simp; with_reducible rfl)
    try simp only [Act.put, List.setIfInBounds_toArray, List.set_cons_zero, List.set_cons_succ]
    refine wpAnyH_take (i := 14) (oi := { dst := some 83, op := Op.move (Operand.tmp 4), type := 3, pos := "laws.go:780", after := #[⟨10, .guard⟩], guard := some (10, true) }) (v := ?_) rfl (by kernel_rfl) (by kernel_rfl) (by kernel_rfl) (fun _ _ _ h => h) (Or.inl ⟨by rfl, ?_⟩) (by assumption) ?_
    rotate_left 1
    · intro w hSw
      (try dsimp only at hSw)
      first | (go_simp; done) | (go_simp; with_reducible rfl)
    try simp only [Act.put, List.setIfInBounds_toArray, List.set_cons_zero, List.set_cons_succ]
    refine wpAnyH_ready (rs := [13]) (by kernel_rfl) (by simp) ?_
    refine AllReadyH.cons (o := { dst := some 82, op := Op.call { callee := Callee.value (Operand.func 30), args := #[Operand.tmp 81], argTypes := #[3] }, type := 3, pos := "laws.go:780", after := #[⟨12, .data⟩, ⟨10, .chain⟩, ⟨10, .guard⟩], guard := some (10, true) }) rfl (fun K hK => ?_) AllReadyH.nil
    go_simp
    refine (dUnhide CO wd).mono ?_
    rintro e' wd' ⟨rfl, b9⟩
    replace hwd := belowThen hwd b9
    clear b9
    generalize wd' = wd at *
    (try go_wp2_with fail)
    refine hK.out _ _ (by first | with_reducible exact dUnhide PP _ hwd | exact dUnhide PP _ (Below.refl _ _) | exact dUnhide PP _ bdr | go_keep) (fun hHeld => ?_)
    clear hK K
    try simp only [Act.put, List.setIfInBounds_toArray, List.set_cons_zero, List.set_cons_succ]
    refine wpAnyH_take (i := 15) (oi := { dst := some 84, op := Op.binOp BinOp.eql 3 (Operand.tmp 82) (Operand.tmp 83) 3, type := 4, pos := "laws.go:780", after := #[⟨13, .data⟩, ⟨14, .data⟩, ⟨10, .guard⟩], guard := some (10, true) }) (v := ?_) rfl (by kernel_rfl) (by kernel_rfl) (by kernel_rfl) (fun _ _ _ h => h) (Or.inl ⟨by rfl, ?_⟩) (by assumption) ?_
    rotate_left 1
    · intro w hSw
      (try dsimp only at hSw)
      first | (go_simp; done) | (go_simp; with_reducible rfl)
    try simp only [Act.put, List.setIfInBounds_toArray, List.set_cons_zero, List.set_cons_succ]
    refine wpAnyH_take (i := 16) (oi := { dst := some 85, op := Op.pick (Operand.tmp 79) (Operand.tmp 84) (Operand.const (Value.bool false)), type := 4, pos := "laws.go:780", after := #[⟨10, .data⟩, ⟨15, .data⟩], guard := none }) (v := ?_) rfl (by kernel_rfl) (by kernel_rfl) (by kernel_rfl) (fun _ _ _ h => h) (Or.inl ⟨by rfl, ?_⟩) (by assumption) ?_
    rotate_left 1
    · intro w hSw
      (try dsimp only at hSw)
      first | (go_simp; done) | (go_simp; with_reducible rfl)
    try simp only [Act.put, List.setIfInBounds_toArray, List.set_cons_zero, List.set_cons_succ]
    refine wpAnyH_take (i := 17) (oi := { dst := some 86, op := Op.move (Operand.tmp 85), type := 4, pos := "laws.go:780", after := #[⟨16, .data⟩, ⟨13, .chain⟩], guard := none }) (v := ?_) rfl (by kernel_rfl) (by kernel_rfl) (by kernel_rfl) (fun _ _ _ h => h) (Or.inl ⟨by rfl, ?_⟩) (by assumption) ?_
    rotate_left 1
    · intro w hSw
      (try dsimp only at hSw)
      first | (go_simp; done) | (go_simp; with_reducible rfl)
    try simp only [Act.put, List.setIfInBounds_toArray, List.set_cons_zero, List.set_cons_succ]
    refine wpAnyH_take (i := 18) (oi := { dst := some 87, op := Op.fieldAddr 52 (Operand.tmp 5) 1, type := 0, pos := "laws.go:780", after := #[⟨17, .guard⟩], guard := some (17, true) }) (v := ?_) rfl (by kernel_rfl) (by kernel_rfl) (by kernel_rfl) (fun _ _ _ h => h) (Or.inl ⟨by rfl, ?_⟩) (by assumption) ?_
    rotate_left 1
    · intro w hSw
      (try dsimp only at hSw)
      first | (go_simp; done) | (go_simp; with_reducible rfl)
    try simp only [Act.put, List.setIfInBounds_toArray, List.set_cons_zero, List.set_cons_succ]
    refine wpAnyH_take (i := 19) (oi := { dst := some 88, op := Op.load 3 (Operand.tmp 87), type := 3, pos := "laws.go:780", after := #[⟨18, .data⟩, ⟨17, .guard⟩], guard := some (17, true) }) (v := ?_) rfl (by kernel_rfl) (by kernel_rfl) (by kernel_rfl) (fun _ _ _ h => h) (Or.inl ⟨by rfl, ?_⟩) (by assumption) ?_
    rotate_left 1
    · intro w hSw
      (try dsimp only at hSw)
      first | (go_simp; done) | (go_simp; with_reducible rfl)
    try simp only [Act.put, List.setIfInBounds_toArray, List.set_cons_zero, List.set_cons_succ]
    refine wpAnyH_take (i := 20) (oi := { dst := some 89, op := Op.fieldAddr 47 (Operand.tmp 3) 0, type := 0, pos := "laws.go:780", after := #[⟨17, .guard⟩], guard := some (17, true) }) (v := ?_) rfl (by kernel_rfl) (by kernel_rfl) (by kernel_rfl) (fun _ _ _ h => h) (Or.inl ⟨by rfl, ?_⟩) (by assumption) ?_
    rotate_left 1
    · intro w hSw
      (try dsimp only at hSw)
      first | (go_simp; done) | (go_simp; with_reducible rfl)
    try simp only [Act.put, List.setIfInBounds_toArray, List.set_cons_zero, List.set_cons_succ]
    refine wpAnyH_take (i := 21) (oi := { dst := some 90, op := Op.load 3 (Operand.tmp 89), type := 3, pos := "laws.go:780", after := #[⟨20, .data⟩, ⟨17, .guard⟩], guard := some (17, true) }) (v := ?_) rfl (by kernel_rfl) (by kernel_rfl) (by kernel_rfl) (fun _ _ _ h => h) (Or.inl ⟨by rfl, ?_⟩) (by assumption) ?_
    rotate_left 1
    · intro w hSw
      (try dsimp only at hSw)
      first | (go_simp; done) | (go_simp; with_reducible rfl)
    try simp only [Act.put, List.setIfInBounds_toArray, List.set_cons_zero, List.set_cons_succ]
    refine wpAnyH_take (i := 22) (oi := { dst := some 91, op := Op.binOp BinOp.eql 3 (Operand.tmp 88) (Operand.tmp 90) 3, type := 4, pos := "laws.go:780", after := #[⟨19, .data⟩, ⟨21, .data⟩, ⟨17, .guard⟩], guard := some (17, true) }) (v := ?_) rfl (by kernel_rfl) (by kernel_rfl) (by kernel_rfl) (fun _ _ _ h => h) (Or.inl ⟨by rfl, ?_⟩) (by assumption) ?_
    rotate_left 1
    · intro w hSw
      (try dsimp only at hSw)
      first | (go_simp; done) | (go_simp; with_reducible rfl)
    try simp only [Act.put, List.setIfInBounds_toArray, List.set_cons_zero, List.set_cons_succ]
    refine wpAnyH_take (i := 23) (oi := { dst := some 92, op := Op.pick (Operand.tmp 86) (Operand.tmp 91) (Operand.const (Value.bool false)), type := 4, pos := "laws.go:780", after := #[⟨17, .data⟩, ⟨22, .data⟩], guard := none }) (v := ?_) rfl (by kernel_rfl) (by kernel_rfl) (by kernel_rfl) (fun _ _ _ h => h) (Or.inl ⟨by rfl, ?_⟩) (by assumption) ?_
    rotate_left 1
    · intro w hSw
      (try dsimp only at hSw)
      first | (go_simp; done) | (go_simp; with_reducible rfl)
    try simp only [Act.put, List.setIfInBounds_toArray, List.set_cons_zero, List.set_cons_succ]
    refine wpAnyH_take (i := 24) (oi := { dst := some 2, op := Op.assign (Operand.tmp 92), type := 4, pos := "laws.go:780", after := #[⟨23, .data⟩, ⟨17, .chain⟩, ⟨0, .phase⟩, ⟨1, .phase⟩, ⟨2, .phase⟩, ⟨3, .phase⟩, ⟨4, .phase⟩, ⟨5, .phase⟩, ⟨6, .phase⟩, ⟨7, .phase⟩, ⟨8, .phase⟩, ⟨9, .phase⟩, ⟨10, .phase⟩, ⟨11, .phase⟩, ⟨12, .phase⟩, ⟨13, .phase⟩, ⟨14, .phase⟩, ⟨15, .phase⟩, ⟨16, .phase⟩, ⟨17, .phase⟩, ⟨18, .phase⟩, ⟨19, .phase⟩, ⟨20, .phase⟩, ⟨21, .phase⟩, ⟨22, .phase⟩, ⟨23, .phase⟩], guard := none }) (v := ?_) rfl (by kernel_rfl) (by kernel_rfl) (by kernel_rfl) (fun _ _ _ h => h) (Or.inl ⟨by rfl, ?_⟩) (by assumption) ?_
    rotate_left 1
    · intro w hSw
      (try dsimp only at hSw)
      first | (go_simp; done) | (go_simp; with_reducible rfl)
    try simp only [Act.put, List.setIfInBounds_toArray, List.set_cons_zero, List.set_cons_succ]
    refine wpAnyH_done (by kernel_rfl) ?_ _
    refine NoPanic.normal ?_
    go_wp2_with fail
    go_ret
    exact ⟨by first | rfl | simp, belowThen B6 hwd⟩
  · clear hE
    obtain ⟨hno, rfl⟩ := hR
    obtain ⟨x0, x1, x2, x3, x4, x5⟩ : _ ∧ _ ∧ _ ∧ _ ∧ _ ∧ _ := ⟨X6 0 _ rfl, X6 1 _ rfl, X6 2 _ rfl, X6 3 _ rfl, X6 4 _ rfl, X6 5 _ rfl⟩
    clear X6 Y6 V6
    cases hpl : m.planned with
    | false =>
      rw [hpl] at x4
      go_wp2
      go_ret
      exact ⟨by first | rfl | simp, B6⟩
    | true =>
      rw [hpl] at x4
      by_cases h0 : off < 1
      · go_wp2
        go_ret
        exact ⟨by first | rfl | simp, B6⟩
      by_cases h1 : (m.wrote.length : Int) < off
      · go_wp2
        go_ret
        exact ⟨by first | rfl | simp, B6⟩
      by_cases h2 : 60 < off
      · go_wp2
        go_ret
        exact ⟨by first | rfl | simp, B6⟩
      by_cases h3 : m.epoch < 1
      · go_wp2
        go_ret
        exact ⟨by first | rfl | simp, B6⟩
      by_cases h4 : 30 < m.epoch
      · go_wp2
        go_ret
        exact ⟨by first | rfl | simp, B6⟩
      exact absurd ⟨hpl, ⟨by omega, by omega⟩, ⟨by omega, by omega⟩, by omega⟩ hno
end Go.Proofs.Ytjbfpmackocgnaa
