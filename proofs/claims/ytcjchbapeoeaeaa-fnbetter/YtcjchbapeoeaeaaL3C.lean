/- The walk of the law FnBetter. -/
import Derived.Test.YtcjchbapeoeaeaaL3A
import Derived.Test.YtcjchbapeoeaeaaDrawH
import Derived.Test.YtcjchbapeoeaeaaAtB
import Derived.Test.YtcjchbapeoeaeaaBigB
import Derived.Deep.RegionHeld3
import Derived.Deep.DeepCutAuto
namespace Go.Proofs.Ytcjchbapeoeaeaa
open Go.ChangeShapes Go.WideShapes Go.ChangeAt Go.RowKit
set_option linter.unusedVariables false

theorem better_assoc (a b c : Ent) : better (better a b) c = better a (better b c) := by
  unfold better
  by_cases h1 : a.wave < b.wave
  · rw [if_pos h1]
    by_cases h2 : b.wave < c.wave
    · rw [if_pos h2, if_pos (by omega)]
    · rw [if_neg h2, if_pos h1]
  · rw [if_neg h1]
    by_cases h2 : b.wave < c.wave
    · rw [if_pos h2]
    · rw [if_neg h2, if_neg h1, if_neg (by omega)]
theorem better_self (a : Ent) : better a a = a := by unfold better; split <;> rfl
set_option maxHeartbeats 4000000 in
set_option maxRecDepth 100000 in
theorem walkFnBetter (a0 : Option Addr) (len0 cap0 : Nat) (z0 : List Int) (w : World) (w0 : IsRow .u8 w a0 len0 cap0 z0) :
    Calls Try.prog 4 #[.slice a0 len0 cap0] w fun e w' => e = .returned (.bool true) ∧ Below w.heap.size w w' := by
  have hr := row8_of w0
  have hlen := hr.1
  clear w0
  by_cases hbig : 1048576 < len0
  · have CB := dHide (big_yes a0 len0 cap0 hbig hlen)
    go_enter Try.func4, Try.ntmps4
    go_wp2_with fail
    refine (dUnhide CB _).mono ?_
    rintro e w1 ⟨rfl, rfl⟩
    go_wp2
    go_ret
    exact ⟨rfl, Below.refl _ _⟩
  · have CB := dHide (big_no a0 len0 cap0 hbig)
    have CD := dHide (drawBetter_any a0 len0 cap0 w hr)
    go_enter Try.func4, Try.ntmps4
    go_wp2_with fail
    refine (dUnhide CB _).mono ?_
    rintro e w1 ⟨rfl, rfl⟩
    go_wp2_with fail
    refine (dUnhide CD).mono ?_
    rintro e w2 ⟨⟨ea, eb, ⟨fa, sa⟩, ⟨fb, sb⟩, rfl⟩, b2⟩
    have C2 := dHide (fun a b => implBetter_any a b)
    obtain ⟨P, V, H, D⟩ := ea
    obtain ⟨P', V', H', D'⟩ := eb
    have CS := dHide (specBetter_any ⟨P, V, H, D⟩ ⟨P', V', H', D'⟩)
    have CX := dHide (implBetter_any ⟨P, V, H, D⟩ ⟨P', V', H', D'⟩)
    have CI := dHide implBetter_any
    have CA := dHide (implBetter_any ⟨P, V, H, D⟩ ⟨P, V, H, D⟩)
    rw [better_self] at CA
    have hmax : (better ⟨P, V, H, D⟩ ⟨P', V', H', D'⟩ = ⟨P, V, H, D⟩ ∧ V' ≤ V) ∨ (better ⟨P, V, H, D⟩ ⟨P', V', H', D'⟩ = ⟨P', V', H', D'⟩ ∧ V < V') := by
      unfold better
      simp only
      by_cases h : V < V'
      · rw [if_pos h]; exact .inr ⟨rfl, h⟩
      · rw [if_neg h]; exact .inl ⟨rfl, by omega⟩
    have hass := fun c => better_assoc ⟨P, V, H, D⟩ ⟨P', V', H', D'⟩ c
    generalize better ⟨P, V, H, D⟩ ⟨P', V', H', D'⟩ = mX at *
    obtain ⟨PX, VX, HX, DX⟩ := mX
    have HASS := dHide hass
    have HMAX := dHide hmax
    clear hass hmax CB CD C2
    simp only [Ent.val] at *
    go_wp2_with fail
    have ha : ∀ (w : World) o, Below w.heap.size w (w.alloc o) := fun w o => (Below.refl _ _).alloc (Nat.le_refl _) o
    have A2 := Four.new w2 (.int .i64 P) (.int .i64 V) (.bool H) (.string D) 25
    have b2 := belowThen b2 (ha w2 (.cells #[.int .i64 P, .int .i64 V, .bool H, .string D] 25))
    have hsz : (w2.alloc (.cells #[.int .i64 P, .int .i64 V, .bool H, .string D] 25)).heap.size = w2.heap.size + 1 := by simp
    generalize w2.alloc (.cells #[.int .i64 P, .int .i64 V, .bool H, .string D] 25) = w3 at *
    have A3 := A2.kept (ha w3 (.cells #[.int .i64 P', .int .i64 V', .bool H', .string D'] 25))
    have B3 := Four.new w3 (.int .i64 P') (.int .i64 V') (.bool H') (.string D') 25
    have b3 := belowThen b2 (ha w3 (.cells #[.int .i64 P', .int .i64 V', .bool H', .string D'] 25))
    rw [hsz] at B3
    generalize w3.alloc (.cells #[.int .i64 P', .int .i64 V', .bool H', .string D'] 25) = w4 at *
    generalize w2.heap.size + 1 = bB at *
    generalize w2.heap.size = bA at *
    clear hsz A2 b2
    refine (dUnhide CX _).mono ?_
    rintro e w5 ⟨rfl, b5⟩
    have A5 := A3.kept b5
    have B5 := B3.kept b5
    have b5 := belowThen b3 b5
    clear A3 B3 b3
    go_wp2_with fail
    have A6 := dHide (A5.kept (ha w5 (.cells #[.int .i64 PX, .int .i64 VX, .bool HX, .string DX] 25)))
    have B6 := dHide (B5.kept (ha w5 (.cells #[.int .i64 PX, .int .i64 VX, .bool HX, .string DX] 25)))
    have X6 := dHide (Four.new w5 (.int .i64 PX) (.int .i64 VX) (.bool HX) (.string DX) 25)
    have b6 := belowThen b5 (ha w5 (.cells #[.int .i64 PX, .int .i64 VX, .bool HX, .string DX] 25))
    generalize hbx : w5.heap.size = bX at *
    generalize w5.alloc (.cells #[.int .i64 PX, .int .i64 VX, .bool HX, .string DX] 25) = w6 at *
    clear hbx A5 B5 b5 ha
    have HC : Hid (∀ W, Below w6.heap.size w6 W → W.cell? ⟨bA, 0, none⟩ = some (.int .i64 P) ∧ W.cell? ⟨bA, 1, none⟩ = some (.int .i64 V) ∧ W.cell? ⟨bA, 2, none⟩ = some (.bool H) ∧ W.cell? ⟨bA, 3, none⟩ = some (.string D) ∧ W.cell? ⟨bB, 0, none⟩ = some (.int .i64 P') ∧ W.cell? ⟨bB, 1, none⟩ = some (.int .i64 V') ∧ W.cell? ⟨bB, 2, none⟩ = some (.bool H') ∧ W.cell? ⟨bB, 3, none⟩ = some (.string D') ∧ W.cell? ⟨bX, 0, none⟩ = some (.int .i64 PX) ∧ W.cell? ⟨bX, 1, none⟩ = some (.int .i64 VX) ∧ W.cell? ⟨bX, 2, none⟩ = some (.bool HX) ∧ W.cell? ⟨bX, 3, none⟩ = some (.string DX)) := fun W hb => by
      obtain ⟨za0, za1, za2, za3⟩ := (dUnhide A6).kept hb
      obtain ⟨zb0, zb1, zb2, zb3⟩ := (dUnhide B6).kept hb
      obtain ⟨zx0, zx1, zx2, zx3⟩ := (dUnhide X6).kept hb
      exact ⟨za0, za1, za2, za3, zb0, zb1, zb2, zb3, zx0, zx1, zx2, zx3⟩
    have hbr := Below.refl w6.heap.size w6
    obtain ⟨ka0, ka1, ka2, ka3, kb0, kb1, kb2, kb3, kx0, kx1, kx2, kx3⟩ := dUnhide HC w6 hbr
    go_cut [45] (fun sv wx => sv = .bool false ∧ Below w6.heap.size w6 wx)
    case first =>
      rcases dUnhide HMAX with ⟨hx, hle⟩ | ⟨hx, hle⟩
      · cases hx
        have t1 : decide (V < V') = false := decide_eq_false (by omega)
        refine wp_region_noPanic ?_
        refine wp_region_held_drew (S := fun W => W.cell? ⟨bA, 0, none⟩ = some (.int .i64 P) ∧ W.cell? ⟨bA, 1, none⟩ = some (.int .i64 V) ∧ W.cell? ⟨bA, 2, none⟩ = some (.bool H) ∧ W.cell? ⟨bA, 3, none⟩ = some (.string D) ∧ W.cell? ⟨bB, 0, none⟩ = some (.int .i64 P') ∧ W.cell? ⟨bB, 1, none⟩ = some (.int .i64 V') ∧ W.cell? ⟨bB, 2, none⟩ = some (.bool H') ∧ W.cell? ⟨bB, 3, none⟩ = some (.string D') ∧ W.cell? ⟨bX, 0, none⟩ = some (.int .i64 P) ∧ W.cell? ⟨bX, 1, none⟩ = some (.int .i64 V) ∧ W.cell? ⟨bX, 2, none⟩ = some (.bool H) ∧ W.cell? ⟨bX, 3, none⟩ = some (.string D)) (by kernel_rfl) ?_ (fun hHeld => ?_)
        · go_keep
        refine wpAnyH_take (i := 0) (oi := { dst := some 17, op := Op.load 25 (Operand.tmp 5), type := 25, pos := "laws.go:278", after := #[], guard := none }) (v := ?_) rfl (by kernel_rfl) (by kernel_rfl) (by kernel_rfl) (fun _ _ _ h => h) (Or.inl ⟨by rfl, ?_⟩) (by assumption) ?_
        rotate_left 1
        · intro w hSw
          (try dsimp only at hSw)
          first | (go_simp; done) | (go_simp; with_reducible rfl)
        try simp only [Act.put, List.setIfInBounds_toArray, List.set_cons_zero, List.set_cons_succ]
        refine wpAnyH_take (i := 1) (oi := { dst := some 18, op := Op.load 25 (Operand.tmp 3), type := 25, pos := "laws.go:278", after := #[], guard := none }) (v := ?_) rfl (by kernel_rfl) (by kernel_rfl) (by kernel_rfl) (fun _ _ _ h => h) (Or.inl ⟨by rfl, ?_⟩) (by assumption) ?_
        rotate_left 1
        · intro w hSw
          (try dsimp only at hSw)
          first | (go_simp; done) | (go_simp; with_reducible rfl)
        try simp only [Act.put, List.setIfInBounds_toArray, List.set_cons_zero, List.set_cons_succ]
        refine wpAnyH_take (i := 2) (oi := { dst := some 19, op := Op.load 25 (Operand.tmp 4), type := 25, pos := "laws.go:278", after := #[], guard := none }) (v := ?_) rfl (by kernel_rfl) (by kernel_rfl) (by kernel_rfl) (fun _ _ _ h => h) (Or.inl ⟨by rfl, ?_⟩) (by assumption) ?_
        rotate_left 1
        · intro w hSw
          (try dsimp only at hSw)
          first | (go_simp; done) | (go_simp; with_reducible rfl)
        try simp only [Act.put, List.setIfInBounds_toArray, List.set_cons_zero, List.set_cons_succ]
        refine wpAnyH_ready (rs := [3]) (by kernel_rfl) (by simp) ?_
        refine AllReadyH.cons (o := { dst := some 20, op := Op.call { callee := Callee.value (Operand.func 20), args := #[Operand.tmp 18, Operand.tmp 19], argTypes := #[25, 25] }, type := 25, pos := "laws.go:278", after := #[{ on := 1, ground := Ground.data }, { on := 2, ground := Ground.data }], guard := none }) rfl (fun K hK => ?_) AllReadyH.nil
        go_simp
        refine (dUnhide CS _).mono ?_
        rintro e w7 ⟨rfl, b7⟩
        have hb7 := belowThen hbr.drew b7
        obtain ⟨qa0, qa1, qa2, qa3, qb0, qb1, qb2, qb3, qx0, qx1, qx2, qx3⟩ := dUnhide HC w7 hb7
        (try go_wp2_with fail)
        refine hK.out _ _ ?_ (fun hHeld => ?_)
        · go_keep
        clear hK K
        try simp only [Act.put, List.setIfInBounds_toArray, List.set_cons_zero, List.set_cons_succ]
        refine wpAnyH_take (i := 4) (oi := { dst := some 21, op := Op.binOp BinOp.neq 25 (Operand.tmp 17) (Operand.tmp 20) 25, type := 4, pos := "laws.go:278", after := #[{ on := 0, ground := Ground.data }, { on := 3, ground := Ground.data }], guard := none }) (v := ?_) rfl (by kernel_rfl) (by kernel_rfl) (by kernel_rfl) (fun _ _ _ h => h) (Or.inl ⟨by rfl, ?_⟩) (by assumption) ?_
        rotate_left 1
        · intro w hSw
          (try dsimp only at hSw)
          first | (go_simp; done) | (go_simp; with_reducible rfl)
        try simp only [Act.put, List.setIfInBounds_toArray, List.set_cons_zero, List.set_cons_succ]
        refine wpAnyH_take (i := 5) (oi := { dst := some 22, op := Op.move (Operand.tmp 21), type := 4, pos := "laws.go:278", after := #[{ on := 4, ground := Ground.data }, { on := 3, ground := Ground.chain }], guard := none }) (v := ?_) rfl (by kernel_rfl) (by kernel_rfl) (by kernel_rfl) (fun _ _ _ h => h) (Or.inl ⟨by rfl, ?_⟩) (by assumption) ?_
        rotate_left 1
        · intro w hSw
          (try dsimp only at hSw)
          first | (go_simp; done) | (go_simp; with_reducible rfl)
        try simp only [Act.put, List.setIfInBounds_toArray, List.set_cons_zero, List.set_cons_succ]
        refine wpAnyH_take (i := 6) (oi := { dst := some 23, op := Op.load 25 (Operand.tmp 5), type := 25, pos := "laws.go:278", after := #[{ on := 5, ground := Ground.guard }], guard := some (5, false) }) (v := ?_) rfl (by kernel_rfl) (by kernel_rfl) (by kernel_rfl) (fun _ _ _ h => h) (Or.inl ⟨by rfl, ?_⟩) (by assumption) ?_
        rotate_left 1
        · intro w hSw
          (try dsimp only at hSw)
          first | (go_simp; done) | (go_simp; with_reducible rfl)
        try simp only [Act.put, List.setIfInBounds_toArray, List.set_cons_zero, List.set_cons_succ]
        refine wpAnyH_take (i := 7) (oi := { dst := some 24, op := Op.load 25 (Operand.tmp 3), type := 25, pos := "laws.go:278", after := #[{ on := 5, ground := Ground.guard }], guard := some (5, false) }) (v := ?_) rfl (by kernel_rfl) (by kernel_rfl) (by kernel_rfl) (fun _ _ _ h => h) (Or.inl ⟨by rfl, ?_⟩) (by assumption) ?_
        rotate_left 1
        · intro w hSw
          (try dsimp only at hSw)
          first | (go_simp; done) | (go_simp; with_reducible rfl)
        try simp only [Act.put, List.setIfInBounds_toArray, List.set_cons_zero, List.set_cons_succ]
        refine wpAnyH_take (i := 8) (oi := { dst := some 25, op := Op.binOp BinOp.neq 25 (Operand.tmp 23) (Operand.tmp 24) 25, type := 4, pos := "laws.go:278", after := #[{ on := 6, ground := Ground.data }, { on := 7, ground := Ground.data }, { on := 5, ground := Ground.guard }], guard := some (5, false) }) (v := ?_) rfl (by kernel_rfl) (by kernel_rfl) (by kernel_rfl) (fun _ _ _ h => h) (Or.inl ⟨by rfl, ?_⟩) (by assumption) ?_
        rotate_left 1
        · intro w hSw
          (try dsimp only at hSw)
          first | (go_simp; done) | (go_simp; with_reducible rfl)
        try simp only [Act.put, List.setIfInBounds_toArray, List.set_cons_zero, List.set_cons_succ]
        refine wpAnyH_take (i := 9) (oi := { dst := some 26, op := Op.move (Operand.tmp 25), type := 4, pos := "laws.go:278", after := #[{ on := 8, ground := Ground.data }, { on := 5, ground := Ground.chain }, { on := 5, ground := Ground.guard }], guard := some (5, false) }) (v := ?_) rfl (by kernel_rfl) (by kernel_rfl) (by kernel_rfl) (fun _ _ _ h => h) (Or.inl ⟨by rfl, ?_⟩) (by assumption) ?_
        rotate_left 1
        · intro w hSw
          (try dsimp only at hSw)
          first | (go_simp; done) | (go_simp; with_reducible rfl)
        try simp only [Act.put, List.setIfInBounds_toArray, List.set_cons_zero, List.set_cons_succ]
        refine wpAnyH_take (i := 10) (oi := { dst := some 27, op := Op.load 25 (Operand.tmp 5), type := 25, pos := "laws.go:278", after := #[{ on := 9, ground := Ground.guard }], guard := some (9, true) }) (v := undef) rfl (by kernel_rfl) (by kernel_rfl) (by kernel_rfl) (fun _ _ _ h => h) (Or.inr ⟨by rfl, rfl⟩) (by assumption) ?_
        try simp only [Act.put, List.setIfInBounds_toArray, List.set_cons_zero, List.set_cons_succ]
        refine wpAnyH_take (i := 11) (oi := { dst := some 28, op := Op.load 25 (Operand.tmp 4), type := 25, pos := "laws.go:278", after := #[{ on := 9, ground := Ground.guard }], guard := some (9, true) }) (v := undef) rfl (by kernel_rfl) (by kernel_rfl) (by kernel_rfl) (fun _ _ _ h => h) (Or.inr ⟨by rfl, rfl⟩) (by assumption) ?_
        try simp only [Act.put, List.setIfInBounds_toArray, List.set_cons_zero, List.set_cons_succ]
        refine wpAnyH_take (i := 12) (oi := { dst := some 29, op := Op.binOp BinOp.neq 25 (Operand.tmp 27) (Operand.tmp 28) 25, type := 4, pos := "laws.go:278", after := #[{ on := 10, ground := Ground.data }, { on := 11, ground := Ground.data }, { on := 9, ground := Ground.guard }], guard := some (9, true) }) (v := undef) rfl (by kernel_rfl) (by kernel_rfl) (by kernel_rfl) (fun _ _ _ h => h) (Or.inr ⟨by rfl, rfl⟩) (by assumption) ?_
        try simp only [Act.put, List.setIfInBounds_toArray, List.set_cons_zero, List.set_cons_succ]
        refine wpAnyH_take (i := 13) (oi := { dst := some 30, op := Op.pick (Operand.tmp 26) (Operand.tmp 29) (Operand.const (Value.bool false)), type := 4, pos := "laws.go:278", after := #[{ on := 9, ground := Ground.data }, { on := 12, ground := Ground.data }, { on := 5, ground := Ground.guard }], guard := some (5, false) }) (v := ?_) rfl (by kernel_rfl) (by kernel_rfl) (by kernel_rfl) (fun _ _ _ h => h) (Or.inl ⟨by rfl, ?_⟩) (by assumption) ?_
        rotate_left 1
        · intro w hSw
          (try dsimp only at hSw)
          first | (go_simp; done) | (go_simp; with_reducible rfl)
        try simp only [Act.put, List.setIfInBounds_toArray, List.set_cons_zero, List.set_cons_succ]
        refine wpAnyH_take (i := 14) (oi := { dst := some 31, op := Op.pick (Operand.tmp 22) (Operand.const (Value.bool true)) (Operand.tmp 30), type := 4, pos := "laws.go:278", after := #[{ on := 5, ground := Ground.data }, { on := 13, ground := Ground.data }], guard := none }) (v := ?_) rfl (by kernel_rfl) (by kernel_rfl) (by kernel_rfl) (fun _ _ _ h => h) (Or.inl ⟨by rfl, ?_⟩) (by assumption) ?_
        rotate_left 1
        · intro w hSw
          (try dsimp only at hSw)
          first | (go_simp; done) | (go_simp; with_reducible rfl)
        try simp only [Act.put, List.setIfInBounds_toArray, List.set_cons_zero, List.set_cons_succ]
        refine wpAnyH_take (i := 15) (oi := { dst := some 32, op := Op.move (Operand.tmp 31), type := 4, pos := "laws.go:278", after := #[{ on := 14, ground := Ground.data }, { on := 9, ground := Ground.chain }], guard := none }) (v := ?_) rfl (by kernel_rfl) (by kernel_rfl) (by kernel_rfl) (fun _ _ _ h => h) (Or.inl ⟨by rfl, ?_⟩) (by assumption) ?_
        rotate_left 1
        · intro w hSw
          (try dsimp only at hSw)
          first | (go_simp; done) | (go_simp; with_reducible rfl)
        try simp only [Act.put, List.setIfInBounds_toArray, List.set_cons_zero, List.set_cons_succ]
        refine wpAnyH_take (i := 16) (oi := { dst := some 33, op := Op.fieldAddr 25 (Operand.tmp 3) 1, type := 0, pos := "laws.go:278", after := #[{ on := 15, ground := Ground.guard }], guard := some (15, false) }) (v := ?_) rfl (by kernel_rfl) (by kernel_rfl) (by kernel_rfl) (fun _ _ _ h => h) (Or.inl ⟨by rfl, ?_⟩) (by assumption) ?_
        rotate_left 1
        · intro w hSw
          (try dsimp only at hSw)
          first | (go_simp; done) | (go_simp; with_reducible rfl)
        try simp only [Act.put, List.setIfInBounds_toArray, List.set_cons_zero, List.set_cons_succ]
        refine wpAnyH_take (i := 17) (oi := { dst := some 34, op := Op.load 3 (Operand.tmp 33), type := 3, pos := "laws.go:278", after := #[{ on := 16, ground := Ground.data }, { on := 15, ground := Ground.guard }], guard := some (15, false) }) (v := ?_) rfl (by kernel_rfl) (by kernel_rfl) (by kernel_rfl) (fun _ _ _ h => h) (Or.inl ⟨by rfl, ?_⟩) (by assumption) ?_
        rotate_left 1
        · intro w hSw
          (try dsimp only at hSw)
          first | (go_simp; done) | (go_simp; with_reducible rfl)
        try simp only [Act.put, List.setIfInBounds_toArray, List.set_cons_zero, List.set_cons_succ]
        refine wpAnyH_take (i := 18) (oi := { dst := some 35, op := Op.fieldAddr 25 (Operand.tmp 5) 1, type := 0, pos := "laws.go:278", after := #[{ on := 15, ground := Ground.guard }], guard := some (15, false) }) (v := ?_) rfl (by kernel_rfl) (by kernel_rfl) (by kernel_rfl) (fun _ _ _ h => h) (Or.inl ⟨by rfl, ?_⟩) (by assumption) ?_
        rotate_left 1
        · intro w hSw
          (try dsimp only at hSw)
          first | (go_simp; done) | (go_simp; with_reducible rfl)
        try simp only [Act.put, List.setIfInBounds_toArray, List.set_cons_zero, List.set_cons_succ]
        refine wpAnyH_take (i := 19) (oi := { dst := some 36, op := Op.load 3 (Operand.tmp 35), type := 3, pos := "laws.go:278", after := #[{ on := 18, ground := Ground.data }, { on := 15, ground := Ground.guard }], guard := some (15, false) }) (v := ?_) rfl (by kernel_rfl) (by kernel_rfl) (by kernel_rfl) (fun _ _ _ h => h) (Or.inl ⟨by rfl, ?_⟩) (by assumption) ?_
        rotate_left 1
        · intro w hSw
          (try dsimp only at hSw)
          first | (go_simp; done) | (go_simp; with_reducible rfl)
        try simp only [Act.put, List.setIfInBounds_toArray, List.set_cons_zero, List.set_cons_succ]
        refine wpAnyH_take (i := 20) (oi := { dst := some 37, op := Op.binOp BinOp.gtr 3 (Operand.tmp 34) (Operand.tmp 36) 3, type := 4, pos := "laws.go:278", after := #[{ on := 17, ground := Ground.data }, { on := 19, ground := Ground.data }, { on := 15, ground := Ground.guard }], guard := some (15, false) }) (v := ?_) rfl (by kernel_rfl) (by kernel_rfl) (by kernel_rfl) (fun _ _ _ h => h) (Or.inl ⟨by rfl, ?_⟩) (by assumption) ?_
        rotate_left 1
        · intro w hSw
          (try dsimp only at hSw)
          first | (go_simp; done) | (go_simp; with_reducible rfl)
        try simp only [Act.put, List.setIfInBounds_toArray, List.set_cons_zero, List.set_cons_succ]
        refine wpAnyH_take (i := 21) (oi := { dst := some 38, op := Op.pick (Operand.tmp 32) (Operand.const (Value.bool true)) (Operand.tmp 37), type := 4, pos := "laws.go:278", after := #[{ on := 15, ground := Ground.data }, { on := 20, ground := Ground.data }], guard := none }) (v := ?_) rfl (by kernel_rfl) (by kernel_rfl) (by kernel_rfl) (fun _ _ _ h => h) (Or.inl ⟨by rfl, ?_⟩) (by assumption) ?_
        rotate_left 1
        · intro w hSw
          (try dsimp only at hSw)
          first | (go_simp; done) | (go_simp; with_reducible rfl)
        try simp only [Act.put, List.setIfInBounds_toArray, List.set_cons_zero, List.set_cons_succ]
        refine wpAnyH_take (i := 22) (oi := { dst := some 39, op := Op.move (Operand.tmp 38), type := 4, pos := "laws.go:278", after := #[{ on := 21, ground := Ground.data }, { on := 15, ground := Ground.chain }], guard := none }) (v := ?_) rfl (by kernel_rfl) (by kernel_rfl) (by kernel_rfl) (fun _ _ _ h => h) (Or.inl ⟨by rfl, ?_⟩) (by assumption) ?_
        rotate_left 1
        · intro w hSw
          (try dsimp only at hSw)
          first | (go_simp; done) | (go_simp; with_reducible rfl)
        try simp only [Act.put, List.setIfInBounds_toArray, List.set_cons_zero, List.set_cons_succ]
        refine wpAnyH_take (i := 23) (oi := { dst := some 40, op := Op.fieldAddr 25 (Operand.tmp 4) 1, type := 0, pos := "laws.go:278", after := #[{ on := 22, ground := Ground.guard }], guard := some (22, false) }) (v := ?_) rfl (by kernel_rfl) (by kernel_rfl) (by kernel_rfl) (fun _ _ _ h => h) (Or.inl ⟨by rfl, ?_⟩) (by assumption) ?_
        rotate_left 1
        · intro w hSw
          (try dsimp only at hSw)
          first | (go_simp; done) | (go_simp; with_reducible rfl)
        try simp only [Act.put, List.setIfInBounds_toArray, List.set_cons_zero, List.set_cons_succ]
        refine wpAnyH_take (i := 24) (oi := { dst := some 41, op := Op.load 3 (Operand.tmp 40), type := 3, pos := "laws.go:278", after := #[{ on := 23, ground := Ground.data }, { on := 22, ground := Ground.guard }], guard := some (22, false) }) (v := ?_) rfl (by kernel_rfl) (by kernel_rfl) (by kernel_rfl) (fun _ _ _ h => h) (Or.inl ⟨by rfl, ?_⟩) (by assumption) ?_
        rotate_left 1
        · intro w hSw
          (try dsimp only at hSw)
          first | (go_simp; done) | (go_simp; with_reducible rfl)
        try simp only [Act.put, List.setIfInBounds_toArray, List.set_cons_zero, List.set_cons_succ]
        refine wpAnyH_take (i := 25) (oi := { dst := some 42, op := Op.fieldAddr 25 (Operand.tmp 5) 1, type := 0, pos := "laws.go:278", after := #[{ on := 22, ground := Ground.guard }], guard := some (22, false) }) (v := ?_) rfl (by kernel_rfl) (by kernel_rfl) (by kernel_rfl) (fun _ _ _ h => h) (Or.inl ⟨by rfl, ?_⟩) (by assumption) ?_
        rotate_left 1
        · intro w hSw
          (try dsimp only at hSw)
          first | (go_simp; done) | (go_simp; with_reducible rfl)
        try simp only [Act.put, List.setIfInBounds_toArray, List.set_cons_zero, List.set_cons_succ]
        refine wpAnyH_take (i := 26) (oi := { dst := some 43, op := Op.load 3 (Operand.tmp 42), type := 3, pos := "laws.go:278", after := #[{ on := 25, ground := Ground.data }, { on := 22, ground := Ground.guard }], guard := some (22, false) }) (v := ?_) rfl (by kernel_rfl) (by kernel_rfl) (by kernel_rfl) (fun _ _ _ h => h) (Or.inl ⟨by rfl, ?_⟩) (by assumption) ?_
        rotate_left 1
        · intro w hSw
          (try dsimp only at hSw)
          first | (go_simp; done) | (go_simp; with_reducible rfl)
        try simp only [Act.put, List.setIfInBounds_toArray, List.set_cons_zero, List.set_cons_succ]
        refine wpAnyH_take (i := 27) (oi := { dst := some 44, op := Op.binOp BinOp.gtr 3 (Operand.tmp 41) (Operand.tmp 43) 3, type := 4, pos := "laws.go:278", after := #[{ on := 24, ground := Ground.data }, { on := 26, ground := Ground.data }, { on := 22, ground := Ground.guard }], guard := some (22, false) }) (v := ?_) rfl (by kernel_rfl) (by kernel_rfl) (by kernel_rfl) (fun _ _ _ h => h) (Or.inl ⟨by rfl, ?_⟩) (by assumption) ?_
        rotate_left 1
        · intro w hSw
          (try dsimp only at hSw)
          first | (go_simp; done) | (go_simp; with_reducible rfl)
        try simp only [Act.put, List.setIfInBounds_toArray, List.set_cons_zero, List.set_cons_succ]
        refine wpAnyH_take (i := 28) (oi := { dst := some 45, op := Op.pick (Operand.tmp 39) (Operand.const (Value.bool true)) (Operand.tmp 44), type := 4, pos := "laws.go:278", after := #[{ on := 22, ground := Ground.data }, { on := 27, ground := Ground.data }], guard := none }) (v := ?_) rfl (by kernel_rfl) (by kernel_rfl) (by kernel_rfl) (fun _ _ _ h => h) (Or.inl ⟨by rfl, ?_⟩) (by assumption) ?_
        rotate_left 1
        · intro w hSw
          (try dsimp only at hSw)
          first | (go_simp; done) | (go_simp; with_reducible rfl)
        try simp only [Act.put, List.setIfInBounds_toArray, List.set_cons_zero, List.set_cons_succ]
        refine wpAnyH_done (by kernel_rfl) ?_ _
        refine NoPanic.normal ?_
        go_wp2_with fail
        go_meet
        case rel => exact ⟨rfl, hb7⟩
      · cases hx
        have t1 : decide (V' < V) = false := decide_eq_false (by omega)
        have t2 : (V' == V) = false := by simp; omega
        have t3 : ¬ V' = V := by omega
        go_region_held3 (fun W => W.cell? ⟨bA, 0, none⟩ = some (.int .i64 P) ∧ W.cell? ⟨bA, 1, none⟩ = some (.int .i64 V) ∧ W.cell? ⟨bA, 2, none⟩ = some (.bool H) ∧ W.cell? ⟨bA, 3, none⟩ = some (.string D) ∧ W.cell? ⟨bB, 0, none⟩ = some (.int .i64 P') ∧ W.cell? ⟨bB, 1, none⟩ = some (.int .i64 V') ∧ W.cell? ⟨bB, 2, none⟩ = some (.bool H') ∧ W.cell? ⟨bB, 3, none⟩ = some (.string D') ∧ W.cell? ⟨bX, 0, none⟩ = some (.int .i64 P') ∧ W.cell? ⟨bX, 1, none⟩ = some (.int .i64 V') ∧ W.cell? ⟨bX, 2, none⟩ = some (.bool H') ∧ W.cell? ⟨bX, 3, none⟩ = some (.string D')) (go_keep)
          (first
            | (go_at_call 20; refine (dUnhide CS _).mono ?_; rintro e w7 ⟨rfl, b7⟩; have hb7 := belowThen hbr.drew b7; obtain ⟨qa0, qa1, qa2, qa3, qb0, qb1, qb2, qb3, qx0, qx1, qx2, qx3⟩ := dUnhide HC w7 hb7))
        all_goals
          go_wp2_with fail
          go_meet
          case rel => exact ⟨rfl, hb7⟩
    case rest =>
      obtain ⟨rfl, bc⟩ := hcut
      have A7 := dHide ((dUnhide A6).kept bc)
      have B7 := dHide ((dUnhide B6).kept bc)
      have X7 := dHide ((dUnhide X6).kept bc)
      have b7 := belowThen b6 bc
      clear A6 B6 X6 bc HC hbr ka0 ka1 ka2 ka3 kb0 kb1 kb2 kb3 kx0 kx1 kx2 kx3 HMAX CS CX b6
      generalize hwc : wc = w7 at *
      clear hwc
      obtain ⟨k0, k1, k2, k3⟩ := id (dUnhide A7)
      go_wp2_with fail
      go_cut [6] (fun sv wx => ∃ (bC : Nat) (U : Int), (0 ≤ U ∧ U ≤ 4) ∧ sv = .pointer (some ⟨bC, 0, none⟩) ∧ Four wx bC (.int .i64 P) (.int .i64 U) (.bool false) (.string ⟨#[]⟩) ∧ Below w7.heap.size w7 wx)
      case first =>
        have hbr := Below.refl w7.heap.size w7
        have hbd := hbr.drew
        go_region_held3 (fun W => W.cell? ⟨bA, 0, none⟩ = some (.int .i64 P)) (go_keep)
          (first
            | (go_at_call 15; refine (at_any a0 len0 cap0 1 (by omega) _ (hr.below (belowThen b7 (by first | exact hbd | exact hbd.alloc hbd.size _))) (by omega)).mono ?_; rintro e w8 ⟨⟨y, y0, y1, rfl⟩, rfl⟩))
        all_goals
          have hU : 0 ≤ y.tmod 5 ∧ y.tmod 5 ≤ 4 := by rw [Int.tmod_eq_emod_of_nonneg (by omega)]; omega
          go_wp2_with fail
          go_meet
          case rel => exact ⟨_, _, hU, rfl, (Four.new _ _ _ _ _ _).kept (Below.refl _ _).drew, (hbr.alloc (Nat.le_refl _) _).drew⟩
      case rest =>
        obtain ⟨bC, U, ⟨u0, u1⟩, rfl, F8, bc⟩ := hcut
        have A8 := dHide ((dUnhide A7).kept bc)
        have B8 := dHide ((dUnhide B7).kept bc)
        have X8 := dHide ((dUnhide X7).kept bc)
        have C8 := dHide F8
        have b8 := belowThen b7 bc
        clear A7 B7 X7 bc F8 b7 k0 k1 k2 k3
        generalize hwc : wc = w8 at *
        clear hwc
        have HC : Hid (∀ W, Below w8.heap.size w8 W → W.cell? ⟨bA, 0, none⟩ = some (.int .i64 P) ∧ W.cell? ⟨bA, 1, none⟩ = some (.int .i64 V) ∧ W.cell? ⟨bA, 2, none⟩ = some (.bool H) ∧ W.cell? ⟨bA, 3, none⟩ = some (.string D) ∧ W.cell? ⟨bB, 0, none⟩ = some (.int .i64 P') ∧ W.cell? ⟨bB, 1, none⟩ = some (.int .i64 V') ∧ W.cell? ⟨bB, 2, none⟩ = some (.bool H') ∧ W.cell? ⟨bB, 3, none⟩ = some (.string D') ∧ W.cell? ⟨bX, 0, none⟩ = some (.int .i64 PX) ∧ W.cell? ⟨bX, 1, none⟩ = some (.int .i64 VX) ∧ W.cell? ⟨bX, 2, none⟩ = some (.bool HX) ∧ W.cell? ⟨bX, 3, none⟩ = some (.string DX) ∧ W.cell? ⟨bC, 0, none⟩ = some (.int .i64 P) ∧ W.cell? ⟨bC, 1, none⟩ = some (.int .i64 U) ∧ W.cell? ⟨bC, 2, none⟩ = some (.bool false) ∧ W.cell? ⟨bC, 3, none⟩ = some (.string ⟨#[]⟩)) := fun W hb => by
          obtain ⟨za0, za1, za2, za3⟩ := (dUnhide A8).kept hb
          obtain ⟨zb0, zb1, zb2, zb3⟩ := (dUnhide B8).kept hb
          obtain ⟨zx0, zx1, zx2, zx3⟩ := (dUnhide X8).kept hb
          obtain ⟨zc0, zc1, zc2, zc3⟩ := (dUnhide C8).kept hb
          exact ⟨za0, za1, za2, za3, zb0, zb1, zb2, zb3, zx0, zx1, zx2, zx3, zc0, zc1, zc2, zc3⟩
        have hbr := Below.refl w8.heap.size w8
        obtain ⟨ka0, ka1, ka2, ka3, kb0, kb1, kb2, kb3, kx0, kx1, kx2, kx3, kc0, kc1, kc2, kc3⟩ := dUnhide HC w8 hbr
        clear A8 B8 X8 C8
        by_cases g1 : U = V
        · have g1' : (U == V) = true := by simp [g1]
          go_wp2_with fail
          go_region_held3 (fun W => W.cell? ⟨bA, 0, none⟩ = some (.int .i64 P) ∧ W.cell? ⟨bA, 1, none⟩ = some (.int .i64 V) ∧ W.cell? ⟨bA, 2, none⟩ = some (.bool H) ∧ W.cell? ⟨bA, 3, none⟩ = some (.string D)) (go_keep)
            (first
              | (go_at_call 19; refine (dUnhide CA _).mono ?_; rintro e w9 ⟨rfl, b9⟩; have hb9 := belowThen hbr.drew b9; obtain ⟨qa0, qa1, qa2, qa3, qb0, qb1, qb2, qb3, qx0, qx1, qx2, qx3, qc0, qc1, qc2, qc3⟩ := dUnhide HC w9 hb9))
          all_goals
            go_wp2
            go_ret
            exact ⟨rfl, belowThen b8 hb9⟩
        · have g1' : (U == V) = false := by simp [g1]
          by_cases g2 : U = V'
          · have g2' : (U == V') = true := by simp [g2]
            go_wp2_with fail
            go_region_held3 (fun W => W.cell? ⟨bA, 0, none⟩ = some (.int .i64 P) ∧ W.cell? ⟨bA, 1, none⟩ = some (.int .i64 V) ∧ W.cell? ⟨bA, 2, none⟩ = some (.bool H) ∧ W.cell? ⟨bA, 3, none⟩ = some (.string D)) (go_keep)
              (first
                | (go_at_call 19; refine (dUnhide CA _).mono ?_; rintro e w9 ⟨rfl, b9⟩; have hb9 := belowThen hbr.drew b9; obtain ⟨qa0, qa1, qa2, qa3, qb0, qb1, qb2, qb3, qx0, qx1, qx2, qx3, qc0, qc1, qc2, qc3⟩ := dUnhide HC w9 hb9))
            all_goals
              go_wp2
              go_ret
              exact ⟨rfl, belowThen b8 hb9⟩
          · have g2' : (U == V') = false := by simp [g2]
            by_cases g3 : V = V'
            · subst g3
              go_wp2_with fail
              go_region_held3 (fun W => W.cell? ⟨bA, 0, none⟩ = some (.int .i64 P) ∧ W.cell? ⟨bA, 1, none⟩ = some (.int .i64 V) ∧ W.cell? ⟨bA, 2, none⟩ = some (.bool H) ∧ W.cell? ⟨bA, 3, none⟩ = some (.string D)) (go_keep)
                (first
                  | (go_at_call 19; refine (dUnhide CA _).mono ?_; rintro e w9 ⟨rfl, b9⟩; have hb9 := belowThen hbr.drew b9; obtain ⟨qa0, qa1, qa2, qa3, qb0, qb1, qb2, qb3, qx0, qx1, qx2, qx3, qc0, qc1, qc2, qc3⟩ := dUnhide HC w9 hb9))
              all_goals
                go_wp2
                go_ret
                exact ⟨rfl, belowThen b8 hb9⟩
            · have g3' : (V == V') = false := by simp [g3]
              have D1 := dHide (implBetter_any ⟨PX, VX, HX, DX⟩ ⟨P, U, false, ⟨#[]⟩⟩)
              have D2 := dHide (implBetter_any ⟨P', V', H', D'⟩ ⟨P, U, false, ⟨#[]⟩⟩)
              have hA := dUnhide HASS ⟨P, U, false, ⟨#[]⟩⟩
              generalize better ⟨PX, VX, HX, DX⟩ ⟨P, U, false, ⟨#[]⟩⟩ = m1 at D1 hA
              generalize better ⟨P', V', H', D'⟩ ⟨P, U, false, ⟨#[]⟩⟩ = m2 at D2 hA
              have D3 := dHide (implBetter_any ⟨P, V, H, D⟩ m2)
              generalize better ⟨P, V, H, D⟩ m2 = m3 at D3 hA
              subst hA
              obtain ⟨p2, w2', h2', d2'⟩ := m2
              obtain ⟨p1, w1', h1', d1'⟩ := m1
              simp only [Ent.val] at D1 D2 D3
              clear HASS CI CA
              go_wp2_with fail
              go_region_held3 (fun W => W.cell? ⟨bA, 0, none⟩ = some (.int .i64 P) ∧ W.cell? ⟨bA, 1, none⟩ = some (.int .i64 V) ∧ W.cell? ⟨bA, 2, none⟩ = some (.bool H) ∧ W.cell? ⟨bA, 3, none⟩ = some (.string D) ∧ W.cell? ⟨bB, 0, none⟩ = some (.int .i64 P') ∧ W.cell? ⟨bB, 1, none⟩ = some (.int .i64 V') ∧ W.cell? ⟨bB, 2, none⟩ = some (.bool H') ∧ W.cell? ⟨bB, 3, none⟩ = some (.string D') ∧ W.cell? ⟨bX, 0, none⟩ = some (.int .i64 PX) ∧ W.cell? ⟨bX, 1, none⟩ = some (.int .i64 VX) ∧ W.cell? ⟨bX, 2, none⟩ = some (.bool HX) ∧ W.cell? ⟨bX, 3, none⟩ = some (.string DX) ∧ W.cell? ⟨bC, 0, none⟩ = some (.int .i64 P) ∧ W.cell? ⟨bC, 1, none⟩ = some (.int .i64 U) ∧ W.cell? ⟨bC, 2, none⟩ = some (.bool false) ∧ W.cell? ⟨bC, 3, none⟩ = some (.string ⟨#[]⟩)) (go_keep)
                (first
                  | (go_at_call_of 19 (Value.string DX); refine (dUnhide D1 _).mono ?_; rintro e w9 ⟨rfl, b9⟩; have hb9 := belowThen hbr.drew b9; obtain ⟨qa0, qa1, qa2, qa3, qb0, qb1, qb2, qb3, qx0, qx1, qx2, qx3, qc0, qc1, qc2, qc3⟩ := dUnhide HC w9 hb9)
                  | (go_at_call_of 19 (Value.string D'); refine (dUnhide D2 _).mono ?_; rintro e w10 ⟨rfl, b10⟩; have hb10 := belowThen hb9 b10; obtain ⟨qa0, qa1, qa2, qa3, qb0, qb1, qb2, qb3, qx0, qx1, qx2, qx3, qc0, qc1, qc2, qc3⟩ := dUnhide HC w10 hb10)
                  | (go_at_call_of 19 (Value.string D); refine (dUnhide D3 _).mono ?_; rintro e w11 ⟨rfl, b11⟩; have hb11 := belowThen hb10 b11; obtain ⟨qa0, qa1, qa2, qa3, qb0, qb1, qb2, qb3, qx0, qx1, qx2, qx3, qc0, qc1, qc2, qc3⟩ := dUnhide HC w11 hb11))
              all_goals
                go_wp2
                go_ret
                exact ⟨rfl, belowThen b8 hb11⟩
end Go.Proofs.Ytcjchbapeoeaeaa
