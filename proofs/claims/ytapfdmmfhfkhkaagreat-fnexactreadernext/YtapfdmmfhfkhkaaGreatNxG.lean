/- Readers: what a reader comes to, as impl tells it: eventOf, behind, bestAt. -/
import Derived.Test.YtapfdmmfhfkhkaaGreatNxE
import Derived.Test.YtapfdmmfhfkhkaaGreatGbP
import Derived.Deep.RegionHeld3
import Derived.Deep.DeepCutAuto
namespace Go.Proofs.YtapfdmmfhfkhkaaGreat
open Go.ChangeShapes Go.WideShapes Go.ChangeAt Go.RowKit
set_option linter.unusedVariables false
set_option linter.unusedSimpArgs false
set_option maxRecDepth 100000

/-- What a reader comes to. -/
inductive Hap where
  | data (ep off : Int) (d : ByteArray)
  | hole (ep off : Int)
  | loss (ep off : Int)
  | era (n : Int)
  | trim (ep off : Int)
def Hap.val : Hap → Value
  | .data e o d => .iface 237 (.agg #[.int .i64 e, .int .i64 o, .string d])
  | .hole e o => .iface 235 (.agg #[.int .i64 e, .int .i64 o])
  | .loss e o => .iface 234 (.agg #[.int .i64 e, .int .i64 o])
  | .era n => .iface 192 (.agg #[.int .i64 n])
  | .trim e o => .iface 190 (.agg #[.int .i64 e, .int .i64 o])
def Hap.ev : Hap → Ev
  | .data e o d => ⟨1, e * 4294967296 + o, d⟩
  | .hole e o => ⟨2, e * 4294967296 + o, ⟨#[]⟩⟩
  | .loss e o => ⟨3, e * 4294967296 + o, ⟨#[]⟩⟩
  | .era n => ⟨4, n, ⟨#[]⟩⟩
  | .trim e o => ⟨5, e * 4294967296 + o, ⟨#[]⟩⟩
def Hap.on : Hap → Int × Int
  | .data e o _ => (e, o + 1)
  | .hole e o => (e, o + 1)
  | .loss e o => (e, o + 1)
  | .era n => (n, 1)
  | .trim e o => (e, o + 1)
def Hap.fits : Hap → Prop
  | .data e o _ => (0 ≤ e ∧ e ≤ 40) ∧ (0 ≤ o ∧ o ≤ 70)
  | .hole e o => (0 ≤ e ∧ e ≤ 40) ∧ (0 ≤ o ∧ o ≤ 70)
  | .loss e o => (0 ≤ e ∧ e ≤ 40) ∧ (0 ≤ o ∧ o ≤ 70)
  | .era n => 0 ≤ n ∧ n ≤ 40
  | .trim e o => (0 ≤ e ∧ e ≤ 40) ∧ (0 ≤ o ∧ o ≤ 70)
theorem number_wide (a b : Int) (h1 : 0 ≤ a) (h2 : a ≤ 40) (h3 : 0 ≤ b) (h4 : b ≤ 70) (w : World) :
    Calls Tryz.prog 154 #[.agg #[.int .i64 a, .int .i64 b]] w fun e w' => e = .returned (.int .i64 (a * 4294967296 + b)) ∧ Below w.heap.size w w' := by
  go_enter Tryz.func154, Tryz.ntmps154
  go_wp2
  go_ret
  exact ⟨rfl, (Below.refl _ _).alloc (Nat.le_refl _) _⟩
set_option maxHeartbeats 4000000 in
theorem eventOf_data (e o : Int) (d : ByteArray) (hf : (Hap.data e o d).fits) (w : World) : Calls Tryz.prog 171 #[(Hap.data e o d).val] w fun e' w' => e' = .returned (Hap.data e o d).ev.val ∧ Below w.heap.size w w' := by
  obtain ⟨⟨h1, h2⟩, h3, h4⟩ := hf
  show Calls Tryz.prog 171 #[.iface 237 (.agg #[.int .i64 e, .int .i64 o, .string d])] w fun e' w' => e' = .returned (.agg #[.int .i64 1, .int .i64 (e * 4294967296 + o), .string d]) ∧ Below w.heap.size w w'
  have ta0 : ∀ w, (Instr.typeAssert (.iface 237 (.agg #[.int .i64 e, .int .i64 o, .string d])) 136 237 true).run Tryz.prog w = .ok (.tuple #[.agg #[.int .i64 e, .int .i64 o, .string d], .bool true]) w := fun w => by kernel_rfl
  have ba : ∀ (w : World) o, Below w.heap.size w (w.alloc o) := fun w o => (Below.refl _ _).alloc (Nat.le_refl _) o
  have CN := dHide fun W => number_wide e o h1 h2 h3 h4 W
  have Y0 := (BxZ.new (B := w.heap.size) w [.int .i64 0, .int .i64 0, .string ⟨#[]⟩] 64 (Nat.le_refl _)).below (ba _ (.cells #[.int .i64 e, .int .i64 o, .string d] 237))
  have B0 := belowThen (ba w (.cells #[.int .i64 0, .int .i64 0, .string ⟨#[]⟩] 64)) (ba _ (.cells #[.int .i64 e, .int .i64 o, .string d] 237))
  have hsz : Hid (((w.alloc (.cells #[.int .i64 0, .int .i64 0, .string ⟨#[]⟩] 64)).alloc (.cells #[.int .i64 e, .int .i64 o, .string d] 237)).heap.size = w.heap.size + 2) := by simp [Hid]
  have X0 := Bx.new (w.alloc (.cells #[.int .i64 0, .int .i64 0, .string ⟨#[]⟩] 64)) [.int .i64 e, .int .i64 o, .string d] 237
  rw [show (w.alloc (.cells #[.int .i64 0, .int .i64 0, .string ⟨#[]⟩] 64)).heap.size = w.heap.size + 1 from by simp] at X0
  clear h1 h2 h3 h4
  go_enter Tryz.func171, Tryz.ntmps171
  go_upto_region 4 with fail
  generalize ((w.alloc (.cells #[.int .i64 0, .int .i64 0, .string ⟨#[]⟩] 64)).alloc (.cells #[.int .i64 e, .int .i64 o, .string d] 237)) = w2 at *
  have PX : Hid (∀ W, Below w2.heap.size w2 W → W.cell? ⟨w.heap.size + 1, 0, none⟩ = some (.int .i64 e) ∧ W.cell? ⟨w.heap.size + 1, 1, none⟩ = some (.int .i64 o) ∧ W.cell? ⟨w.heap.size + 1, 2, none⟩ = some (.string d)) := fun W hW => ⟨X0.below hW 0 _ rfl, X0.below hW 1 _ rfl, X0.below hW 2 _ rfl⟩
  have PZ : Hid (∀ W, Below w2.heap.size w2 W → BxZ W w.heap.size w.heap.size [.int .i64 0, .int .i64 0, .string ⟨#[]⟩]) := fun W hW => Y0.below hW
  have bd : Below w2.heap.size w2 w2.drew := (Below.refl _ _).drew
  have hne : w.heap.size + 1 ≠ w.heap.size := by omega
  clear X0 Y0
  go_wp2_with fail
  go_region_held3 (fun W => W.cell? ⟨w.heap.size + 1, 0, none⟩ = some (.int .i64 e) ∧ W.cell? ⟨w.heap.size + 1, 1, none⟩ = some (.int .i64 o) ∧ W.cell? ⟨w.heap.size + 1, 2, none⟩ = some (.string d)) (first | exact dUnhide PX _ b5' | exact dUnhide PX _ bd | exact ⟨set_other (set_other (set_other (dUnhide PX _ b5').1 (.inl hne)) (.inl hne)) (.inl hne), set_other (set_other (set_other (dUnhide PX _ b5').2.1 (.inl hne)) (.inl hne)) (.inl hne), set_other (set_other (set_other (dUnhide PX _ b5').2.2 (.inl hne)) (.inl hne)) (.inl hne)⟩ | go_keep)
    (first
      | (go_at_call 154; refine (dUnhide CN _).mono ?_; rintro e' w1 ⟨rfl, b5⟩; have b5' := belowThen bd b5; obtain ⟨z0, f0⟩ := (dUnhide PZ _ b5').2 0 _ rfl; obtain ⟨z1, f1⟩ := (dUnhide PZ _ b5').2 1 _ rfl; obtain ⟨z2, f2⟩ := (dUnhide PZ _ b5').2 2 _ rfl; clear b5))
  all_goals
    have YY := dHide ((((dUnhide PZ _ b5').put 0 (.int .i64 1)).put 1 (.int .i64 (e * 4294967296 + o))).put 2 (.string d))
    have BB := dHide ((((belowThen B0 b5').setCell (p := ⟨w.heap.size, 0, none⟩) (by simp) (.int .i64 1)).setCell (p := ⟨w.heap.size, 1, none⟩) (by simp) (.int .i64 (e * 4294967296 + o))).setCell (p := ⟨w.heap.size, 2, none⟩) (by simp) (.string d))
    clear PX PZ
    go_wp2_with fail
    generalize (((w1.setCell ⟨w.heap.size, 0, none⟩ (.int .i64 1)).setCell ⟨w.heap.size, 1, none⟩ (.int .i64 (e * 4294967296 + o))).setCell ⟨w.heap.size, 2, none⟩ (.string d)) = V at *
    have q0 := ((dUnhide YY).2 0 _ rfl).1
    have q1 := ((dUnhide YY).2 1 _ rfl).1
    have q2 := ((dUnhide YY).2 2 _ rfl).1
    exact bodyPost_ret (v := .agg #[.int .i64 1, .int .i64 (e * 4294967296 + o), .string d]) (by simp [results, Tryz.results171, go_sem, q0, q1, q2]) rfl ⟨rfl, dUnhide BB⟩
set_option maxHeartbeats 4000000 in
theorem eventOf_hole (e o : Int) (hf : (Hap.hole e o).fits) (w : World) : Calls Tryz.prog 171 #[(Hap.hole e o).val] w fun e' w' => e' = .returned (Hap.hole e o).ev.val ∧ Below w.heap.size w w' := by
  obtain ⟨⟨h1, h2⟩, h3, h4⟩ := hf
  show Calls Tryz.prog 171 #[.iface 235 (.agg #[.int .i64 e, .int .i64 o])] w fun e' w' => e' = .returned (.agg #[.int .i64 2, .int .i64 (e * 4294967296 + o), .string ⟨#[]⟩]) ∧ Below w.heap.size w w'
  have ta0 : ∀ w, (Instr.typeAssert (.iface 235 (.agg #[.int .i64 e, .int .i64 o])) 136 237 true).run Tryz.prog w = .ok (.tuple #[.agg #[.int .i64 0, .int .i64 0, .string ⟨#[]⟩], .bool false]) w := fun w => by kernel_rfl
  have ta1 : ∀ w, (Instr.typeAssert (.iface 235 (.agg #[.int .i64 e, .int .i64 o])) 136 235 true).run Tryz.prog w = .ok (.tuple #[.agg #[.int .i64 e, .int .i64 o], .bool true]) w := fun w => by kernel_rfl
  have ba : ∀ (w : World) o, Below w.heap.size w (w.alloc o) := fun w o => (Below.refl _ _).alloc (Nat.le_refl _) o
  have CN := dHide fun W => number_wide e o h1 h2 h3 h4 W
  have Y0 := (BxZ.new (B := w.heap.size) w [.int .i64 0, .int .i64 0, .string ⟨#[]⟩] 64 (Nat.le_refl _)).below (ba _ (.cells #[.int .i64 e, .int .i64 o] 235))
  have B0 := belowThen (ba w (.cells #[.int .i64 0, .int .i64 0, .string ⟨#[]⟩] 64)) (ba _ (.cells #[.int .i64 e, .int .i64 o] 235))
  have hsz : Hid (((w.alloc (.cells #[.int .i64 0, .int .i64 0, .string ⟨#[]⟩] 64)).alloc (.cells #[.int .i64 e, .int .i64 o] 235)).heap.size = w.heap.size + 2) := by simp [Hid]
  clear h1 h2 h3 h4
  go_enter Tryz.func171, Tryz.ntmps171
  go_wp2_with fail
  generalize ((w.alloc (.cells #[.int .i64 0, .int .i64 0, .string ⟨#[]⟩] 64)).alloc (.cells #[.int .i64 e, .int .i64 o] 235)) = w2 at *
  refine (dUnhide CN _).mono ?_
  rintro e' w1 ⟨rfl, b1⟩
  have Y1 := Y0.below b1
  have YY := dHide ((((Y0.below b1).put 0 (.int .i64 2)).put 1 (.int .i64 (e * 4294967296 + o))).put 2 (.string ⟨#[]⟩))
  have BB := dHide ((((belowThen B0 b1).setCell (p := ⟨w.heap.size, 0, none⟩) (by simp) (.int .i64 2)).setCell (p := ⟨w.heap.size, 1, none⟩) (by simp) (.int .i64 (e * 4294967296 + o))).setCell (p := ⟨w.heap.size, 2, none⟩) (by simp) (.string ⟨#[]⟩))
  obtain ⟨z0, f0⟩ := Y1.2 0 _ rfl
  obtain ⟨z1, f1⟩ := Y1.2 1 _ rfl
  obtain ⟨z2, f2⟩ := Y1.2 2 _ rfl
  clear CN Y0 Y1 B0 b1
  go_wp2_with fail
  generalize (((w1.setCell ⟨w.heap.size, 0, none⟩ (.int .i64 2)).setCell ⟨w.heap.size, 1, none⟩ (.int .i64 (e * 4294967296 + o))).setCell ⟨w.heap.size, 2, none⟩ (.string ⟨#[]⟩)) = V at *
  have q0 := ((dUnhide YY).2 0 _ rfl).1
  have q1 := ((dUnhide YY).2 1 _ rfl).1
  have q2 := ((dUnhide YY).2 2 _ rfl).1
  exact bodyPost_ret (v := .agg #[.int .i64 2, .int .i64 (e * 4294967296 + o), .string ⟨#[]⟩]) (by simp [results, Tryz.results171, go_sem, q0, q1, q2]) rfl ⟨rfl, dUnhide BB⟩
set_option maxHeartbeats 4000000 in
theorem eventOf_loss (e o : Int) (hf : (Hap.loss e o).fits) (w : World) : Calls Tryz.prog 171 #[(Hap.loss e o).val] w fun e' w' => e' = .returned (Hap.loss e o).ev.val ∧ Below w.heap.size w w' := by
  obtain ⟨⟨h1, h2⟩, h3, h4⟩ := hf
  show Calls Tryz.prog 171 #[.iface 234 (.agg #[.int .i64 e, .int .i64 o])] w fun e' w' => e' = .returned (.agg #[.int .i64 3, .int .i64 (e * 4294967296 + o), .string ⟨#[]⟩]) ∧ Below w.heap.size w w'
  have ta0 : ∀ w, (Instr.typeAssert (.iface 234 (.agg #[.int .i64 e, .int .i64 o])) 136 237 true).run Tryz.prog w = .ok (.tuple #[.agg #[.int .i64 0, .int .i64 0, .string ⟨#[]⟩], .bool false]) w := fun w => by kernel_rfl
  have ta1 : ∀ w, (Instr.typeAssert (.iface 234 (.agg #[.int .i64 e, .int .i64 o])) 136 235 true).run Tryz.prog w = .ok (.tuple #[.agg #[.int .i64 0, .int .i64 0], .bool false]) w := fun w => by kernel_rfl
  have ta2 : ∀ w, (Instr.typeAssert (.iface 234 (.agg #[.int .i64 e, .int .i64 o])) 136 234 true).run Tryz.prog w = .ok (.tuple #[.agg #[.int .i64 e, .int .i64 o], .bool true]) w := fun w => by kernel_rfl
  have ba : ∀ (w : World) o, Below w.heap.size w (w.alloc o) := fun w o => (Below.refl _ _).alloc (Nat.le_refl _) o
  have CN := dHide fun W => number_wide e o h1 h2 h3 h4 W
  have Y0 := (BxZ.new (B := w.heap.size) w [.int .i64 0, .int .i64 0, .string ⟨#[]⟩] 64 (Nat.le_refl _)).below (ba _ (.cells #[.int .i64 e, .int .i64 o] 234))
  have B0 := belowThen (ba w (.cells #[.int .i64 0, .int .i64 0, .string ⟨#[]⟩] 64)) (ba _ (.cells #[.int .i64 e, .int .i64 o] 234))
  have hsz : Hid (((w.alloc (.cells #[.int .i64 0, .int .i64 0, .string ⟨#[]⟩] 64)).alloc (.cells #[.int .i64 e, .int .i64 o] 234)).heap.size = w.heap.size + 2) := by simp [Hid]
  clear h1 h2 h3 h4
  go_enter Tryz.func171, Tryz.ntmps171
  go_wp2_with fail
  generalize ((w.alloc (.cells #[.int .i64 0, .int .i64 0, .string ⟨#[]⟩] 64)).alloc (.cells #[.int .i64 e, .int .i64 o] 234)) = w2 at *
  refine (dUnhide CN _).mono ?_
  rintro e' w1 ⟨rfl, b1⟩
  have Y1 := Y0.below b1
  have YY := dHide ((((Y0.below b1).put 0 (.int .i64 3)).put 1 (.int .i64 (e * 4294967296 + o))).put 2 (.string ⟨#[]⟩))
  have BB := dHide ((((belowThen B0 b1).setCell (p := ⟨w.heap.size, 0, none⟩) (by simp) (.int .i64 3)).setCell (p := ⟨w.heap.size, 1, none⟩) (by simp) (.int .i64 (e * 4294967296 + o))).setCell (p := ⟨w.heap.size, 2, none⟩) (by simp) (.string ⟨#[]⟩))
  obtain ⟨z0, f0⟩ := Y1.2 0 _ rfl
  obtain ⟨z1, f1⟩ := Y1.2 1 _ rfl
  obtain ⟨z2, f2⟩ := Y1.2 2 _ rfl
  clear CN Y0 Y1 B0 b1
  go_wp2_with fail
  generalize (((w1.setCell ⟨w.heap.size, 0, none⟩ (.int .i64 3)).setCell ⟨w.heap.size, 1, none⟩ (.int .i64 (e * 4294967296 + o))).setCell ⟨w.heap.size, 2, none⟩ (.string ⟨#[]⟩)) = V at *
  have q0 := ((dUnhide YY).2 0 _ rfl).1
  have q1 := ((dUnhide YY).2 1 _ rfl).1
  have q2 := ((dUnhide YY).2 2 _ rfl).1
  exact bodyPost_ret (v := .agg #[.int .i64 3, .int .i64 (e * 4294967296 + o), .string ⟨#[]⟩]) (by simp [results, Tryz.results171, go_sem, q0, q1, q2]) rfl ⟨rfl, dUnhide BB⟩
set_option maxHeartbeats 2000000 in
theorem eventOf_era (n : Int) (w : World) : Calls Tryz.prog 171 #[(Hap.era n).val] w fun e w' => e = .returned (Hap.era n).ev.val ∧ Below w.heap.size w w' := by
  show Calls Tryz.prog 171 #[.iface 192 (.agg #[.int .i64 n])] w fun e w' => e = .returned (.agg #[.int .i64 4, .int .i64 n, .string ⟨#[]⟩]) ∧ Below w.heap.size w w'
  have ta0 : ∀ w, (Instr.typeAssert (.iface 192 (.agg #[.int .i64 n])) 136 237 true).run Tryz.prog w = .ok (.tuple #[.agg #[.int .i64 0, .int .i64 0, .string ⟨#[]⟩], .bool false]) w := fun w => by kernel_rfl
  have ta1 : ∀ w, (Instr.typeAssert (.iface 192 (.agg #[.int .i64 n])) 136 235 true).run Tryz.prog w = .ok (.tuple #[.agg #[.int .i64 0, .int .i64 0], .bool false]) w := fun w => by kernel_rfl
  have ta2 : ∀ w, (Instr.typeAssert (.iface 192 (.agg #[.int .i64 n])) 136 234 true).run Tryz.prog w = .ok (.tuple #[.agg #[.int .i64 0, .int .i64 0], .bool false]) w := fun w => by kernel_rfl
  have ta3 : ∀ w, (Instr.typeAssert (.iface 192 (.agg #[.int .i64 n])) 136 192 true).run Tryz.prog w = .ok (.tuple #[.agg #[.int .i64 n], .bool true]) w := fun w => by kernel_rfl
  go_enter Tryz.func171, Tryz.ntmps171
  go_wp2
  go_returns
  exact ⟨rfl, by go_grown⟩
set_option maxHeartbeats 4000000 in
theorem eventOf_trim (e o : Int) (hf : (Hap.trim e o).fits) (w : World) : Calls Tryz.prog 171 #[(Hap.trim e o).val] w fun e' w' => e' = .returned (Hap.trim e o).ev.val ∧ Below w.heap.size w w' := by
  obtain ⟨⟨h1, h2⟩, h3, h4⟩ := hf
  show Calls Tryz.prog 171 #[.iface 190 (.agg #[.int .i64 e, .int .i64 o])] w fun e' w' => e' = .returned (.agg #[.int .i64 5, .int .i64 (e * 4294967296 + o), .string ⟨#[]⟩]) ∧ Below w.heap.size w w'
  have ta0 : ∀ w, (Instr.typeAssert (.iface 190 (.agg #[.int .i64 e, .int .i64 o])) 136 237 true).run Tryz.prog w = .ok (.tuple #[.agg #[.int .i64 0, .int .i64 0, .string ⟨#[]⟩], .bool false]) w := fun w => by kernel_rfl
  have ta1 : ∀ w, (Instr.typeAssert (.iface 190 (.agg #[.int .i64 e, .int .i64 o])) 136 235 true).run Tryz.prog w = .ok (.tuple #[.agg #[.int .i64 0, .int .i64 0], .bool false]) w := fun w => by kernel_rfl
  have ta2 : ∀ w, (Instr.typeAssert (.iface 190 (.agg #[.int .i64 e, .int .i64 o])) 136 234 true).run Tryz.prog w = .ok (.tuple #[.agg #[.int .i64 0, .int .i64 0], .bool false]) w := fun w => by kernel_rfl
  have ta3 : ∀ w, (Instr.typeAssert (.iface 190 (.agg #[.int .i64 e, .int .i64 o])) 136 192 true).run Tryz.prog w = .ok (.tuple #[.agg #[.int .i64 0], .bool false]) w := fun w => by kernel_rfl
  have ta4 : ∀ w, (Instr.typeAssert (.iface 190 (.agg #[.int .i64 e, .int .i64 o])) 136 190 true).run Tryz.prog w = .ok (.tuple #[.agg #[.int .i64 e, .int .i64 o], .bool true]) w := fun w => by kernel_rfl
  have ba : ∀ (w : World) o, Below w.heap.size w (w.alloc o) := fun w o => (Below.refl _ _).alloc (Nat.le_refl _) o
  have CN := dHide fun W => number_wide e o h1 h2 h3 h4 W
  have Y0 := (BxZ.new (B := w.heap.size) w [.int .i64 0, .int .i64 0, .string ⟨#[]⟩] 64 (Nat.le_refl _)).below (ba _ (.cells #[.int .i64 e, .int .i64 o] 190))
  have B0 := belowThen (ba w (.cells #[.int .i64 0, .int .i64 0, .string ⟨#[]⟩] 64)) (ba _ (.cells #[.int .i64 e, .int .i64 o] 190))
  have hsz : Hid (((w.alloc (.cells #[.int .i64 0, .int .i64 0, .string ⟨#[]⟩] 64)).alloc (.cells #[.int .i64 e, .int .i64 o] 190)).heap.size = w.heap.size + 2) := by simp [Hid]
  clear h1 h2 h3 h4
  go_enter Tryz.func171, Tryz.ntmps171
  go_wp2_with fail
  generalize ((w.alloc (.cells #[.int .i64 0, .int .i64 0, .string ⟨#[]⟩] 64)).alloc (.cells #[.int .i64 e, .int .i64 o] 190)) = w2 at *
  refine (dUnhide CN _).mono ?_
  rintro e' w1 ⟨rfl, b1⟩
  have Y1 := Y0.below b1
  have YY := dHide ((((Y0.below b1).put 0 (.int .i64 5)).put 1 (.int .i64 (e * 4294967296 + o))).put 2 (.string ⟨#[]⟩))
  have BB := dHide ((((belowThen B0 b1).setCell (p := ⟨w.heap.size, 0, none⟩) (by simp) (.int .i64 5)).setCell (p := ⟨w.heap.size, 1, none⟩) (by simp) (.int .i64 (e * 4294967296 + o))).setCell (p := ⟨w.heap.size, 2, none⟩) (by simp) (.string ⟨#[]⟩))
  obtain ⟨z0, f0⟩ := Y1.2 0 _ rfl
  obtain ⟨z1, f1⟩ := Y1.2 1 _ rfl
  obtain ⟨z2, f2⟩ := Y1.2 2 _ rfl
  clear CN Y0 Y1 B0 b1
  go_wp2_with fail
  generalize (((w1.setCell ⟨w.heap.size, 0, none⟩ (.int .i64 5)).setCell ⟨w.heap.size, 1, none⟩ (.int .i64 (e * 4294967296 + o))).setCell ⟨w.heap.size, 2, none⟩ (.string ⟨#[]⟩)) = V at *
  have q0 := ((dUnhide YY).2 0 _ rfl).1
  have q1 := ((dUnhide YY).2 1 _ rfl).1
  have q2 := ((dUnhide YY).2 2 _ rfl).1
  exact bodyPost_ret (v := .agg #[.int .i64 5, .int .i64 (e * 4294967296 + o), .string ⟨#[]⟩]) (by simp [results, Tryz.results171, go_sem, q0, q1, q2]) rfl ⟨rfl, dUnhide BB⟩
theorem eventOf_any (h : Hap) (hf : h.fits) (w : World) : Calls Tryz.prog 171 #[h.val] w fun e w' => e = .returned h.ev.val ∧ Below w.heap.size w w' := by
  cases h with
  | data e o d => exact eventOf_data e o d hf w
  | hole e o => exact eventOf_hole e o hf w
  | loss e o => exact eventOf_loss e o hf w
  | era n => exact eventOf_era n w
  | trim e o => exact eventOf_trim e o hf w
theorem behind_passed (e o : Int) (h1 : 0 ≤ o) (h2 : o ≤ 70) (w : World) : Calls Tryz.prog 271 #[.agg #[.int .i64 e, .int .i64 o]] w fun e' w' => e' = .returned (.agg #[.int .i64 e, .int .i64 (o + 1)]) ∧ Below w.heap.size w w' := by
  go_enter Tryz.func271, Tryz.ntmps271
  go_wp2
  go_returns
  exact ⟨rfl, by go_grown⟩
theorem behind_era (n : Int) (w : World) : Calls Tryz.prog 272 #[.agg #[.int .i64 n]] w fun e' w' => e' = .returned (.agg #[.int .i64 n, .int .i64 1]) ∧ Below w.heap.size w w' := by
  go_enter Tryz.func272, Tryz.ntmps272
  go_wp2
  go_returns
  exact ⟨rfl, by go_grown⟩
end Go.Proofs.YtapfdmmfhfkhkaaGreat
