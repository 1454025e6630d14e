/- Several texts in one: ImpCa, ImpCb, ImFa, ImFd. -/
import Derived.Test.YtapfdmmfhfkhkaaGbE
import Derived.Test.YtapfdmmfhfkhkaaGbF
import Derived.Test.YtapfdmmfhfkhkaaGbP
import Derived.Test.YtapfdmmfhfkhkaaGaA
import Derived.Deep.RegionHeld3
import Derived.Test.YtapfdmmfhfkhkaaGbG
import Derived.Deep.LoopGhost
import Derived.BigQuiet
import Derived.Deep.DeepCutAuto
namespace Go.Proofs.Ytapfdmmfhfkhkaa
open Go.ChangeShapes Go.WideShapes Go.ChangeAt Go.RowKit
set_option linter.unusedVariables false

set_option maxHeartbeats 1000000 in
theorem waveOk_zero (x : Int) (h : Bool) (d : ByteArray) (w : World) :
  Calls Try.prog 91 #[.agg #[.int .i64 x, .int .i64 0, .bool h, .string d]] w fun e w' => e = .returned (.bool true) ∧ Below w.heap.size w w' := by
 go_enter Try.func91, Try.ntmps91
 go_wp2
 go_quiet (fail)
 go_wp2
 go_ret
 exact ⟨rfl, below_drewN ((Below.refl _ _).alloc (Nat.le_refl _) _) _⟩
set_option maxHeartbeats 1000000 in
theorem waveOk_above (x v : Int) (h : Bool) (d : ByteArray) (hp : isPl x) (v0 : v ≠ 0) (hv : x / 4294967296 < v) (w : World) :
  Calls Try.prog 91 #[.agg #[.int .i64 x, .int .i64 v, .bool h, .string d]] w fun e w' => e = .returned (.bool (decide (v ≤ 30))) ∧ Below w.heap.size w w' := by
 have C := dHide (implEpoch_yes x hp)
 have hv0 : (v == 0) = false := beq_eq_false_iff_ne.2 v0
 clear hp v0
 go_enter Try.func91, Try.ntmps91
 go_wp2
 have F0 := Four.new w (.int .i64 x) (.int .i64 v) (.bool h) (.string d) 64
 have hw0 : Below w.heap.size w (w.alloc (.cells #[.int .i64 x, .int .i64 v, .bool h, .string d] 64)) := (Below.refl _ _).alloc (Nat.le_refl _) _
 generalize w.alloc (Obj.cells #[.int .i64 x, .int .i64 v, .bool h, .string d] 64) = w0 at *
 have HF := dHide F0
 obtain ⟨c0, c1, c2, c3⟩ := F0
 go_region_held3 (fun W => W.cell? ⟨w.heap.size, 0, none⟩ = some (.int .i64 x) ∧ W.cell? ⟨w.heap.size, 1, none⟩ = some (.int .i64 v)) (go_keep)
  (first
   | (go_at_call 75; refine (dUnhide C _).mono ?_; rintro e w1 ⟨rfl, b1⟩; obtain ⟨k0, k1, k2, k3⟩ := (dUnhide HF).kept (belowThen (Below.refl _ _).drew b1); have hb1 := belowThen hw0 (belowThen (Below.refl _ _).drew b1)))
 go_wp2
 go_ret
 exact ⟨rfl, hb1⟩
set_option maxHeartbeats 1000000 in
theorem dataOk_data (x v : Int) (d : ByteArray) (w : World) :
  Calls Try.prog 92 #[.agg #[.int .i64 x, .int .i64 v, .bool false, .string d]] w fun e w' => e = .returned (.bool (decide ((d.size : Int) ≤ 40))) ∧ Below w.heap.size w w' := by
 go_enter Try.func92, Try.ntmps92
 go_wp2
 go_ret
 exact ⟨rfl, (Below.refl _ _).alloc (Nat.le_refl _) _⟩
set_option maxHeartbeats 1000000 in
theorem dataOk_hole0 (x v : Int) (d : ByteArray) (hv : ¬ 0 < v) (w : World) :
  Calls Try.prog 92 #[.agg #[.int .i64 x, .int .i64 v, .bool true, .string d]] w fun e w' => e = .returned (.bool false) ∧ Below w.heap.size w w' := by
 go_enter Try.func92, Try.ntmps92
 go_wp2
 go_ret
 exact ⟨rfl, (Below.refl _ _).alloc (Nat.le_refl _) _⟩
set_option maxHeartbeats 1000000 in
theorem dataOk_hole1 (x v : Int) (hv : 0 < v) (w : World) :
  Calls Try.prog 92 #[.agg #[.int .i64 x, .int .i64 v, .bool true, .string ⟨#[]⟩]] w fun e w' => e = .returned (.bool true) ∧ Below w.heap.size w w' := by
 go_enter Try.func92, Try.ntmps92
 go_wp2
 go_ret
 exact ⟨rfl, (Below.refl _ _).alloc (Nat.le_refl _) _⟩
set_option maxHeartbeats 1000000 in
theorem dataOk_hole2 (x v : Int) (d : ByteArray) (hv : 0 < v) (he : d.toList.isEmpty = false) (w : World) :
  Calls Try.prog 92 #[.agg #[.int .i64 x, .int .i64 v, .bool true, .string d]] w fun e w' => e = .returned (.bool false) ∧ Below w.heap.size w w' := by
 go_enter Try.func92, Try.ntmps92
 go_wp2
 go_ret
 exact ⟨rfl, (Below.refl _ _).alloc (Nat.le_refl _) _⟩
end Go.Proofs.Ytapfdmmfhfkhkaa
namespace Go.Proofs.Ytapfdmmfhfkhkaa
open Go.ChangeShapes Go.WideShapes Go.ChangeAt Go.RowKit
set_option linter.unusedVariables false

set_option maxHeartbeats 1000000 in
theorem waveOk_below (x v : Int) (h : Bool) (d : ByteArray) (hp : isPl x) (v0 : v ≠ 0) (hv : v ≤ x / 4294967296) (w : World) :
  Calls Try.prog 91 #[.agg #[.int .i64 x, .int .i64 v, .bool h, .string d]] w fun e w' => e = .returned (.bool false) ∧ Below w.heap.size w w' := by
 have C := dHide (implEpoch_yes x hp)
 have hv0 : (v == 0) = false := beq_eq_false_iff_ne.2 v0
 have hv1 : decide (x / 4294967296 < v) = false := decide_eq_false (by omega)
 clear hp v0
 go_enter Try.func91, Try.ntmps91
 go_wp2
 have F0 := Four.new w (.int .i64 x) (.int .i64 v) (.bool h) (.string d) 64
 have hw0 : Below w.heap.size w (w.alloc (.cells #[.int .i64 x, .int .i64 v, .bool h, .string d] 64)) := (Below.refl _ _).alloc (Nat.le_refl _) _
 generalize w.alloc (Obj.cells #[.int .i64 x, .int .i64 v, .bool h, .string d] 64) = w0 at *
 have HF := dHide F0
 obtain ⟨c0, c1, c2, c3⟩ := F0
 refine wp_region_noPanic ?_
 refine wp_region_held_drew (S := fun W => W.cell? ⟨w.heap.size, 0, none⟩ = some (.int .i64 x) ∧ W.cell? ⟨w.heap.size, 1, none⟩ = some (.int .i64 v)) (by kernel_rfl) ?_ (fun hHeld => ?_)
 ·go_keep
 refine wpAnyH_take (i := 0) (oi := ⟨some 3, .fieldAddr 64 (.tmp 1) 1, 0, "l03_entry.go:31", #[], none⟩) (v := ?_) rfl (by kernel_rfl) (by kernel_rfl) (by kernel_rfl) (fun _ _ _ h => h) (Or.inl ⟨by rfl, ?_⟩) ‹_› ?_; rotate_left 1; focus (intro w hSw; (try dsimp only at hSw); first | (go_simp; done) | (go_simp; with_reducible rfl)); try simp only [Act.put, sA, sB, sC]
 refine wpAnyH_take (i := 1) (oi := ⟨some 4, .load 3 (.tmp 3), 3, "l03_entry.go:31", #[⟨0, .data⟩], none⟩) (v := ?_) rfl (by kernel_rfl) (by kernel_rfl) (by kernel_rfl) (fun _ _ _ h => h) (Or.inl ⟨by rfl, ?_⟩) ‹_› ?_; rotate_left 1; focus (intro w hSw; (try dsimp only at hSw); first | (go_simp; done) | (go_simp; with_reducible rfl)); try simp only [Act.put, sA, sB, sC]
 refine wpAnyH_take (i := 2) (oi := ⟨some 5, .binOp .eql 3 (.tmp 4) (.const (.int .i64 0)) 3, 4, "l03_entry.go:31", #[⟨1, .data⟩], none⟩) (v := ?_) rfl (by kernel_rfl) (by kernel_rfl) (by kernel_rfl) (fun _ _ _ h => h) (Or.inl ⟨by rfl, ?_⟩) ‹_› ?_; rotate_left 1; focus (intro w hSw; (try dsimp only at hSw); first | (go_simp; done) | (go_simp; with_reducible rfl)); try simp only [Act.put, sA, sB, sC]
 refine wpAnyH_take (i := 3) (oi := ⟨some 6, .move (.tmp 5), 4, "l03_entry.go:31", #[⟨2, .data⟩], none⟩) (v := ?_) rfl (by kernel_rfl) (by kernel_rfl) (by kernel_rfl) (fun _ _ _ h => h) (Or.inl ⟨by rfl, ?_⟩) ‹_› ?_; rotate_left 1; focus (intro w hSw; (try dsimp only at hSw); first | (go_simp; done) | (go_simp; with_reducible rfl)); try simp only [Act.put, sA, sB, sC]
 refine wpAnyH_take (i := 4) (oi := ⟨some 7, .fieldAddr 64 (.tmp 1) 1, 0, "l03_entry.go:31", #[⟨3, .guard⟩], some (3, false)⟩) (v := ?_) rfl (by kernel_rfl) (by kernel_rfl) (by kernel_rfl) (fun _ _ _ h => h) (Or.inl ⟨by rfl, ?_⟩) ‹_› ?_; rotate_left 1; focus (intro w hSw; (try dsimp only at hSw); first | (go_simp; done) | (go_simp; with_reducible rfl)); try simp only [Act.put, sA, sB, sC]
 refine wpAnyH_take (i := 5) (oi := ⟨some 8, .load 3 (.tmp 7), 3, "l03_entry.go:31", #[⟨4, .data⟩, ⟨3, .guard⟩], some (3, false)⟩) (v := ?_) rfl (by kernel_rfl) (by kernel_rfl) (by kernel_rfl) (fun _ _ _ h => h) (Or.inl ⟨by rfl, ?_⟩) ‹_› ?_; rotate_left 1; focus (intro w hSw; (try dsimp only at hSw); first | (go_simp; done) | (go_simp; with_reducible rfl)); try simp only [Act.put, sA, sB, sC]
 refine wpAnyH_take (i := 6) (oi := ⟨some 9, .fieldAddr 64 (.tmp 1) 0, 0, "l03_entry.go:31", #[⟨3, .guard⟩], some (3, false)⟩) (v := ?_) rfl (by kernel_rfl) (by kernel_rfl) (by kernel_rfl) (fun _ _ _ h => h) (Or.inl ⟨by rfl, ?_⟩) ‹_› ?_; rotate_left 1; focus (intro w hSw; (try dsimp only at hSw); first | (go_simp; done) | (go_simp; with_reducible rfl)); try simp only [Act.put, sA, sB, sC]
 refine wpAnyH_take (i := 7) (oi := ⟨some 10, .load 3 (.tmp 9), 3, "l03_entry.go:31", #[⟨6, .data⟩, ⟨3, .guard⟩], some (3, false)⟩) (v := ?_) rfl (by kernel_rfl) (by kernel_rfl) (by kernel_rfl) (fun _ _ _ h => h) (Or.inl ⟨by rfl, ?_⟩) ‹_› ?_; rotate_left 1; focus (intro w hSw; (try dsimp only at hSw); first | (go_simp; done) | (go_simp; with_reducible rfl)); try simp only [Act.put, sA, sB, sC]
 refine wpAnyH_ready (rs := [8]) (by kernel_rfl) (by simp) ?_
 refine AllReadyH.cons (o := ⟨some 11, .call ⟨.value (.func 75), #[.tmp 10], #[3]⟩, 3, "l03_entry.go:31", #[⟨7, .data⟩, ⟨3, .chain⟩, ⟨3, .guard⟩], some (3, false)⟩) rfl (fun K hK => ?_) AllReadyH.nil
 go_simp
 refine (dUnhide C _).mono ?_
 rintro e w1 ⟨rfl, b1⟩
 obtain ⟨k0, k1, k2, k3⟩ := (dUnhide HF).kept (belowThen (Below.refl _ _).drew b1)
 have hb1 := belowThen hw0 (belowThen (Below.refl _ _).drew b1)
 (try go_wp2_with fail)
 refine hK.out _ _ ?_ (fun hHeld => ?_)
 ·go_keep
 clear hK K
 try simp only [Act.put, sA, sB, sC]
 refine wpAnyH_take (i := 9) (oi := ⟨some 12, .binOp .gtr 3 (.tmp 8) (.tmp 11) 3, 4, "l03_entry.go:31", #[⟨5, .data⟩, ⟨8, .data⟩, ⟨3, .guard⟩], some (3, false)⟩) (v := ?_) rfl (by kernel_rfl) (by kernel_rfl) (by kernel_rfl) (fun _ _ _ h => h) (Or.inl ⟨by rfl, ?_⟩) ‹_› ?_; rotate_left 1; focus (intro w hSw; (try dsimp only at hSw); first | (go_simp; done) | (go_simp; with_reducible rfl)); try simp only [Act.put, sA, sB, sC]
 refine wpAnyH_take (i := 10) (oi := ⟨some 13, .move (.tmp 12), 4, "l03_entry.go:31", #[⟨9, .data⟩, ⟨8, .chain⟩, ⟨3, .guard⟩], some (3, false)⟩) (v := ?_) rfl (by kernel_rfl) (by kernel_rfl) (by kernel_rfl) (fun _ _ _ h => h) (Or.inl ⟨by rfl, ?_⟩) ‹_› ?_; rotate_left 1; focus (intro w hSw; (try dsimp only at hSw); first | (go_simp; done) | (go_simp; with_reducible rfl)); try simp only [Act.put, sA, sB, sC]
 refine wpAnyH_take (i := 11) (oi := ⟨some 14, .fieldAddr 64 (.tmp 1) 1, 0, "l03_entry.go:31", #[⟨10, .guard⟩], some (10, true)⟩) (v := undef) rfl (by kernel_rfl) (by kernel_rfl) (by kernel_rfl) (fun _ _ _ h => h) (Or.inr ⟨by rfl, rfl⟩) ‹_› ?_
 try simp only [Act.put, sA, sB, sC]
 refine wpAnyH_take (i := 12) (oi := ⟨some 15, .load 3 (.tmp 14), 3, "l03_entry.go:31", #[⟨11, .data⟩, ⟨10, .guard⟩], some (10, true)⟩) (v := undef) rfl (by kernel_rfl) (by kernel_rfl) (by kernel_rfl) (fun _ _ _ h => h) (Or.inr ⟨by rfl, rfl⟩) ‹_› ?_
 try simp only [Act.put, sA, sB, sC]
 refine wpAnyH_take (i := 13) (oi := ⟨some 16, .binOp .leq 3 (.tmp 15) (.const (.int .i64 30)) 3, 4, "l03_entry.go:31", #[⟨12, .data⟩, ⟨10, .guard⟩], some (10, true)⟩) (v := undef) rfl (by kernel_rfl) (by kernel_rfl) (by kernel_rfl) (fun _ _ _ h => h) (Or.inr ⟨by rfl, rfl⟩) ‹_› ?_
 try simp only [Act.put, sA, sB, sC]
 refine wpAnyH_take (i := 14) (oi := ⟨some 17, .pick (.tmp 13) (.tmp 16) (.const (.bool false)), 4, "l03_entry.go:31", #[⟨10, .data⟩, ⟨13, .data⟩, ⟨3, .guard⟩], some (3, false)⟩) (v := ?_) rfl (by kernel_rfl) (by kernel_rfl) (by kernel_rfl) (fun _ _ _ h => h) (Or.inl ⟨by rfl, ?_⟩) ‹_› ?_; rotate_left 1; focus (intro w hSw; (try dsimp only at hSw); first | (go_simp; done) | (go_simp; with_reducible rfl)); try simp only [Act.put, sA, sB, sC]
 refine wpAnyH_take (i := 15) (oi := ⟨some 18, .pick (.tmp 6) (.const (.bool true)) (.tmp 17), 4, "l03_entry.go:31", #[⟨3, .data⟩, ⟨14, .data⟩], none⟩) (v := ?_) rfl (by kernel_rfl) (by kernel_rfl) (by kernel_rfl) (fun _ _ _ h => h) (Or.inl ⟨by rfl, ?_⟩) ‹_› ?_; rotate_left 1; focus (intro w hSw; (try dsimp only at hSw); first | (go_simp; done) | (go_simp; with_reducible rfl)); try simp only [Act.put, sA, sB, sC]
 refine wpAnyH_take (i := 16) (oi := ⟨some 2, .assign (.tmp 18), 4, "l03_entry.go:31", #[⟨15, .data⟩, ⟨10, .chain⟩, ⟨0, .phase⟩, ⟨1, .phase⟩, ⟨2, .phase⟩, ⟨3, .phase⟩, ⟨4, .phase⟩, ⟨5, .phase⟩, ⟨6, .phase⟩, ⟨7, .phase⟩, ⟨8, .phase⟩, ⟨9, .phase⟩, ⟨10, .phase⟩, ⟨11, .phase⟩, ⟨12, .phase⟩, ⟨13, .phase⟩, ⟨14, .phase⟩, ⟨15, .phase⟩], none⟩) (v := ?_) rfl (by kernel_rfl) (by kernel_rfl) (by kernel_rfl) (fun _ _ _ h => h) (Or.inl ⟨by rfl, ?_⟩) ‹_› ?_; rotate_left 1; focus (intro w hSw; (try dsimp only at hSw); first | (go_simp; done) | (go_simp; with_reducible rfl)); try simp only [Act.put, sA, sB, sC]
 refine wpAnyH_done (by kernel_rfl) ?_ _
 refine NoPanic.normal ?_
 go_wp2
 go_ret
 exact ⟨rfl, hb1⟩
theorem implEntOk_noP (x v : Int) (h : Bool) (d : ByteArray) (l : -9223372036854775808 ≤ x) (u : x ≤ 9223372036854775807) (hp : ¬ isPl x) (w : World) :
  Calls Try.prog 74 #[.agg #[.int .i64 x, .int .i64 v, .bool h, .string d]] w fun e w' => e = .returned (.bool false) ∧ Below w.heap.size w w' := by
 have C := dHide (implOk_no x l u hp)
 clear hp
 go_enter Try.func74, Try.ntmps74
 go_wp2_with fail
 have hw0 : Below w.heap.size w (w.alloc (.cells #[.int .i64 x, .int .i64 v, .bool h, .string d] 64)) := (Below.refl _ _).alloc (Nat.le_refl _) _
 refine (dUnhide C _).mono ?_
 rintro e w1 ⟨rfl, b1⟩
 have hb1 := belowThen hw0 b1
 clear b1 hw0
 go_wp2
 go_ret
 exact ⟨rfl, hb1⟩
theorem implEntOk_P (x v : Int) (h : Bool) (d : ByteArray) (hp : isPl x) (b1 b2 : Bool)
  (h1 : ∀ w, Calls Try.prog 91 #[.agg #[.int .i64 x, .int .i64 v, .bool h, .string d]] w fun e w' => e = .returned (.bool b1) ∧ Below w.heap.size w w')
  (h2 : b1 = true → ∀ w, Calls Try.prog 92 #[.agg #[.int .i64 x, .int .i64 v, .bool h, .string d]] w fun e w' => e = .returned (.bool b2) ∧ Below w.heap.size w w') (w : World) :
  Calls Try.prog 74 #[.agg #[.int .i64 x, .int .i64 v, .bool h, .string d]] w fun e w' => e = .returned (.bool (b1 && b2)) ∧ Below w.heap.size w w' := by
 have C := dHide (implOk_yes x hp)
 have C1 := dHide h1
 clear h1 hp
 cases b1 with
 | false =>
  clear h2
  go_enter Try.func74, Try.ntmps74
  go_wp2_with fail
  have F0 := Four.new w (.int .i64 x) (.int .i64 v) (.bool h) (.string d) 64
  have hw0 : Below w.heap.size w (w.alloc (.cells #[.int .i64 x, .int .i64 v, .bool h, .string d] 64)) := (Below.refl _ _).alloc (Nat.le_refl _) _
  refine (dUnhide C _).mono ?_
  rintro e w1 ⟨rfl, b1⟩
  have F1 := F0.kept b1
  have hb1 := belowThen hw0 b1
  obtain ⟨k0, k1, k2, k3⟩ := F1
  clear b1 hw0 F0
  go_wp2_with fail
  refine (dUnhide C1 _).mono ?_
  rintro e w2 ⟨rfl, b2⟩
  have hb2 := belowThen hb1 b2
  clear b2 hb1
  go_wp2
  go_ret
  exact ⟨rfl, hb2⟩
 | true =>
  have C2 := dHide (h2 rfl)
  clear h2
  go_enter Try.func74, Try.ntmps74
  go_wp2_with fail
  have F0 := Four.new w (.int .i64 x) (.int .i64 v) (.bool h) (.string d) 64
  have hw0 : Below w.heap.size w (w.alloc (.cells #[.int .i64 x, .int .i64 v, .bool h, .string d] 64)) := (Below.refl _ _).alloc (Nat.le_refl _) _
  refine (dUnhide C _).mono ?_
  rintro e w1 ⟨rfl, b1⟩
  have F1 := F0.kept b1
  have hb1 := belowThen hw0 b1
  have HF1 := dHide F1
  obtain ⟨k0, k1, k2, k3⟩ := F1
  clear b1 hw0 F0
  go_wp2_with fail
  refine (dUnhide C1 _).mono ?_
  rintro e w2 ⟨rfl, b2⟩
  have F2 := (dUnhide HF1).kept b2
  have hb2 := belowThen hb1 b2
  obtain ⟨q0, q1, q2, q3⟩ := F2
  clear b2 hb1 HF1 k0 k1 k2 k3
  go_wp2_with fail
  refine (dUnhide C2 _).mono ?_
  rintro e w3 ⟨rfl, b3⟩
  have hb3 := belowThen hb2 b3
  clear b3 hb2
  go_wp2
  go_ret
  exact ⟨by simp, hb3⟩
theorem implEntOk_yes (e : Ent) (hf : e.fits) (h : entP e) (w : World) :
  Calls Try.prog 74 #[e.val] w fun r w' => r = .returned (.bool true) ∧ Below w.heap.size w w' := by
 obtain ⟨x, v, h0, d⟩ := e
 obtain ⟨hp, v0, v1, hv, hd, hh⟩ := h
 simp only at hp v0 v1 hv hd hh
 unfold Ent.val
 simp only
 have hp' := hp
 obtain ⟨p0, p1, p2, p3, p4⟩ := hp'
 have e30 : decide (v ≤ 30) = true := decide_eq_true v1
 have e40 : decide ((d.size : Int) ≤ 40) = true := decide_eq_true (by omega)
 rcases Int.lt_or_le 0 v with hv0 | hv0
 ·have hv' := hv hv0
  have h1 := waveOk_above x v h0 d hp (by omega) hv'
  rw [e30] at h1
  cases h0 with
  | false =>
   have h2 := dataOk_data x v d
   rw [e40] at h2
   exact implEntOk_P x v false d hp true true h1 (fun _ => h2) w
  | true =>
   obtain rfl := bytes_nil d (hh rfl).2
   exact implEntOk_P x v true _ hp true true h1 (fun _ => dataOk_hole1 x v hv0) w
 ·obtain rfl : v = 0 := by omega
  cases h0 with
  | false =>
   have h2 := dataOk_data x 0 d
   rw [e40] at h2
   exact implEntOk_P x 0 false d hp true true (waveOk_zero x false d) (fun _ => h2) w
  | true => exact absurd (hh rfl).1 (by omega)
theorem implEntOk_no (e : Ent) (hf : e.fits) (h : ¬ entP e) (w : World) :
  Calls Try.prog 74 #[e.val] w fun r w' => r = .returned (.bool false) ∧ Below w.heap.size w w' := by
 obtain ⟨x, v, h0, d⟩ := e
 obtain ⟨f1, f2, f3, f4, f5⟩ := hf
 simp only at f1 f2 f3 f4 f5
 unfold entP at h
 unfold Ent.val
 simp only at h ⊢
 by_cases hp : isPl x
 ·have hp' := hp
  obtain ⟨p0, p1, p2, p3, p4⟩ := hp'
  have D : ∀ v', (v' = 0 ∨ (0 < v' ∧ v' ≤ 30 ∧ x / 4294967296 < v')) → v = v' → ∀ w, Calls Try.prog 92 #[.agg #[.int .i64 x, .int .i64 v, .bool h0, .string d]] w fun e w' => e = .returned (.bool false) ∧ Below w.heap.size w w' := by
   rintro v' hv' rfl W
   cases h0 with
   | false =>
    have h2 := dataOk_data x v d W
    by_cases hd : (d.size : Int) ≤ 40
    ·refine absurd ⟨hp, by omega, by omega, fun _ => by omega, by omega, fun h => by cases h⟩ h
    ·rw [decide_eq_false hd] at h2
     exact h2
   | true =>
    by_cases hv0 : 0 < v
    ·refine dataOk_hole2 x v d hv0 (bytes_ne d fun h1 => ?_) W
     exact h ⟨hp, by omega, by omega, fun _ => by omega, by omega, fun _ => ⟨hv0, h1⟩⟩
    ·exact dataOk_hole0 x v d hv0 W
  by_cases hv0 : v = 0
  ·subst hv0
   exact implEntOk_P x 0 h0 d hp true false (waveOk_zero x h0 d) (fun _ => D 0 (.inl rfl) rfl) w
  ·by_cases hv : x / 4294967296 < v
   ·have h1 := waveOk_above x v h0 d hp hv0 hv
    by_cases h30 : v ≤ 30
    ·rw [decide_eq_true h30] at h1
     exact implEntOk_P x v h0 d hp true false h1 (fun _ => D v (.inr ⟨by omega, h30, hv⟩) rfl) w
    ·rw [decide_eq_false h30] at h1
     exact implEntOk_P x v h0 d hp false false h1 (fun h => by cases h) w
   ·exact implEntOk_P x v h0 d hp false false (waveOk_below x v h0 d hp hv0 (by omega)) (fun h => by cases h) w
 ·exact implEntOk_noP x v h0 d f1 f2 hp w
end Go.Proofs.Ytapfdmmfhfkhkaa
namespace Go.Proofs.Ytapfdmmfhfkhkaa
open Go.ChangeShapes Go.WideShapes Go.ChangeAt Go.RowKit
set_option linter.unusedVariables false
set_option linter.unusedSimpArgs false
set_option maxRecDepth 100000

theorem place_any (e : Ent) (w : World) : Calls Try.prog 128 #[e.val] w fun r w' => r = .returned (.int .i64 e.pl) ∧ Below w.heap.size w w' := by
 obtain ⟨x, wv, ho, d⟩ := e
 unfold Ent.val
 simp only
 go_enter Try.func128, Try.ntmps128
 go_wp2
 go_ret
 exact ⟨rfl, (Below.refl _ _).alloc (Nat.le_refl _) _⟩
end Go.Proofs.Ytapfdmmfhfkhkaa
namespace Go.Proofs.Ytapfdmmfhfkhkaa
open Go.ChangeShapes Go.WideShapes Go.ChangeAt Go.RowKit
set_option linter.unusedVariables false
set_option linter.unusedSimpArgs false
set_option maxRecDepth 100000

theorem implEntOk_any (e : Ent) (hf : e.fits) (w : World) : Calls Try.prog 74 #[e.val] w fun r w' => RetB (entP e) r ∧ Below w.heap.size w w' := by
 by_cases h : entP e
 ·exact (implEntOk_yes e hf h w).mono fun r w' ⟨h1, h2⟩ => ⟨h1 ▸ RetB.yes h, h2⟩
 ·exact (implEntOk_no e hf h w).mono fun r w' ⟨h1, h2⟩ => ⟨h1 ▸ RetB.no h, h2⟩
set_option maxHeartbeats 4000000 in
theorem ascending_any (v : Value) (es : List Ent) (w : World) (hv : Rw 4 Ent.cl w v es) :
  Calls Try.prog 76 #[v] w fun e w' => RetB (ascE es) e ∧ Below w.heap.size w w' := by
 have HV := dHide fun W (hb : Below w.heap.size w W) => hv.below hb
 obtain ⟨h0, a, cap, rfl, -, -⟩ := hv
 go_enter Try.func76, Try.ntmps76
 go_wp2
 go_loopw [3] (fun x wr => ∃ k : Nat, x = .int .i64 ((k + 1 : Nat) : Int) ∧ (k ≤ es.length) ∧ Hid (∀ i (h : i + 1 < es.length), i < k → es[i].pl < es[i + 1].pl) ∧ Below w.heap.size w wr) (fun x _ => es.length + 1 - (intOf x).toNat)
 case atStart => exact ⟨0, rfl, Nat.zero_le _, (fun i h h' => by omega), Below.refl _ _⟩
 case round =>
  obtain ⟨k, rfl, hk, hinv, hb⟩ := hrel
  by_cases hlt : ((k + 1 : Nat) : Int) < (es.length : Int)
  ·have hkl : k + 1 < es.length := by omega
   obtain ⟨b, off, rfl, hc⟩ := (dUnhide HV wr hb).ent hkl
   have EA := hc k (by omega)
   have EB := hc (k + 1) hkl
   have hst : Hid (es[k].pl < es[k + 1].pl → ∀ i (h : i + 1 < es.length), i < k + 1 → es[i].pl < es[i + 1].pl) := fun he i h h' => by
    rcases Nat.lt_or_ge i k with hlt' | hge
    ·exact dUnhide hinv i h hlt'
    ·obtain rfl : i = k := by omega
     exact he
   have hno : Hid (¬ es[k].pl < es[k + 1].pl → ¬ ascE es) := fun he h => he (h k hkl)
   have PA := dHide fun W => place_any es[k] W
   have PB := dHide fun W => place_any es[k + 1] W
   generalize es[k] = ea at *
   generalize es[k + 1] = eb at *
   obtain ⟨x, wv, ho, d⟩ := ea
   obtain ⟨y, wv', ho', d'⟩ := eb
   unfold Ent.val at PA PB
   simp only at *
   have HEA := dHide EA
   have HEB := dHide EB
   obtain ⟨k0, k1, k2, k3⟩ := EA
   obtain ⟨j0, j1, j2, j3⟩ := EB
   simp only at k0 k1 k2 k3 j0 j1 j2 j3
   generalize hm : k + 1 = m at *
   have HM := dHide hm
   have t1 : (0 : Int) ≤ (k : Int) := by omega
   have t2 : (k : Int) < (es.length : Int) := by omega
   have t3 : IntKind.i64.wrap ((m : Int) - 1) = (k : Int) := by rw [IntKind.wrap_i64]; omega
   have t4 : (0 : Int) ≤ (m : Int) := by omega
   clear hc hinv HV hm
   go_wp2
   go_region_held3 (fun W => W.cell? ⟨b, off + k * 4, none⟩ = some (.int .i64 x) ∧ W.cell? ⟨b, off + k * 4 + 1, none⟩ = some (.int .i64 wv) ∧ W.cell? ⟨b, off + k * 4 + 2, none⟩ = some (.bool ho) ∧ W.cell? ⟨b, off + k * 4 + 3, none⟩ = some (.string d) ∧ W.cell? ⟨b, off + m * 4, none⟩ = some (.int .i64 y) ∧ W.cell? ⟨b, off + m * 4 + 1, none⟩ = some (.int .i64 wv') ∧ W.cell? ⟨b, off + m * 4 + 2, none⟩ = some (.bool ho') ∧ W.cell? ⟨b, off + m * 4 + 3, none⟩ = some (.string d')) (first | exact ⟨q0, q1, q2, q3, r0, r1, r2, r3⟩ | exact ⟨p0, p1, p2, p3, s0, s1, s2, s3⟩ | go_keep)
    (first
     | (go_at_call 128; refine (dUnhide PA _).mono ?_; rintro e w2 ⟨rfl, b2⟩; have hb2 := belowThen hb1 b2; obtain ⟨q0, q1, q2, q3⟩ := (dUnhide HEA).below hb2; obtain ⟨r0, r1, r2, r3⟩ := (dUnhide HEB).below hb2)
     | (go_at_call 128; refine (dUnhide PB _).mono ?_; rintro e w2 ⟨rfl, b2⟩; have hb2 := belowThen hb1 b2; obtain ⟨q0, q1, q2, q3⟩ := (dUnhide HEA).below hb2; obtain ⟨r0, r1, r2, r3⟩ := (dUnhide HEB).below hb2)
     | (go_at_call 128; refine (dUnhide PA _).mono ?_; rintro e w1 ⟨rfl, b1⟩; have hb1 := belowThen (Below.refl wr.heap.size wr).drew b1; obtain ⟨p0, p1, p2, p3⟩ := (dUnhide HEA).below hb1; obtain ⟨s0, s1, s2, s3⟩ := (dUnhide HEB).below hb1)
     | (go_at_call 128; refine (dUnhide PB _).mono ?_; rintro e w1 ⟨rfl, b1⟩; have hb1 := belowThen (Below.refl wr.heap.size wr).drew b1; obtain ⟨p0, p1, p2, p3⟩ := (dUnhide HEA).below hb1; obtain ⟨s0, s1, s2, s3⟩ := (dUnhide HEB).below hb1))
   all_goals
    have BB := belowThen hb hb2
    clear hb1 b2 b1 q0 q1 q2 q3 r0 r1 r2 r3 p0 p1 p2 p3 s0 s1 s2 s3 k0 k1 k2 k3 j0 j1 j2 j3 HEA HEB PA PB hb hb2
    by_cases hxy : y ≤ x
    ·have hd : decide (y ≤ x) = true := decide_eq_true hxy
     have R := dHide (dUnhide hno (by omega))
     go_wp2
     go_ret
     exact ⟨RetB.no (dUnhide R), BB⟩
    ·have hd : decide (y ≤ x) = false := decide_eq_false hxy
     have R := dHide (dUnhide hst (by omega))
     go_wp2
     go_roundw
     case rel => have := dUnhide HM; subst this; exact ⟨k + 1, by go_num, by omega, R, BB⟩
     case measure => have := dUnhide HM; subst this; simp [intOf]; omega
  ·have hyes : Hid (ascE es) := fun i h => dUnhide hinv i h (by omega)
   clear hinv HV
   go_wp2
   go_ret
   exact ⟨RetB.yes (dUnhide hyes), hb⟩
end Go.Proofs.Ytapfdmmfhfkhkaa
