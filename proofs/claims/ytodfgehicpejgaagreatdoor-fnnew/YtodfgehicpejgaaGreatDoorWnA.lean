/- spec's and impl's WorldNew: a world in which nothing is yet. -/
import Derived.Test.YtodfgehicpejgaaGreatDoorGk164
import Derived.Test.YtodfgehicpejgaaGreatDoorGk172
import Derived.Test.YtodfgehicpejgaaGreatDoorGk156
import Derived.Test.YtodfgehicpejgaaGreatDoorGk144
import Derived.Test.YtodfgehicpejgaaGreatDoorGk169
import Derived.Test.YtodfgehicpejgaaGreatDoorGk162
import Derived.Deep.RegionHeld3
import Derived.Deep.DeepCutAuto
namespace Go.Proofs.YtodfgehicpejgaaGreatDoor
open Go.ChangeShapes Go.WideShapes Go.ChangeAt Go.RowKit
set_option linter.unusedVariables false
set_option linter.unusedSimpArgs false
set_option maxRecDepth 100000

theorem implReaderNew_any (w : World) : Calls Tryz.prog 17 #[] w fun e w' => e = .returned (.agg #[.int .i64 1, .int .i64 1, .slice none 0 0]) ∧ Below w.heap.size w w' := by
 go_enter Tryz.func17, Tryz.ntmps17
 go_wp2
 go_returns
 exact ⟨rfl, by go_grown⟩
def newR : Rr := ⟨1, 1, []⟩
def newW (ds : List Int) (cop : Int) : Wo := ⟨(ds, cop), List.replicate ds.length ⟨[], [], 0⟩, [], ⟨[], 0⟩, [], [], [newR, newR], [], false⟩
theorem step_mkW {w w' : World} {ops : Array Oper} {o : Oper} {a : Act} {Q : Exit → Act → World → Prop} {K : Act → World → Prop} {F : Prop} (hg : o.guard = none) (t : TypeId) (x y : Operand) (hop : o.op = .makeSlice t x y)
  (vx vy : Value) (hx : a.eval x = vx) (hy : a.eval y = vy) {v' : Value} (hr : (Instr.makeSlice t vx vy).run Tryz.prog w = .ok v' w') (h : K (a.put o.dst v') w') :
  if Region.wanted o (yielded ops a.tmps) = true then Oper.wp Tryz.prog o a w K Q else F := by
 have hw : Region.wanted o (yielded ops a.tmps) = true := by simp [Region.wanted, hg]
 rw [if_pos hw]
 unfold Oper.wp
 simp [execOp, hop, hx, hy, hr, Result.andThen]
 exact h
theorem storesNew (w : World) (n : Nat) (h : n ≤ 1048576) : Sits (OwStoreS w.heap.size (w.heap.size + 1) (.slice (some ⟨w.heap.size, 0, none⟩) n n) (List.replicate n ⟨[], [], 0⟩)) w.heap.size (w.heap.size + 1) (w.alloc (.cells (madeCells (Value.agg #[.slice none 0 0, .slice none 0 0, .int .i64 0]).cells (n * 3)) 80)) := by
 have hr := RowG.made (cl := psCl) w (Value.agg #[.slice none 0 0, .slice none 0 0, .int .i64 0]).cells n 80 zeroPs rfl zeroPs_cells
 have hl : (List.replicate n zeroPs).length = n := by simp
 have ho := hr.own (base := w.heap.size) (cap := n) (es := List.replicate n zeroPs) (by simp) (fun i hi => by simp) (Nat.le_refl _) (by simp; omega) (by simp; omega)
 rw [hl] at ho
 refine OwStoreS.sits ⟨List.replicate n zeroPs, fun _ => w.heap.size + 1, by simp [zeroPs], ho, .inr (by simp [bO]), ⟨Nat.le_succ _, fun _ _ => Nat.le_refl _, Nat.le_refl _⟩, fun i hi => ?_⟩ (by simp)
 have e : (List.replicate n zeroPs)[i] = zeroPs := by simp
 rw [e]
 exact ⟨_, _, rfl, ⟨OwnRw.nil _ _ _ _ (by simp [zeroPs]), .inl rfl⟩, ⟨OwnRw.nil _ _ _ _ (by simp [zeroPs]), .inl rfl⟩, .inl rfl⟩
theorem readersNew (w : World) : Sits (OwReaderS w.heap.size (w.heap.size + 1) (.slice (some ⟨w.heap.size, 0, none⟩) 2 2) [newR, newR]) w.heap.size (w.heap.size + 1) (w.alloc (.cells #[.int .i64 1, .int .i64 1, .slice none 0 0, .int .i64 1, .int .i64 1, .slice none 0 0] 54)) := by
 have Z := BxZ.new (B := w.heap.size) w [.int .i64 1, .int .i64 1, .slice none 0 0, .int .i64 1, .int .i64 1, .slice none 0 0] 54 (Nat.le_refl _)
 refine OwD.sits (Ow := OwReader) sitsOfReader ⟨[⟨[.int .i64 1, .int .i64 1, .slice none 0 0], rfl, newR⟩, ⟨[.int .i64 1, .int .i64 1, .slice none 0 0], rfl, newR⟩], fun _ => w.heap.size + 1, rfl, ⟨by simp, _, 2, rfl, ⟨by simp, by omega⟩, .inr ⟨w.heap.size, 0, rfl, Nat.le_refl _, fun i hi j u hu => ?_⟩⟩, .inr (by simp [bO]), ⟨Nat.le_succ _, fun _ _ => Nat.le_refl _, Nat.le_refl _⟩, fun i hi => ?_⟩ (by simp)
 ·match i, hi with
  | 0, _ => 
   simp only [Nat.zero_mul, Nat.zero_add]
   match j with
   | 0 => simp at hu; subst hu; exact Z.2 0 _ rfl
   | 1 => simp at hu; subst hu; exact Z.2 1 _ rfl
   | 2 => simp at hu; subst hu; exact Z.2 2 _ rfl
   | j + 3 => simp at hu
  | 1, _ => 
   simp only [Nat.one_mul, Nat.zero_add]
   match j with
   | 0 => simp at hu; subst hu; exact Z.2 3 _ rfl
   | 1 => simp at hu; subst hu; exact Z.2 4 _ rfl
   | 2 => simp at hu; subst hu; exact Z.2 5 _ rfl
   | j + 3 => simp at hu
 ·match i, hi with
  | 0, _ => exact ⟨_, rfl, OwnRw.nil _ _ _ _ (by omega), .inl rfl⟩
  | 1, _ => exact ⟨_, rfl, OwnRw.nil _ _ _ _ (by omega), .inl rfl⟩
theorem owNew {w : World} {lo hi l0 h0 l1 h1 l6 h6 : Nat} {dv sv rv : Value} {ds : List Int} (cop : Int) (D : OwN l0 h0 dv ds w) (S : OwStoreS l1 h1 sv (List.replicate ds.length ⟨[], [], 0⟩) w) (R : OwReaderS l6 h6 rv [newR, newR] w)
  (q : (lo ≤ l0 ∧ h0 ≤ hi) ∧ (lo ≤ l1 ∧ h1 ≤ hi) ∧ (lo ≤ l6 ∧ h6 ≤ hi) ∧ lo ≤ hi) (d01 : h0 ≤ l1 ∨ h1 ≤ l0) (d06 : h0 ≤ l6 ∨ h6 ≤ l0) (d16 : h1 ≤ l6 ∨ h6 ≤ l1) :
  OwWorld lo hi (.agg #[dv, .int .i64 cop, sv, .slice none 0 0, .slice none 0 0, .int .i64 0, .slice none 0 0, .slice none 0 0, rv, .slice none 0 0, .bool false]) (newW ds cop) w := by
 have nD : ∀ {n : Nat} {μ : Type} {Ow : Nat → Nat → Value → μ → World → Prop}, OwD n Ow lo lo (.slice none 0 0) ([] : List μ) w := ⟨[], fun _ => lo, rfl, OwnRw.nil _ _ _ _ (by omega), .inl rfl, ⟨Nat.le_refl _, fun _ _ => Nat.le_refl _, Nat.le_refl _⟩, fun i h => absurd h (by simp)⟩
 refine ⟨dv, sv, .slice none 0 0, .slice none 0 0, .slice none 0 0, .slice none 0 0, rv, .slice none 0 0, fun i => if i = 0 then l0 else if i = 1 then l1 else if i = 6 then l6 else lo, fun i => if i = 0 then h0 else if i = 1 then h1 else if i = 6 then h6 else lo, rfl, ⟨fun i hi' => ?_, fun i j hi' hj hn => ?_⟩, D, S, show OwN lo lo (.slice none 0 0) [] w from ⟨⟨by simp, none, 0, rfl, by simp, .inl rfl⟩, .inl rfl⟩, ?_, nD, nD, R, ⟨OwnRw.nil _ _ _ _ (by omega), .inl rfl⟩⟩
 ·dsimp only
  repeat' split
  all_goals omega
 ·dsimp only
  repeat' split
  all_goals omega
 ·exact ⟨[], rfl, OwnRw.nil _ _ _ _ (by omega), .inl rfl, fun p hp => absurd hp (by simp), by simp [Apart]⟩
set_option maxHeartbeats 8000000 in
theorem implWorldNew_no (sv : Value) (ds : List Int) (cop : Int) (w : World) (hv : Ns w sv ds) (ha : allInt ds) (hl : ds.length ≤ 1048576) (c0 : -9223372036854775808 ≤ cop) (c1 : cop ≤ 9223372036854775807) (h : ¬ cfgP ds cop) :
  Calls Tryz.prog 6 #[.agg #[sv, .int .i64 cop]] w fun e w' => e = .returned (.tuple #[.agg #[.slice none 0 0, .int .i64 0, .slice none 0 0, .slice none 0 0, .slice none 0 0, .int .i64 0, .slice none 0 0, .slice none 0 0, .slice none 0 0, .slice none 0 0, .bool false], .bool false]) ∧ Below w.heap.size w w' := by
 have hb0 : ∀ o o2, Below w.heap.size w ((w.alloc o).alloc o2) := fun o o2 => ((Below.refl _ _).alloc (Nat.le_refl _) o).alloc (by simp) o2
 have C1 := dH fun W (hb : Below w.heap.size w W) => implCfg_any _ ds cop W (hv.below hb) ha hl c0 c1
 obtain ⟨-, a, cap, rfl, -, -⟩ := hv
 generalize ds.length = n at *
 have X0 := Bx.new w [.slice a n cap, .int .i64 cop] 26
 have Y0 := BxZ.new (w.alloc (.cells #[.slice a n cap, .int .i64 cop] 26)) [.slice none 0 0, .int .i64 0, .slice none 0 0, .slice none 0 0, .slice none 0 0, .int .i64 0, .slice none 0 0, .slice none 0 0, .slice none 0 0, .slice none 0 0, .bool false] 37 (B := w.heap.size) (by simp)
 go_enter Tryz.func6, Tryz.ntmps6
 go_wp2_with fail
 refine (dU C1 _ (hb0 _ _)).mono ?_
 rintro e w1 ⟨q1, b1⟩
 obtain rfl := q1.of_no h
 have B1 := dH (bT (hb0 _ _) b1)
 have X1 := ((X0.below ((Below.refl _ _).alloc (Nat.le_refl _) (.cells #[.slice none 0 0, .int .i64 0, .slice none 0 0, .slice none 0 0, .slice none 0 0, .int .i64 0, .slice none 0 0, .slice none 0 0, .slice none 0 0, .slice none 0 0, .bool false] 37)))).below b1
 have Y1 := Y0.below b1
 have hw1 : w.heap.size + 2 ≤ w1.heap.size := by have := b1.size; simp at this; omega
 have es : (w.alloc (.cells #[.slice a n cap, .int .i64 cop] 26)).heap.size = w.heap.size + 1 := by simp
 rw [es] at Y1
 clear b1 hb0 C1 q1 X0 Y0 es
 go_wp2_with (refine wp_putW rfl _ _ _ rfl rfl [.slice none 0 0, .int .i64 0, .slice none 0 0, .slice none 0 0, .slice none 0 0, .int .i64 0, .slice none 0 0, .slice none 0 0, .slice none 0 0, .slice none 0 0, .bool false] rfl rfl Y1 rfl (by kernel_rfl) (by kernel_rfl) ?_; intro w2 Y2 s2 g2 b2)
 have k0 := Y2.bx 0 _ rfl
 have k1 := Y2.bx 1 _ rfl
 have k2 := Y2.bx 2 _ rfl
 have k3 := Y2.bx 3 _ rfl
 have k4 := Y2.bx 4 _ rfl
 have k5 := Y2.bx 5 _ rfl
 have k6 := Y2.bx 6 _ rfl
 have k7 := Y2.bx 7 _ rfl
 have k8 := Y2.bx 8 _ rfl
 have k9 := Y2.bx 9 _ rfl
 have k10 := Y2.bx 10 _ rfl
 have B2 := (dU B1).trans b2
 clear Y2 s2 g2 b2 X1 Y1 B1
 refine bodyPost_ret (v := .tuple #[.agg #[.slice none 0 0, .int .i64 0, .slice none 0 0, .slice none 0 0, .slice none 0 0, .int .i64 0, .slice none 0 0, .slice none 0 0, .slice none 0 0, .slice none 0 0, .bool false], .bool false]) (by simp [results, Tryz.results6, go_sem, k0, k1, k2, k3, k4, k5, k6, k7, k8, k9, k10]) rfl ⟨rfl, B2⟩
set_option maxHeartbeats 8000000 in
theorem implWorldNew_yes (sv : Value) (ds : List Int) (cop : Int) (w : World) (hv : Ns w sv ds) (ha : allInt ds) (hl : ds.length ≤ 1048576) (c0 : -9223372036854775808 ≤ cop) (c1 : cop ≤ 9223372036854775807) (h : cfgP ds cop) :
  Calls Tryz.prog 6 #[.agg #[sv, .int .i64 cop]] w fun e w' => (∃ u, e = .returned (.tuple #[u, .bool true]) ∧ OwWorld w.heap.size w'.heap.size u (newW ds cop) w') ∧ Below w.heap.size w w' := by
 have hb0 : ∀ o o2, Below w.heap.size w ((w.alloc o).alloc o2) := fun o o2 => ((Below.refl _ _).alloc (Nat.le_refl _) o).alloc (by simp) o2
 have C1 := dH fun W (hb : Below w.heap.size w W) => implCfg_any _ ds cop W (hv.below hb) ha hl c0 c1
 have HV := dH fun W (hb : Below w.heap.size w W) => hv.below hb
 obtain ⟨-, a, cap, rfl, -, -⟩ := hv
 have hn : Hid (1 ≤ ds.length ∧ ds.length ≤ 8) := h.1
 have X0 := Bx.new w [.slice a ds.length cap, .int .i64 cop] 26
 have Y0 := BxZ.new (w.alloc (.cells #[.slice a ds.length cap, .int .i64 cop] 26)) [.slice none 0 0, .int .i64 0, .slice none 0 0, .slice none 0 0, .slice none 0 0, .int .i64 0, .slice none 0 0, .slice none 0 0, .slice none 0 0, .slice none 0 0, .bool false] 37 (B := w.heap.size) (by simp)
 go_enter Tryz.func6, Tryz.ntmps6
 go_wp2_with fail
 refine (dU C1 _ (hb0 _ _)).mono ?_
 rintro e w1 ⟨q1, b1⟩
 obtain rfl := q1.of_yes h
 have B1 := dH (bT (hb0 _ _) b1)
 have X1 := ((X0.below ((Below.refl _ _).alloc (Nat.le_refl _) (.cells #[.slice none 0 0, .int .i64 0, .slice none 0 0, .slice none 0 0, .slice none 0 0, .int .i64 0, .slice none 0 0, .slice none 0 0, .slice none 0 0, .slice none 0 0, .bool false] 37)))).below b1
 have Y1 := Y0.below b1
 have hw1 : w.heap.size + 2 ≤ w1.heap.size := by have := b1.size; simp at this; omega
 have es : (w.alloc (.cells #[.slice a ds.length cap, .int .i64 cop] 26)).heap.size = w.heap.size + 1 := by simp
 rw [es] at Y1
 clear b1 hb0 C1 q1 X0 Y0 es
 have bdr : Below w1.heap.size w1 w1.drew := (Below.refl _ _).drew
 have hx : w1.cell? ⟨w.heap.size, 0, none⟩ = some (.slice a ds.length cap) ∧ w1.cell? ⟨w.heap.size, 1, none⟩ = some (.int .i64 cop) := ⟨X1 0 _ rfl, X1 1 _ rfl⟩
 have X := X1.below bdr
 have Y := Y1.below bdr
 have BB := bT (dU B1) bdr
 have hs : w.heap.size + 2 ≤ w1.drew.heap.size := Nat.le_trans hw1 bdr.size
 clear X1 Y1 B1
 go_wp2_with fail
 refine wp_region_noPanic ?_
 refine wp_region_held_drew (S := fun W => W.cell? ⟨w.heap.size, 0, none⟩ = some (.slice a ds.length cap) ∧ W.cell? ⟨w.heap.size, 1, none⟩ = some (.int .i64 cop)) (by kernel_rfl) (by first | exact ⟨X 0 _ rfl, X 1 _ rfl⟩ | exact hx) (fun hHeld => ?_)
 refine tY 0 (v := ?_) rfl (by kernel_rfl) (.inl ⟨by rfl, ?_⟩) ‹_› ?_
 rotate_left 1
 ·intro w hSw
  (try dsimp only at hSw)
  first | (go_simp; done) | (go_simp; with_reducible rfl)
 try simp only [Act.put, sA, sB, sC]
 refine tY 1 (v := ?_) rfl (by kernel_rfl) (.inl ⟨by rfl, ?_⟩) ‹_› ?_
 rotate_left 1
 ·intro w hSw
  (try dsimp only at hSw)
  first | (go_simp; done) | (go_simp; with_reducible rfl)
 try simp only [Act.put, sA, sB, sC]
 refine tY 3 (v := ?_) rfl (by kernel_rfl) (.inl ⟨by rfl, ?_⟩) ‹_› ?_
 rotate_left 1
 ·intro w hSw
  (try dsimp only at hSw)
  first | (go_simp; done) | (go_simp; with_reducible rfl)
 try simp only [Act.put, sA, sB, sC]
 refine tY 4 (v := ?_) rfl (by kernel_rfl) (.inl ⟨by rfl, ?_⟩) ‹_› ?_
 rotate_left 1
 ·intro w hSw
  (try dsimp only at hSw)
  first | (go_simp; done) | (go_simp; with_reducible rfl)
 try simp only [Act.put, sA, sB, sC]
 refine tY 6 (v := ?_) rfl (by kernel_rfl) (.inl ⟨by rfl, ?_⟩) ‹_› ?_
 rotate_left 1
 ·intro w hSw
  (try dsimp only at hSw)
  first | (go_simp; done) | (go_simp; with_reducible rfl)
 try simp only [Act.put, sA, sB, sC]
 refine tY 7 (v := ?_) rfl (by kernel_rfl) (.inl ⟨by rfl, ?_⟩) ‹_› ?_
 rotate_left 1
 ·intro w hSw
  (try dsimp only at hSw)
  first | (go_simp; done) | (go_simp; with_reducible rfl)
 try simp only [Act.put, sA, sB, sC]
 refine tY 8 (v := ?_) rfl (by kernel_rfl) (.inl ⟨by rfl, ?_⟩) ‹_› ?_
 rotate_left 1
 ·intro w hSw
  (try dsimp only at hSw)
  first | (go_simp; done) | (go_simp; with_reducible rfl)
 try simp only [Act.put, sA, sB, sC]
 refine wpAnyH_ready (rs := [2, 9]) (by kernel_rfl) (by simp) ?_
 refine rC rfl (fun K hK => ?_) (rC rfl (fun K hK => ?_) AllReadyH.nil)
 ·clear hx bdr hw1
  generalize w1.drew = wd at *
  try have f0 := D.fit
  try have f1 := SS.fit
  try have f2 := RR.fit
  have hlo2 := hs
  go_simp
  refine (cloneI_any _ ds wd (dU HV _ BB) (by omega)).mono ?_
  rintro e wd ⟨⟨dv, rfl, O'⟩, b⟩
  have O := O'.own
  clear O'
  obtain ⟨-, da, dc, rfl, -, -⟩ := O.bs
  have sz := b.size
  replace X := X.below b
  replace Y := Y.below b
  replace BB := bT BB b
  replace hs := Nat.le_trans hs b.size
  try replace L := L.below b
  try replace D := D.below b
  try replace SS := SS.below b
  try replace RR := RR.below b
  clear b
  have D := OwN.sits ⟨O, O.bs.lt⟩ (Nat.le_refl _)
  clear O
  refine hK.out _ _ (by first | exact ⟨X 0 _ rfl, X 1 _ rfl⟩ | exact hx) (fun hHeld => ?_)
  clear hK K
  try simp only [Act.put, sA, sB, sC]
  refine tY 5 (v := ?_) rfl (by kernel_rfl) (.inl ⟨by rfl, ?_⟩) ‹_› ?_
  rotate_left 1
  ·intro w hSw
   (try dsimp only at hSw)
   first | (go_simp; done) | (go_simp; with_reducible rfl)
  try simp only [Act.put, sA, sB, sC]
  refine wpAnyH_ready (rs := [9, 10]) (by kernel_rfl) (by simp) ?_
  refine rC rfl (fun K hK => ?_) (rC rfl (fun K hK => ?_) AllReadyH.nil)
  ·try have f0 := D.fit
   try have f1 := SS.fit
   try have f2 := RR.fit
   have hlo4 := hs
   refine step_mkW rfl _ _ _ rfl _ _ rfl rfl (makeS ds.length (by omega) wd) ?_
   have SS0 := storesNew wd ds.length (by omega)
   have b : Below wd.heap.size wd (wd.alloc (.cells (madeCells (Value.agg #[.slice none 0 0, .slice none 0 0, .int .i64 0]).cells (ds.length * 3)) 80)) := (Below.refl _ _).alloc (Nat.le_refl _) _
   have es : wd.heap.size + 1 ≤ (wd.alloc (.cells (madeCells (Value.agg #[.slice none 0 0, .slice none 0 0, .int .i64 0]).cells (ds.length * 3)) 80)).heap.size := by simp
   have sz := b.size
   replace X := X.below b
   replace Y := Y.below b
   replace BB := bT BB b
   replace hs := Nat.le_trans hs b.size
   try replace L := L.below b
   try replace D := D.below b
   try replace SS := SS.below b
   try replace RR := RR.below b
   clear b
   have SS := SS0
   clear SS0
   generalize wd.heap.size = sb at *
   generalize wd.alloc (.cells (madeCells (Value.agg #[.slice none 0 0, .slice none 0 0, .int .i64 0]).cells (ds.length * 3)) 80) = wd at *
   refine hK.out _ _ (by first | exact ⟨X 0 _ rfl, X 1 _ rfl⟩ | exact hx) (fun hHeld => ?_)
   clear hK K
   try simp only [Act.put, sA, sB, sC]
   refine wpAnyH_ready (rs := [10]) (by kernel_rfl) (by simp) ?_
   refine rC rfl (fun K hK => ?_) AllReadyH.nil
   go_simp
   refine (implReaderNew_any wd).mono ?_
   rintro e wd ⟨rfl, b⟩
   have sz := b.size
   replace X := X.below b
   replace Y := Y.below b
   replace BB := bT BB b
   replace hs := Nat.le_trans hs b.size
   try replace L := L.below b
   try replace D := D.below b
   try replace SS := SS.below b
   try replace RR := RR.below b
   clear b
   refine hK.out _ _ (by first | exact ⟨X 0 _ rfl, X 1 _ rfl⟩ | exact hx) (fun hHeld => ?_)
   clear hK K
   try simp only [Act.put, sA, sB, sC]
   refine wpAnyH_ready (rs := [11]) (by kernel_rfl) (by simp) ?_
   refine rC rfl (fun K hK => ?_) AllReadyH.nil
   go_simp
   refine (implReaderNew_any wd).mono ?_
   rintro e wd ⟨rfl, b⟩
   have sz := b.size
   replace X := X.below b
   replace Y := Y.below b
   replace BB := bT BB b
   replace hs := Nat.le_trans hs b.size
   try replace L := L.below b
   try replace D := D.below b
   try replace SS := SS.below b
   try replace RR := RR.below b
   clear b
   refine hK.out _ _ (by first | exact ⟨X 0 _ rfl, X 1 _ rfl⟩ | exact hx) (fun hHeld => ?_)
   clear hK K
   try simp only [Act.put, sA, sB, sC]
   refine wpAnyH_ready (rs := [12]) (by kernel_rfl) (by simp) ?_
   refine rC rfl (fun K hK => ?_) AllReadyH.nil
   try have f0 := D.fit
   try have f1 := SS.fit
   try have f2 := RR.fit
   have hlo7 := hs
   go_simp
   have RR0 := readersNew wd
   have b : Below wd.heap.size wd (wd.alloc (.cells #[.int .i64 1, .int .i64 1, .slice none 0 0, .int .i64 1, .int .i64 1, .slice none 0 0] 54)) := (Below.refl _ _).alloc (Nat.le_refl _) _
   have es : wd.heap.size + 1 ≤ (wd.alloc (.cells #[.int .i64 1, .int .i64 1, .slice none 0 0, .int .i64 1, .int .i64 1, .slice none 0 0] 54)).heap.size := by simp
   have sz := b.size
   replace X := X.below b
   replace Y := Y.below b
   replace BB := bT BB b
   replace hs := Nat.le_trans hs b.size
   try replace L := L.below b
   try replace D := D.below b
   try replace SS := SS.below b
   try replace RR := RR.below b
   clear b
   have RR := RR0
   clear RR0
   generalize wd.heap.size = rb at *
   generalize wd.alloc (.cells #[.int .i64 1, .int .i64 1, .slice none 0 0, .int .i64 1, .int .i64 1, .slice none 0 0] 54) = wd at *
   refine hK.out _ _ (by first | exact ⟨X 0 _ rfl, X 1 _ rfl⟩ | exact hx) (fun hHeld => ?_)
   clear hK K
   try simp only [Act.put, sA, sB, sC]
   refine tY 13 (v := ?_) rfl (by kernel_rfl) (.inl ⟨by rfl, ?_⟩) ‹_› ?_
   rotate_left 1
   ·intro w hSw
    (try dsimp only at hSw)
    first | (go_simp; done) | (go_simp; with_reducible rfl)
   try simp only [Act.put, sA, sB, sC]
   refine wpAnyH_ready (rs := [14]) (by kernel_rfl) (by simp) ?_
   refine rC rfl (fun K hK => ?_) AllReadyH.nil
   have f0 := D.fit
   have f1 := SS.fit
   have f2 := RR.fit
   refine step_putW rfl _ _ _ rfl rfl [.slice da ds.length dc, .int .i64 cop, .slice (some ⟨sb, 0, none⟩) ds.length ds.length, .slice none 0 0, .slice none 0 0, .int .i64 0, .slice none 0 0, .slice none 0 0, .slice (some ⟨rb, 0, none⟩) 2 2, .slice none 0 0, .bool false] rfl rfl Y rfl (by kernel_rfl) (by kernel_rfl) ?_
   clear Y
   intro wd Y s g b
   replace D := D.off g (by omega) s
   replace SS := SS.off g (by omega) s
   replace RR := RR.off g (by omega) s
   replace X := X.off g (by omega)
   try replace L := L.off g (by omega)
   replace BB := BB.trans b
   clear g b
   refine hK.out _ _ (by first | exact ⟨X 0 _ rfl, X 1 _ rfl⟩ | exact hx) (fun hHeld => ?_)
   clear hK K
   try simp only [Act.put, sA, sB, sC]
   refine tY 15 (v := ?_) rfl (by kernel_rfl) (.inl ⟨by rfl, ?_⟩) ‹_› ?_
   rotate_left 1
   ·intro w hSw
    (try dsimp only at hSw)
    first | (go_simp; done) | (go_simp; with_reducible rfl)
   try simp only [Act.put, sA, sB, sC]
   refine wpAnyH_done (by kernel_rfl) ?_ _
   refine NoPanic.normal ?_
   have k0 := (Y.2 0 _ rfl).1
   have k1 := (Y.2 1 _ rfl).1
   have k2 := (Y.2 2 _ rfl).1
   have k3 := (Y.2 3 _ rfl).1
   have k4 := (Y.2 4 _ rfl).1
   have k5 := (Y.2 5 _ rfl).1
   have k6 := (Y.2 6 _ rfl).1
   have k7 := (Y.2 7 _ rfl).1
   have k8 := (Y.2 8 _ rfl).1
   have k9 := (Y.2 9 _ rfl).1
   have k10 := (Y.2 10 _ rfl).1
   have QQ := owNew (lo := w.heap.size) (hi := wd.heap.size) cop D.now SS.now RR.now ⟨⟨by omega, by omega⟩, ⟨by omega, by omega⟩, ⟨by omega, by omega⟩, by omega⟩ (by omega) (by omega) (by omega)
   clear D SS RR X Y
   go_wp2_with fail
   refine bodyPost_ret (v := .tuple #[.agg #[.slice da ds.length dc, .int .i64 cop, .slice (some ⟨sb, 0, none⟩) ds.length ds.length, .slice none 0 0, .slice none 0 0, .int .i64 0, .slice none 0 0, .slice none 0 0, .slice (some ⟨rb, 0, none⟩) 2 2, .slice none 0 0, .bool false], .bool true]) (by simp [results, Tryz.results6, go_sem, k0, k1, k2, k3, k4, k5, k6, k7, k8, k9, k10]) rfl ⟨⟨_, rfl, QQ⟩, BB⟩
  ·go_simp
   refine (implReaderNew_any wd).mono ?_
   rintro e wd ⟨rfl, b⟩
   have sz := b.size
   replace X := X.below b
   replace Y := Y.below b
   replace BB := bT BB b
   replace hs := Nat.le_trans hs b.size
   try replace L := L.below b
   try replace D := D.below b
   try replace SS := SS.below b
   try replace RR := RR.below b
   clear b
   refine hK.out _ _ (by first | exact ⟨X 0 _ rfl, X 1 _ rfl⟩ | exact hx) (fun hHeld => ?_)
   clear hK K
   try simp only [Act.put, sA, sB, sC]
   refine wpAnyH_ready (rs := [9, 11]) (by kernel_rfl) (by simp) ?_
   refine rC rfl (fun K hK => ?_) (rC rfl (fun K hK => ?_) AllReadyH.nil)
   ·try have f0 := D.fit
    try have f1 := SS.fit
    try have f2 := RR.fit
    have hlo4 := hs
    refine step_mkW rfl _ _ _ rfl _ _ rfl rfl (makeS ds.length (by omega) wd) ?_
    have SS0 := storesNew wd ds.length (by omega)
    have b : Below wd.heap.size wd (wd.alloc (.cells (madeCells (Value.agg #[.slice none 0 0, .slice none 0 0, .int .i64 0]).cells (ds.length * 3)) 80)) := (Below.refl _ _).alloc (Nat.le_refl _) _
    have es : wd.heap.size + 1 ≤ (wd.alloc (.cells (madeCells (Value.agg #[.slice none 0 0, .slice none 0 0, .int .i64 0]).cells (ds.length * 3)) 80)).heap.size := by simp
    have sz := b.size
    replace X := X.below b
    replace Y := Y.below b
    replace BB := bT BB b
    replace hs := Nat.le_trans hs b.size
    try replace L := L.below b
    try replace D := D.below b
    try replace SS := SS.below b
    try replace RR := RR.below b
    clear b
    have SS := SS0
    clear SS0
    generalize wd.heap.size = sb at *
    generalize wd.alloc (.cells (madeCells (Value.agg #[.slice none 0 0, .slice none 0 0, .int .i64 0]).cells (ds.length * 3)) 80) = wd at *
    refine hK.out _ _ (by first | exact ⟨X 0 _ rfl, X 1 _ rfl⟩ | exact hx) (fun hHeld => ?_)
    clear hK K
    try simp only [Act.put, sA, sB, sC]
    refine wpAnyH_ready (rs := [11]) (by kernel_rfl) (by simp) ?_
    refine rC rfl (fun K hK => ?_) AllReadyH.nil
    go_simp
    refine (implReaderNew_any wd).mono ?_
    rintro e wd ⟨rfl, b⟩
    have sz := b.size
    replace X := X.below b
    replace Y := Y.below b
    replace BB := bT BB b
    replace hs := Nat.le_trans hs b.size
    try replace L := L.below b
    try replace D := D.below b
    try replace SS := SS.below b
    try replace RR := RR.below b
    clear b
    refine hK.out _ _ (by first | exact ⟨X 0 _ rfl, X 1 _ rfl⟩ | exact hx) (fun hHeld => ?_)
    clear hK K
    try simp only [Act.put, sA, sB, sC]
    refine wpAnyH_ready (rs := [12]) (by kernel_rfl) (by simp) ?_
    refine rC rfl (fun K hK => ?_) AllReadyH.nil
    try have f0 := D.fit
    try have f1 := SS.fit
    try have f2 := RR.fit
    have hlo7 := hs
    go_simp
    have RR0 := readersNew wd
    have b : Below wd.heap.size wd (wd.alloc (.cells #[.int .i64 1, .int .i64 1, .slice none 0 0, .int .i64 1, .int .i64 1, .slice none 0 0] 54)) := (Below.refl _ _).alloc (Nat.le_refl _) _
    have es : wd.heap.size + 1 ≤ (wd.alloc (.cells #[.int .i64 1, .int .i64 1, .slice none 0 0, .int .i64 1, .int .i64 1, .slice none 0 0] 54)).heap.size := by simp
    have sz := b.size
    replace X := X.below b
    replace Y := Y.below b
    replace BB := bT BB b
    replace hs := Nat.le_trans hs b.size
    try replace L := L.below b
    try replace D := D.below b
    try replace SS := SS.below b
    try replace RR := RR.below b
    clear b
    have RR := RR0
    clear RR0
    generalize wd.heap.size = rb at *
    generalize wd.alloc (.cells #[.int .i64 1, .int .i64 1, .slice none 0 0, .int .i64 1, .int .i64 1, .slice none 0 0] 54) = wd at *
    refine hK.out _ _ (by first | exact ⟨X 0 _ rfl, X 1 _ rfl⟩ | exact hx) (fun hHeld => ?_)
    clear hK K
    try simp only [Act.put, sA, sB, sC]
    refine tY 13 (v := ?_) rfl (by kernel_rfl) (.inl ⟨by rfl, ?_⟩) ‹_› ?_
    rotate_left 1
    ·intro w hSw
     (try dsimp only at hSw)
     first | (go_simp; done) | (go_simp; with_reducible rfl)
    try simp only [Act.put, sA, sB, sC]
    refine wpAnyH_ready (rs := [14]) (by kernel_rfl) (by simp) ?_
    refine rC rfl (fun K hK => ?_) AllReadyH.nil
    have f0 := D.fit
    have f1 := SS.fit
    have f2 := RR.fit
    refine step_putW rfl _ _ _ rfl rfl [.slice da ds.length dc, .int .i64 cop, .slice (some ⟨sb, 0, none⟩) ds.length ds.length, .slice none 0 0, .slice none 0 0, .int .i64 0, .slice none 0 0, .slice none 0 0, .slice (some ⟨rb, 0, none⟩) 2 2, .slice none 0 0, .bool false] rfl rfl Y rfl (by kernel_rfl) (by kernel_rfl) ?_
    clear Y
    intro wd Y s g b
    replace D := D.off g (by omega) s
    replace SS := SS.off g (by omega) s
    replace RR := RR.off g (by omega) s
    replace X := X.off g (by omega)
    try replace L := L.off g (by omega)
    replace BB := BB.trans b
    clear g b
    refine hK.out _ _ (by first | exact ⟨X 0 _ rfl, X 1 _ rfl⟩ | exact hx) (fun hHeld => ?_)
    clear hK K
    try simp only [Act.put, sA, sB, sC]
    refine tY 15 (v := ?_) rfl (by kernel_rfl) (.inl ⟨by rfl, ?_⟩) ‹_› ?_
    rotate_left 1
    ·intro w hSw
     (try dsimp only at hSw)
     first | (go_simp; done) | (go_simp; with_reducible rfl)
    try simp only [Act.put, sA, sB, sC]
    refine wpAnyH_done (by kernel_rfl) ?_ _
    refine NoPanic.normal ?_
    have k0 := (Y.2 0 _ rfl).1
    have k1 := (Y.2 1 _ rfl).1
    have k2 := (Y.2 2 _ rfl).1
    have k3 := (Y.2 3 _ rfl).1
    have k4 := (Y.2 4 _ rfl).1
    have k5 := (Y.2 5 _ rfl).1
    have k6 := (Y.2 6 _ rfl).1
    have k7 := (Y.2 7 _ rfl).1
    have k8 := (Y.2 8 _ rfl).1
    have k9 := (Y.2 9 _ rfl).1
    have k10 := (Y.2 10 _ rfl).1
    have QQ := owNew (lo := w.heap.size) (hi := wd.heap.size) cop D.now SS.now RR.now ⟨⟨by omega, by omega⟩, ⟨by omega, by omega⟩, ⟨by omega, by omega⟩, by omega⟩ (by omega) (by omega) (by omega)
    clear D SS RR X Y
    go_wp2_with fail
    refine bodyPost_ret (v := .tuple #[.agg #[.slice da ds.length dc, .int .i64 cop, .slice (some ⟨sb, 0, none⟩) ds.length ds.length, .slice none 0 0, .slice none 0 0, .int .i64 0, .slice none 0 0, .slice none 0 0, .slice (some ⟨rb, 0, none⟩) 2 2, .slice none 0 0, .bool false], .bool true]) (by simp [results, Tryz.results6, go_sem, k0, k1, k2, k3, k4, k5, k6, k7, k8, k9, k10]) rfl ⟨⟨_, rfl, QQ⟩, BB⟩
   ·go_simp
    refine (implReaderNew_any wd).mono ?_
    rintro e wd ⟨rfl, b⟩
    have sz := b.size
    replace X := X.below b
    replace Y := Y.below b
    replace BB := bT BB b
    replace hs := Nat.le_trans hs b.size
    try replace L := L.below b
    try replace D := D.below b
    try replace SS := SS.below b
    try replace RR := RR.below b
    clear b
    refine hK.out _ _ (by first | exact ⟨X 0 _ rfl, X 1 _ rfl⟩ | exact hx) (fun hHeld => ?_)
    clear hK K
    try simp only [Act.put, sA, sB, sC]
    refine wpAnyH_ready (rs := [9, 12]) (by kernel_rfl) (by simp) ?_
    refine rC rfl (fun K hK => ?_) (rC rfl (fun K hK => ?_) AllReadyH.nil)
    ·try have f0 := D.fit
     try have f1 := SS.fit
     try have f2 := RR.fit
     have hlo4 := hs
     refine step_mkW rfl _ _ _ rfl _ _ rfl rfl (makeS ds.length (by omega) wd) ?_
     have SS0 := storesNew wd ds.length (by omega)
     have b : Below wd.heap.size wd (wd.alloc (.cells (madeCells (Value.agg #[.slice none 0 0, .slice none 0 0, .int .i64 0]).cells (ds.length * 3)) 80)) := (Below.refl _ _).alloc (Nat.le_refl _) _
     have es : wd.heap.size + 1 ≤ (wd.alloc (.cells (madeCells (Value.agg #[.slice none 0 0, .slice none 0 0, .int .i64 0]).cells (ds.length * 3)) 80)).heap.size := by simp
     have sz := b.size
     replace X := X.below b
     replace Y := Y.below b
     replace BB := bT BB b
     replace hs := Nat.le_trans hs b.size
     try replace L := L.below b
     try replace D := D.below b
     try replace SS := SS.below b
     try replace RR := RR.below b
     clear b
     have SS := SS0
     clear SS0
     generalize wd.heap.size = sb at *
     generalize wd.alloc (.cells (madeCells (Value.agg #[.slice none 0 0, .slice none 0 0, .int .i64 0]).cells (ds.length * 3)) 80) = wd at *
     refine hK.out _ _ (by first | exact ⟨X 0 _ rfl, X 1 _ rfl⟩ | exact hx) (fun hHeld => ?_)
     clear hK K
     try simp only [Act.put, sA, sB, sC]
     refine wpAnyH_ready (rs := [12]) (by kernel_rfl) (by simp) ?_
     refine rC rfl (fun K hK => ?_) AllReadyH.nil
     try have f0 := D.fit
     try have f1 := SS.fit
     try have f2 := RR.fit
     have hlo7 := hs
     go_simp
     have RR0 := readersNew wd
     have b : Below wd.heap.size wd (wd.alloc (.cells #[.int .i64 1, .int .i64 1, .slice none 0 0, .int .i64 1, .int .i64 1, .slice none 0 0] 54)) := (Below.refl _ _).alloc (Nat.le_refl _) _
     have es : wd.heap.size + 1 ≤ (wd.alloc (.cells #[.int .i64 1, .int .i64 1, .slice none 0 0, .int .i64 1, .int .i64 1, .slice none 0 0] 54)).heap.size := by simp
     have sz := b.size
     replace X := X.below b
     replace Y := Y.below b
     replace BB := bT BB b
     replace hs := Nat.le_trans hs b.size
     try replace L := L.below b
     try replace D := D.below b
     try replace SS := SS.below b
     try replace RR := RR.below b
     clear b
     have RR := RR0
     clear RR0
     generalize wd.heap.size = rb at *
     generalize wd.alloc (.cells #[.int .i64 1, .int .i64 1, .slice none 0 0, .int .i64 1, .int .i64 1, .slice none 0 0] 54) = wd at *
     refine hK.out _ _ (by first | exact ⟨X 0 _ rfl, X 1 _ rfl⟩ | exact hx) (fun hHeld => ?_)
     clear hK K
     try simp only [Act.put, sA, sB, sC]
     refine tY 13 (v := ?_) rfl (by kernel_rfl) (.inl ⟨by rfl, ?_⟩) ‹_› ?_
     rotate_left 1
     ·intro w hSw
      (try dsimp only at hSw)
      first | (go_simp; done) | (go_simp; with_reducible rfl)
     try simp only [Act.put, sA, sB, sC]
     refine wpAnyH_ready (rs := [14]) (by kernel_rfl) (by simp) ?_
     refine rC rfl (fun K hK => ?_) AllReadyH.nil
     have f0 := D.fit
     have f1 := SS.fit
     have f2 := RR.fit
     refine step_putW rfl _ _ _ rfl rfl [.slice da ds.length dc, .int .i64 cop, .slice (some ⟨sb, 0, none⟩) ds.length ds.length, .slice none 0 0, .slice none 0 0, .int .i64 0, .slice none 0 0, .slice none 0 0, .slice (some ⟨rb, 0, none⟩) 2 2, .slice none 0 0, .bool false] rfl rfl Y rfl (by kernel_rfl) (by kernel_rfl) ?_
     clear Y
     intro wd Y s g b
     replace D := D.off g (by omega) s
     replace SS := SS.off g (by omega) s
     replace RR := RR.off g (by omega) s
     replace X := X.off g (by omega)
     try replace L := L.off g (by omega)
     replace BB := BB.trans b
     clear g b
     refine hK.out _ _ (by first | exact ⟨X 0 _ rfl, X 1 _ rfl⟩ | exact hx) (fun hHeld => ?_)
     clear hK K
     try simp only [Act.put, sA, sB, sC]
     refine tY 15 (v := ?_) rfl (by kernel_rfl) (.inl ⟨by rfl, ?_⟩) ‹_› ?_
     rotate_left 1
     ·intro w hSw
      (try dsimp only at hSw)
      first | (go_simp; done) | (go_simp; with_reducible rfl)
     try simp only [Act.put, sA, sB, sC]
     refine wpAnyH_done (by kernel_rfl) ?_ _
     refine NoPanic.normal ?_
     have k0 := (Y.2 0 _ rfl).1
     have k1 := (Y.2 1 _ rfl).1
     have k2 := (Y.2 2 _ rfl).1
     have k3 := (Y.2 3 _ rfl).1
     have k4 := (Y.2 4 _ rfl).1
     have k5 := (Y.2 5 _ rfl).1
     have k6 := (Y.2 6 _ rfl).1
     have k7 := (Y.2 7 _ rfl).1
     have k8 := (Y.2 8 _ rfl).1
     have k9 := (Y.2 9 _ rfl).1
     have k10 := (Y.2 10 _ rfl).1
     have QQ := owNew (lo := w.heap.size) (hi := wd.heap.size) cop D.now SS.now RR.now ⟨⟨by omega, by omega⟩, ⟨by omega, by omega⟩, ⟨by omega, by omega⟩, by omega⟩ (by omega) (by omega) (by omega)
     clear D SS RR X Y
     go_wp2_with fail
     refine bodyPost_ret (v := .tuple #[.agg #[.slice da ds.length dc, .int .i64 cop, .slice (some ⟨sb, 0, none⟩) ds.length ds.length, .slice none 0 0, .slice none 0 0, .int .i64 0, .slice none 0 0, .slice none 0 0, .slice (some ⟨rb, 0, none⟩) 2 2, .slice none 0 0, .bool false], .bool true]) (by simp [results, Tryz.results6, go_sem, k0, k1, k2, k3, k4, k5, k6, k7, k8, k9, k10]) rfl ⟨⟨_, rfl, QQ⟩, BB⟩
    ·try have f0 := D.fit
     try have f1 := SS.fit
     try have f2 := RR.fit
     have hlo7 := hs
     go_simp
     have RR0 := readersNew wd
     have b : Below wd.heap.size wd (wd.alloc (.cells #[.int .i64 1, .int .i64 1, .slice none 0 0, .int .i64 1, .int .i64 1, .slice none 0 0] 54)) := (Below.refl _ _).alloc (Nat.le_refl _) _
     have es : wd.heap.size + 1 ≤ (wd.alloc (.cells #[.int .i64 1, .int .i64 1, .slice none 0 0, .int .i64 1, .int .i64 1, .slice none 0 0] 54)).heap.size := by simp
     have sz := b.size
     replace X := X.below b
     replace Y := Y.below b
     replace BB := bT BB b
     replace hs := Nat.le_trans hs b.size
     try replace L := L.below b
     try replace D := D.below b
     try replace SS := SS.below b
     try replace RR := RR.below b
     clear b
     have RR := RR0
     clear RR0
     generalize wd.heap.size = rb at *
     generalize wd.alloc (.cells #[.int .i64 1, .int .i64 1, .slice none 0 0, .int .i64 1, .int .i64 1, .slice none 0 0] 54) = wd at *
     refine hK.out _ _ (by first | exact ⟨X 0 _ rfl, X 1 _ rfl⟩ | exact hx) (fun hHeld => ?_)
     clear hK K
     try simp only [Act.put, sA, sB, sC]
     refine wpAnyH_ready (rs := [9]) (by kernel_rfl) (by simp) ?_
     refine rC rfl (fun K hK => ?_) AllReadyH.nil
     try have f0 := D.fit
     try have f1 := SS.fit
     try have f2 := RR.fit
     have hlo4 := hs
     refine step_mkW rfl _ _ _ rfl _ _ rfl rfl (makeS ds.length (by omega) wd) ?_
     have SS0 := storesNew wd ds.length (by omega)
     have b : Below wd.heap.size wd (wd.alloc (.cells (madeCells (Value.agg #[.slice none 0 0, .slice none 0 0, .int .i64 0]).cells (ds.length * 3)) 80)) := (Below.refl _ _).alloc (Nat.le_refl _) _
     have es : wd.heap.size + 1 ≤ (wd.alloc (.cells (madeCells (Value.agg #[.slice none 0 0, .slice none 0 0, .int .i64 0]).cells (ds.length * 3)) 80)).heap.size := by simp
     have sz := b.size
     replace X := X.below b
     replace Y := Y.below b
     replace BB := bT BB b
     replace hs := Nat.le_trans hs b.size
     try replace L := L.below b
     try replace D := D.below b
     try replace SS := SS.below b
     try replace RR := RR.below b
     clear b
     have SS := SS0
     clear SS0
     generalize wd.heap.size = sb at *
     generalize wd.alloc (.cells (madeCells (Value.agg #[.slice none 0 0, .slice none 0 0, .int .i64 0]).cells (ds.length * 3)) 80) = wd at *
     refine hK.out _ _ (by first | exact ⟨X 0 _ rfl, X 1 _ rfl⟩ | exact hx) (fun hHeld => ?_)
     clear hK K
     try simp only [Act.put, sA, sB, sC]
     refine tY 13 (v := ?_) rfl (by kernel_rfl) (.inl ⟨by rfl, ?_⟩) ‹_› ?_
     rotate_left 1
     ·intro w hSw
      (try dsimp only at hSw)
      first | (go_simp; done) | (go_simp; with_reducible rfl)
     try simp only [Act.put, sA, sB, sC]
     refine wpAnyH_ready (rs := [14]) (by kernel_rfl) (by simp) ?_
     refine rC rfl (fun K hK => ?_) AllReadyH.nil
     have f0 := D.fit
     have f1 := SS.fit
     have f2 := RR.fit
     refine step_putW rfl _ _ _ rfl rfl [.slice da ds.length dc, .int .i64 cop, .slice (some ⟨sb, 0, none⟩) ds.length ds.length, .slice none 0 0, .slice none 0 0, .int .i64 0, .slice none 0 0, .slice none 0 0, .slice (some ⟨rb, 0, none⟩) 2 2, .slice none 0 0, .bool false] rfl rfl Y rfl (by kernel_rfl) (by kernel_rfl) ?_
     clear Y
     intro wd Y s g b
     replace D := D.off g (by omega) s
     replace SS := SS.off g (by omega) s
     replace RR := RR.off g (by omega) s
     replace X := X.off g (by omega)
     try replace L := L.off g (by omega)
     replace BB := BB.trans b
     clear g b
     refine hK.out _ _ (by first | exact ⟨X 0 _ rfl, X 1 _ rfl⟩ | exact hx) (fun hHeld => ?_)
     clear hK K
     try simp only [Act.put, sA, sB, sC]
     refine tY 15 (v := ?_) rfl (by kernel_rfl) (.inl ⟨by rfl, ?_⟩) ‹_› ?_
     rotate_left 1
     ·intro w hSw
      (try dsimp only at hSw)
      first | (go_simp; done) | (go_simp; with_reducible rfl)
     try simp only [Act.put, sA, sB, sC]
     refine wpAnyH_done (by kernel_rfl) ?_ _
     refine NoPanic.normal ?_
     have k0 := (Y.2 0 _ rfl).1
     have k1 := (Y.2 1 _ rfl).1
     have k2 := (Y.2 2 _ rfl).1
     have k3 := (Y.2 3 _ rfl).1
     have k4 := (Y.2 4 _ rfl).1
     have k5 := (Y.2 5 _ rfl).1
     have k6 := (Y.2 6 _ rfl).1
     have k7 := (Y.2 7 _ rfl).1
     have k8 := (Y.2 8 _ rfl).1
     have k9 := (Y.2 9 _ rfl).1
     have k10 := (Y.2 10 _ rfl).1
     have QQ := owNew (lo := w.heap.size) (hi := wd.heap.size) cop D.now SS.now RR.now ⟨⟨by omega, by omega⟩, ⟨by omega, by omega⟩, ⟨by omega, by omega⟩, by omega⟩ (by omega) (by omega) (by omega)
     clear D SS RR X Y
     go_wp2_with fail
     refine bodyPost_ret (v := .tuple #[.agg #[.slice da ds.length dc, .int .i64 cop, .slice (some ⟨sb, 0, none⟩) ds.length ds.length, .slice none 0 0, .slice none 0 0, .int .i64 0, .slice none 0 0, .slice none 0 0, .slice (some ⟨rb, 0, none⟩) 2 2, .slice none 0 0, .bool false], .bool true]) (by simp [results, Tryz.results6, go_sem, k0, k1, k2, k3, k4, k5, k6, k7, k8, k9, k10]) rfl ⟨⟨_, rfl, QQ⟩, BB⟩
 ·clear hx bdr hw1
  generalize w1.drew = wd at *
  try have f0 := D.fit
  try have f1 := SS.fit
  try have f2 := RR.fit
  have hlo4 := hs
  refine step_mkW rfl _ _ _ rfl _ _ rfl rfl (makeS ds.length (by omega) wd) ?_
  have SS0 := storesNew wd ds.length (by omega)
  have b : Below wd.heap.size wd (wd.alloc (.cells (madeCells (Value.agg #[.slice none 0 0, .slice none 0 0, .int .i64 0]).cells (ds.length * 3)) 80)) := (Below.refl _ _).alloc (Nat.le_refl _) _
  have es : wd.heap.size + 1 ≤ (wd.alloc (.cells (madeCells (Value.agg #[.slice none 0 0, .slice none 0 0, .int .i64 0]).cells (ds.length * 3)) 80)).heap.size := by simp
  have sz := b.size
  replace X := X.below b
  replace Y := Y.below b
  replace BB := bT BB b
  replace hs := Nat.le_trans hs b.size
  try replace L := L.below b
  try replace D := D.below b
  try replace SS := SS.below b
  try replace RR := RR.below b
  clear b
  have SS := SS0
  clear SS0
  generalize wd.heap.size = sb at *
  generalize wd.alloc (.cells (madeCells (Value.agg #[.slice none 0 0, .slice none 0 0, .int .i64 0]).cells (ds.length * 3)) 80) = wd at *
  refine hK.out _ _ (by first | exact ⟨X 0 _ rfl, X 1 _ rfl⟩ | exact hx) (fun hHeld => ?_)
  clear hK K
  try simp only [Act.put, sA, sB, sC]
  refine wpAnyH_ready (rs := [2]) (by kernel_rfl) (by simp) ?_
  refine rC rfl (fun K hK => ?_) AllReadyH.nil
  try have f0 := D.fit
  try have f1 := SS.fit
  try have f2 := RR.fit
  have hlo2 := hs
  go_simp
  refine (cloneI_any _ ds wd (dU HV _ BB) (by omega)).mono ?_
  rintro e wd ⟨⟨dv, rfl, O'⟩, b⟩
  have O := O'.own
  clear O'
  obtain ⟨-, da, dc, rfl, -, -⟩ := O.bs
  have sz := b.size
  replace X := X.below b
  replace Y := Y.below b
  replace BB := bT BB b
  replace hs := Nat.le_trans hs b.size
  try replace L := L.below b
  try replace D := D.below b
  try replace SS := SS.below b
  try replace RR := RR.below b
  clear b
  have D := OwN.sits ⟨O, O.bs.lt⟩ (Nat.le_refl _)
  clear O
  refine hK.out _ _ (by first | exact ⟨X 0 _ rfl, X 1 _ rfl⟩ | exact hx) (fun hHeld => ?_)
  clear hK K
  try simp only [Act.put, sA, sB, sC]
  refine tY 5 (v := ?_) rfl (by kernel_rfl) (.inl ⟨by rfl, ?_⟩) ‹_› ?_
  rotate_left 1
  ·intro w hSw
   (try dsimp only at hSw)
   first | (go_simp; done) | (go_simp; with_reducible rfl)
  try simp only [Act.put, sA, sB, sC]
  refine wpAnyH_ready (rs := [10]) (by kernel_rfl) (by simp) ?_
  refine rC rfl (fun K hK => ?_) AllReadyH.nil
  go_simp
  refine (implReaderNew_any wd).mono ?_
  rintro e wd ⟨rfl, b⟩
  have sz := b.size
  replace X := X.below b
  replace Y := Y.below b
  replace BB := bT BB b
  replace hs := Nat.le_trans hs b.size
  try replace L := L.below b
  try replace D := D.below b
  try replace SS := SS.below b
  try replace RR := RR.below b
  clear b
  refine hK.out _ _ (by first | exact ⟨X 0 _ rfl, X 1 _ rfl⟩ | exact hx) (fun hHeld => ?_)
  clear hK K
  try simp only [Act.put, sA, sB, sC]
  refine wpAnyH_ready (rs := [11]) (by kernel_rfl) (by simp) ?_
  refine rC rfl (fun K hK => ?_) AllReadyH.nil
  go_simp
  refine (implReaderNew_any wd).mono ?_
  rintro e wd ⟨rfl, b⟩
  have sz := b.size
  replace X := X.below b
  replace Y := Y.below b
  replace BB := bT BB b
  replace hs := Nat.le_trans hs b.size
  try replace L := L.below b
  try replace D := D.below b
  try replace SS := SS.below b
  try replace RR := RR.below b
  clear b
  refine hK.out _ _ (by first | exact ⟨X 0 _ rfl, X 1 _ rfl⟩ | exact hx) (fun hHeld => ?_)
  clear hK K
  try simp only [Act.put, sA, sB, sC]
  refine wpAnyH_ready (rs := [12]) (by kernel_rfl) (by simp) ?_
  refine rC rfl (fun K hK => ?_) AllReadyH.nil
  try have f0 := D.fit
  try have f1 := SS.fit
  try have f2 := RR.fit
  have hlo7 := hs
  go_simp
  have RR0 := readersNew wd
  have b : Below wd.heap.size wd (wd.alloc (.cells #[.int .i64 1, .int .i64 1, .slice none 0 0, .int .i64 1, .int .i64 1, .slice none 0 0] 54)) := (Below.refl _ _).alloc (Nat.le_refl _) _
  have es : wd.heap.size + 1 ≤ (wd.alloc (.cells #[.int .i64 1, .int .i64 1, .slice none 0 0, .int .i64 1, .int .i64 1, .slice none 0 0] 54)).heap.size := by simp
  have sz := b.size
  replace X := X.below b
  replace Y := Y.below b
  replace BB := bT BB b
  replace hs := Nat.le_trans hs b.size
  try replace L := L.below b
  try replace D := D.below b
  try replace SS := SS.below b
  try replace RR := RR.below b
  clear b
  have RR := RR0
  clear RR0
  generalize wd.heap.size = rb at *
  generalize wd.alloc (.cells #[.int .i64 1, .int .i64 1, .slice none 0 0, .int .i64 1, .int .i64 1, .slice none 0 0] 54) = wd at *
  refine hK.out _ _ (by first | exact ⟨X 0 _ rfl, X 1 _ rfl⟩ | exact hx) (fun hHeld => ?_)
  clear hK K
  try simp only [Act.put, sA, sB, sC]
  refine tY 13 (v := ?_) rfl (by kernel_rfl) (.inl ⟨by rfl, ?_⟩) ‹_› ?_
  rotate_left 1
  ·intro w hSw
   (try dsimp only at hSw)
   first | (go_simp; done) | (go_simp; with_reducible rfl)
  try simp only [Act.put, sA, sB, sC]
  refine wpAnyH_ready (rs := [14]) (by kernel_rfl) (by simp) ?_
  refine rC rfl (fun K hK => ?_) AllReadyH.nil
  have f0 := D.fit
  have f1 := SS.fit
  have f2 := RR.fit
  refine step_putW rfl _ _ _ rfl rfl [.slice da ds.length dc, .int .i64 cop, .slice (some ⟨sb, 0, none⟩) ds.length ds.length, .slice none 0 0, .slice none 0 0, .int .i64 0, .slice none 0 0, .slice none 0 0, .slice (some ⟨rb, 0, none⟩) 2 2, .slice none 0 0, .bool false] rfl rfl Y rfl (by kernel_rfl) (by kernel_rfl) ?_
  clear Y
  intro wd Y s g b
  replace D := D.off g (by omega) s
  replace SS := SS.off g (by omega) s
  replace RR := RR.off g (by omega) s
  replace X := X.off g (by omega)
  try replace L := L.off g (by omega)
  replace BB := BB.trans b
  clear g b
  refine hK.out _ _ (by first | exact ⟨X 0 _ rfl, X 1 _ rfl⟩ | exact hx) (fun hHeld => ?_)
  clear hK K
  try simp only [Act.put, sA, sB, sC]
  refine tY 15 (v := ?_) rfl (by kernel_rfl) (.inl ⟨by rfl, ?_⟩) ‹_› ?_
  rotate_left 1
  ·intro w hSw
   (try dsimp only at hSw)
   first | (go_simp; done) | (go_simp; with_reducible rfl)
  try simp only [Act.put, sA, sB, sC]
  refine wpAnyH_done (by kernel_rfl) ?_ _
  refine NoPanic.normal ?_
  have k0 := (Y.2 0 _ rfl).1
  have k1 := (Y.2 1 _ rfl).1
  have k2 := (Y.2 2 _ rfl).1
  have k3 := (Y.2 3 _ rfl).1
  have k4 := (Y.2 4 _ rfl).1
  have k5 := (Y.2 5 _ rfl).1
  have k6 := (Y.2 6 _ rfl).1
  have k7 := (Y.2 7 _ rfl).1
  have k8 := (Y.2 8 _ rfl).1
  have k9 := (Y.2 9 _ rfl).1
  have k10 := (Y.2 10 _ rfl).1
  have QQ := owNew (lo := w.heap.size) (hi := wd.heap.size) cop D.now SS.now RR.now ⟨⟨by omega, by omega⟩, ⟨by omega, by omega⟩, ⟨by omega, by omega⟩, by omega⟩ (by omega) (by omega) (by omega)
  clear D SS RR X Y
  go_wp2_with fail
  refine bodyPost_ret (v := .tuple #[.agg #[.slice da ds.length dc, .int .i64 cop, .slice (some ⟨sb, 0, none⟩) ds.length ds.length, .slice none 0 0, .slice none 0 0, .int .i64 0, .slice none 0 0, .slice none 0 0, .slice (some ⟨rb, 0, none⟩) 2 2, .slice none 0 0, .bool false], .bool true]) (by simp [results, Tryz.results6, go_sem, k0, k1, k2, k3, k4, k5, k6, k7, k8, k9, k10]) rfl ⟨⟨_, rfl, QQ⟩, BB⟩
end Go.Proofs.YtodfgehicpejgaaGreatDoor
