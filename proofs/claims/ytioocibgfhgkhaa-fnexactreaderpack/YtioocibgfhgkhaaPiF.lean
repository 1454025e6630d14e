/- Records as bytes: impl's form of a reader, and its pack (printed by tools/mkpi.py). -/
import Derived.Test.YtioocibgfhgkhaaPiC
import Derived.Test.YtioocibgfhgkhaaPutW
import Derived.Test.YtioocibgfhgkhaaGaA
import Derived.Test.YtioocibgfhgkhaaEvQ
import Derived.Deep.RegionHeld3
import Derived.Deep.DeepCutAuto
namespace Go.Proofs.Ytioocibgfhgkhaa
open Go.ChangeShapes Go.WideShapes Go.ChangeAt Go.RowKit
set_option linter.unusedVariables false
set_option linter.unusedSimpArgs false
set_option maxRecDepth 100000

/-- How a reader lasts: three functions. -/
def readerFormL : List Value := [.func (.func 94) #[] #[], .func (.func 98) #[] #[], .func (.func 99) #[] #[]]
set_option maxHeartbeats 4000000 in
theorem packReader_any (x0 x1 : Int) (a : Option Addr) (n cap : Nat) (P : Prop) (M : List UInt8 × Bool) (bs : List UInt8) (hy : P → M = (bs, true)) (hn : ¬ P → M = ([], false)) (w : World)
    (CR : ∀ W, Below w.heap.size w W → Calls Try.prog 94 #[.agg #[.int .i64 x0, .int .i64 x1, .slice a n cap]] W fun e w' => RetB P e ∧ Below W.heap.size W w')
    (CW : P → ∀ W, Below w.heap.size w W → Calls Try.prog 98 #[.slice none 0 0, .agg #[.int .i64 x0, .int .i64 x1, .slice a n cap]] W fun e w' => ∃ u, e = .returned u ∧ OwnX w' W.heap.size u bs ∧ Below W.heap.size W w') :
    Calls Try.prog 63 #[.agg (readerFormL).toArray, .agg #[.int .i64 x0, .int .i64 x1, .slice a n cap]] w fun e w' => (∃ u, e = .returned (.tuple #[u, .bool M.2]) ∧ OwnX w' w.heap.size u M.1) ∧ Below w.heap.size w w' := by
  have CR := dHide CR
  have CW := dHide CW
  have HY := dHide hy
  have HN := dHide hn
  have ba : ∀ (w : World) o, Below w.heap.size w (w.alloc o) := fun w o => (Below.refl _ _).alloc (Nat.le_refl _) o
  clear hy hn
  unfold readerFormL
  have X0 := Bx.new w [.func (.func 94) #[] #[], .func (.func 98) #[] #[], .func (.func 99) #[] #[]] 121
  have B0 := ba w (.cells #[.func (.func 94) #[] #[], .func (.func 98) #[] #[], .func (.func 99) #[] #[]] 121)
  have X1 := Bx.new (w.alloc (.cells #[.func (.func 94) #[] #[], .func (.func 98) #[] #[], .func (.func 99) #[] #[]] 121)) [.int .i64 x0, .int .i64 x1, .slice a n cap] 67
  have b1 := ba (w.alloc (.cells #[.func (.func 94) #[] #[], .func (.func 98) #[] #[], .func (.func 99) #[] #[]] 121)) (.cells #[.int .i64 x0, .int .i64 x1, .slice a n cap] 67)
  replace X0 := X0.below b1
  have B1 := belowThen B0 b1
  have hs : (w.alloc (.cells #[.func (.func 94) #[] #[], .func (.func 98) #[] #[], .func (.func 99) #[] #[]] 121)).heap.size = w.heap.size + 1 := by simp
  rw [hs] at X1
  clear hs B0 b1 ba
  go_enter Try.func63, Try.ntmps63
  go_upto_region 1 with fail
  generalize (w.alloc (.cells #[.func (.func 94) #[] #[], .func (.func 98) #[] #[], .func (.func 99) #[] #[]] 121)).alloc (.cells #[.int .i64 x0, .int .i64 x1, .slice a n cap] 67) = w1 at *
  have k0 := X0 0 _ rfl
  have k1 := X0 1 _ rfl
  have q0 := X1 0 _ rfl
  have q1 := X1 1 _ rfl
  have q2 := X1 2 _ rfl
  go_wp2_with fail
  refine (dUnhide CR _ B1).mono ?_
  rintro e w2 ⟨hr, b2⟩
  have B2 := belowThen B1 b2
  replace X0 := X0.below b2
  replace X1 := X1.below b2
  have k0 := X0 0 _ rfl
  have k1 := X0 1 _ rfl
  have q0 := X1 0 _ rfl
  have q1 := X1 1 _ rfl
  have q2 := X1 2 _ rfl
  have hsz := B2.size
  clear CR b2 B1 X0 X1
  by_cases hP : P
  · obtain rfl := hr.of_yes hP
    have HM := dHide (dUnhide HY hP)
    have C2 := dHide (dUnhide CW hP _ B2)
    clear hr HY HN CW hP
    go_wp2_with fail
    refine (dUnhide C2).mono ?_
    rintro e w3 ⟨u, rfl, O3, b3⟩
    have F := dHide (And.intro (O3.mono hsz) (belowThen B2 b3))
    clear C2 O3 b3 B2 hsz k0 k1 q0 q1 q2
    have e2 := dUnhide HM
    clear HM
    subst e2
    go_wp2
    go_ret2
    exact ⟨⟨_, rfl, (dUnhide F).1⟩, (dUnhide F).2⟩
  · obtain rfl := hr.of_no hP
    have e2 := dUnhide HN hP
    clear hr HY HN CW hP
    subst e2
    go_wp2
    go_ret2
    exact ⟨⟨_, rfl, OwnX.nil _ _⟩, B2⟩
set_option maxHeartbeats 2000000 in
theorem readerForm_any (w : World) :
    Calls Try.prog 62 #[] w fun e w' => e = .returned (.agg readerFormL.toArray) ∧ Below w.heap.size w w' := by
  have Y0 := BxZ.new w [.nilFunc, .nilFunc, .nilFunc] 121 (B := w.heap.size) (Nat.le_refl _)
  have B0 : Below w.heap.size w (w.alloc (.cells #[.nilFunc, .nilFunc, .nilFunc] 121)) := (Below.refl _ _).alloc (Nat.le_refl _) _
  go_enter Try.func62, Try.ntmps62
  go_wp2_with (refine wp_putW rfl _ _ _ rfl rfl readerFormL rfl rfl Y0 rfl (by kernel_rfl) (by kernel_rfl) ?_; intro w2 Y2 s2 g2 b2)
  refine bodyPost_ret (results_box Try.results62 _ _ _ readerFormL _ rfl Y2.bx Try.underlying121 rfl (by kernel_rfl)) rfl ⟨rfl, B0.trans b2⟩
set_option maxHeartbeats 4000000 in
theorem implReaderPack_face (m : Rr) (a : Option Addr) (cap : Nat) (w : World)
    (CP : ∀ W, Below w.heap.size w W → Calls Try.prog 63 #[.agg readerFormL.toArray, .agg #[.int .i64 m.epoch, .int .i64 m.off, .slice a m.out.length cap]] W fun e w' => (∃ u, e = .returned (.tuple #[u, .bool (rdM m).2]) ∧ OwnX w' W.heap.size u (rdM m).1) ∧ Below W.heap.size W w') :
    Calls Try.prog 31 #[.agg #[.int .i64 m.epoch, .int .i64 m.off, .slice a m.out.length cap]] w fun e w' => (∃ u, e = .returned (.tuple #[u, .bool (rdM m).2]) ∧ OwnX w' w.heap.size u (rdM m).1) ∧ Below w.heap.size w w' := by
  have ba : ∀ (w : World) o, Below w.heap.size w (w.alloc o) := fun w o => (Below.refl _ _).alloc (Nat.le_refl _) o
  have CF := dHide fun W => readerForm_any W
  have CP := dHide CP
  generalize rdM m = M at *
  have X0 := Bx.new w [.int .i64 m.epoch, .int .i64 m.off, .slice a m.out.length cap] 67
  have B0 := ba w (.cells #[.int .i64 m.epoch, .int .i64 m.off, .slice a m.out.length cap] 67)
  have KX : Hid (∀ W, Below (w.heap.size + 1) (w.alloc (.cells #[.int .i64 m.epoch, .int .i64 m.off, .slice a m.out.length cap] 67)) W → (W.cell? ⟨w.heap.size, 0, none⟩ = some (.int .i64 m.epoch) ∧ W.cell? ⟨w.heap.size, 1, none⟩ = some (.int .i64 m.off) ∧ W.cell? ⟨w.heap.size, 2, none⟩ = some (.slice a m.out.length cap)) ∧ Below w.heap.size w W) := fun W hb => by
    have hs : (w.alloc (.cells #[.int .i64 m.epoch, .int .i64 m.off, .slice a m.out.length cap] 67)).heap.size = w.heap.size + 1 := by simp
    rw [← hs] at hb
    have X := X0.below hb
    exact ⟨⟨X 0 _ rfl, X 1 _ rfl, X 2 _ rfl⟩, belowThen B0 hb⟩
  have hsz : (w.alloc (.cells #[.int .i64 m.epoch, .int .i64 m.off, .slice a m.out.length cap] 67)).heap.size = w.heap.size + 1 := by simp
  clear X0 B0 ba
  go_enter Try.func31, Try.ntmps31
  go_upto_region 1 with fail
  generalize w.alloc (.cells #[.int .i64 m.epoch, .int .i64 m.off, .slice a m.out.length cap] 67) = w0 at *
  have hbr : Below (w.heap.size + 1) w0 w0 := Below.refl _ _
  have HS := dHide hsz
  obtain ⟨p0, p1, p2⟩ := (dUnhide KX _ hbr).1
  clear hsz
  go_region_held3 (fun W => W.cell? ⟨w.heap.size, 0, none⟩ = some (.int .i64 m.epoch) ∧ W.cell? ⟨w.heap.size, 1, none⟩ = some (.int .i64 m.off) ∧ W.cell? ⟨w.heap.size, 2, none⟩ = some (.slice a m.out.length cap)) (go_keep)
    (first
      | (go_at_call 62; refine (dUnhide CF _).mono ?_; rintro e w2 ⟨rfl, b2⟩; have B2 : Below (w.heap.size + 1) w0 w2 := hbr.drew.trans (b2.mono (by first | exact hbr.drew.size | (have := dUnhide HS; simp; omega))); obtain ⟨r0, r1, r2⟩ := (dUnhide KX _ B2).1; have R2 := dHide (dUnhide KX _ B2).2; clear b2)
      | (go_at_call 63; refine (dUnhide CP _ (dUnhide R2)).mono ?_; rintro e w3 ⟨⟨u, rfl, O3⟩, b3⟩; have B3 : Below (w.heap.size + 1) w0 w3 := B2.trans (b3.mono (by have := dUnhide HS; have := B2.size; omega)); obtain ⟨t0, t1, t2⟩ := (dUnhide KX _ B3).1; have F := dHide (And.intro (O3.mono (dUnhide R2).size) (belowThen (dUnhide R2) b3)); clear O3 b3)
      | fail)
  all_goals (try go_wp2)
  all_goals (go_ret2; exact ⟨⟨_, rfl, (dUnhide F).1⟩, (dUnhide F).2⟩)
end Go.Proofs.Ytioocibgfhgkhaa
