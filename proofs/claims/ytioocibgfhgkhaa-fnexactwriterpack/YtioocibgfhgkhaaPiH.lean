/- Records as bytes: impl's form of a writer, and its pack (printed by tools/mkpi.py). -/
import Derived.Test.YtioocibgfhgkhaaPiE
import Derived.Test.YtioocibgfhgkhaaPutW
import Derived.Test.YtioocibgfhgkhaaGaA
import Derived.Test.YtioocibgfhgkhaaWrF
import Derived.Deep.RegionHeld3
import Derived.Deep.DeepCutAuto
namespace Go.Proofs.Ytioocibgfhgkhaa
open Go.ChangeShapes Go.WideShapes Go.ChangeAt Go.RowKit
set_option linter.unusedVariables false
set_option linter.unusedSimpArgs false
set_option maxRecDepth 100000

/-- How a writer lasts: three functions. -/
def writerFormL (cb : Nat) : List Value := [.func (.func 83) #[] #[.pointer (some ⟨cb, 0, none⟩)], .func (.func 85) #[] #[], .func (.func 86) #[] #[.pointer (some ⟨cb, 0, none⟩)]]
set_option maxHeartbeats 4000000 in
theorem packWriter_any (cb : Nat) (x0 : Int) (a : Option Addr) (n cap : Nat) (P : Prop) (M : List UInt8 × Bool) (bs : List UInt8) (hy : P → M = (bs, true)) (hn : ¬ P → M = ([], false)) (w : World)
    (CR : ∀ W, Below w.heap.size w W → Calls Try.prog 83 #[.agg #[.int .i64 x0, .slice a n cap], .pointer (some ⟨cb, 0, none⟩)] W fun e w' => RetB P e ∧ Below W.heap.size W w')
    (CW : P → ∀ W, Below w.heap.size w W → Calls Try.prog 85 #[.slice none 0 0, .agg #[.int .i64 x0, .slice a n cap]] W fun e w' => ∃ u, e = .returned u ∧ OwnX w' W.heap.size u bs ∧ Below W.heap.size W w') :
    Calls Try.prog 56 #[.agg (writerFormL cb).toArray, .agg #[.int .i64 x0, .slice a n cap]] w fun e w' => (∃ u, e = .returned (.tuple #[u, .bool M.2]) ∧ OwnX w' w.heap.size u M.1) ∧ Below w.heap.size w w' := by
  have CR := dHide CR
  have CW := dHide CW
  have HY := dHide hy
  have HN := dHide hn
  have ba : ∀ (w : World) o, Below w.heap.size w (w.alloc o) := fun w o => (Below.refl _ _).alloc (Nat.le_refl _) o
  clear hy hn
  unfold writerFormL
  have X0 := Bx.new w [.func (.func 83) #[] #[.pointer (some ⟨cb, 0, none⟩)], .func (.func 85) #[] #[], .func (.func 86) #[] #[.pointer (some ⟨cb, 0, none⟩)]] 108
  have B0 := ba w (.cells #[.func (.func 83) #[] #[.pointer (some ⟨cb, 0, none⟩)], .func (.func 85) #[] #[], .func (.func 86) #[] #[.pointer (some ⟨cb, 0, none⟩)]] 108)
  have X1 := Bx.new (w.alloc (.cells #[.func (.func 83) #[] #[.pointer (some ⟨cb, 0, none⟩)], .func (.func 85) #[] #[], .func (.func 86) #[] #[.pointer (some ⟨cb, 0, none⟩)]] 108)) [.int .i64 x0, .slice a n cap] 55
  have b1 := ba (w.alloc (.cells #[.func (.func 83) #[] #[.pointer (some ⟨cb, 0, none⟩)], .func (.func 85) #[] #[], .func (.func 86) #[] #[.pointer (some ⟨cb, 0, none⟩)]] 108)) (.cells #[.int .i64 x0, .slice a n cap] 55)
  replace X0 := X0.below b1
  have B1 := belowThen B0 b1
  have hs : (w.alloc (.cells #[.func (.func 83) #[] #[.pointer (some ⟨cb, 0, none⟩)], .func (.func 85) #[] #[], .func (.func 86) #[] #[.pointer (some ⟨cb, 0, none⟩)]] 108)).heap.size = w.heap.size + 1 := by simp
  rw [hs] at X1
  clear hs B0 b1 ba
  go_enter Try.func56, Try.ntmps56
  go_upto_region 1 with fail
  generalize (w.alloc (.cells #[.func (.func 83) #[] #[.pointer (some ⟨cb, 0, none⟩)], .func (.func 85) #[] #[], .func (.func 86) #[] #[.pointer (some ⟨cb, 0, none⟩)]] 108)).alloc (.cells #[.int .i64 x0, .slice a n cap] 55) = w1 at *
  have k0 := X0 0 _ rfl
  have k1 := X0 1 _ rfl
  have q0 := X1 0 _ rfl
  have q1 := X1 1 _ rfl
  go_wp2_with fail
  refine (dUnhide CR _ B1).mono ?_
  rintro e w2 ⟨hr, b2⟩
  have B2 := belowThen B1 b2
  replace X0 := X0.below b2
  replace X1 := X1.below b2
  have k0 := X0 0 _ rfl
  have k1 := X0 1 _ rfl
  have q0 := X1 0 _ rfl
  have q1 := X1 1 _ rfl
  have hsz := B2.size
  clear CR b2 B1 X0 X1
  by_cases hP : P
  · obtain rfl := hr.of_yes hP
    have HM := dHide (dUnhide HY hP)
    have C2 := dHide (dUnhide CW hP _ B2)
    clear hr HY HN CW hP
    go_wp2_with fail
    refine (dUnhide C2).mono ?_
    rintro e w3 ⟨u, rfl, O3, b3⟩
    have F := dHide (And.intro (O3.mono hsz) (belowThen B2 b3))
    clear C2 O3 b3 B2 hsz k0 k1 q0 q1
    have e2 := dUnhide HM
    clear HM
    subst e2
    go_wp2
    go_ret2
    exact ⟨⟨_, rfl, (dUnhide F).1⟩, (dUnhide F).2⟩
  · obtain rfl := hr.of_no hP
    have e2 := dUnhide HN hP
    clear hr HY HN CW hP
    subst e2
    go_wp2
    go_ret2
    exact ⟨⟨_, rfl, OwnX.nil _ _⟩, B2⟩
set_option maxHeartbeats 2000000 in
theorem writerForm_any (a : Option Addr) (n cap : Nat) (x : Int) (w : World) :
    Calls Try.prog 55 #[.agg #[.slice a n cap, .int .i64 x]] w fun e w' => ∃ cb, e = .returned (.agg (writerFormL cb).toArray) ∧ Bx w' cb [.slice a n cap, .int .i64 x] ∧ Below w.heap.size w w' := by
  have X0 := Bx.new w [.slice a n cap, .int .i64 x] 29
  have b0 : Below w.heap.size w (w.alloc (.cells #[.slice a n cap, .int .i64 x] 29)) := (Below.refl _ _).alloc (Nat.le_refl _) _
  have Y0 := BxZ.new (w.alloc (.cells #[.slice a n cap, .int .i64 x] 29)) [.nilFunc, .nilFunc, .nilFunc] 108 (B := (w.alloc (.cells #[.slice a n cap, .int .i64 x] 29)).heap.size) (Nat.le_refl _)
  have b1 : Below (w.alloc (.cells #[.slice a n cap, .int .i64 x] 29)).heap.size (w.alloc (.cells #[.slice a n cap, .int .i64 x] 29)) ((w.alloc (.cells #[.slice a n cap, .int .i64 x] 29)).alloc (.cells #[.nilFunc, .nilFunc, .nilFunc] 108)) := (Below.refl _ _).alloc (Nat.le_refl _) _
  have hs : (w.alloc (.cells #[.slice a n cap, .int .i64 x] 29)).heap.size = w.heap.size + 1 := by simp
  have X1 := X0.below b1
  have B1 := belowThen b0 b1
  rw [hs] at Y0
  clear b0 X0 b1
  go_enter Try.func55, Try.ntmps55
  go_wp2_with (refine wp_putW rfl _ _ _ rfl rfl (writerFormL w.heap.size) rfl rfl Y0 rfl (by kernel_rfl) (by kernel_rfl) ?_; intro w2 Y2 s2 g2 b2)
  refine bodyPost_ret (results_box Try.results55 _ _ _ (writerFormL w.heap.size) _ rfl Y2.bx Try.underlying108 rfl (by kernel_rfl)) rfl ⟨_, rfl, X1.off g2 (by omega), B1.trans (b2.mono (by omega))⟩
set_option maxHeartbeats 4000000 in
theorem implWriterPack_face (c : List Int × Int) (ca : Option Addr) (cc : Nat) (m : Wt) (a : Option Addr) (cap : Nat) (w : World)
    (CP : ∀ W cb, Below w.heap.size w W → Bx W cb [.slice ca c.1.length cc, .int .i64 c.2] → Calls Try.prog 56 #[.agg (writerFormL cb).toArray, .agg #[.int .i64 m.epoch, .slice a m.words.length cap]] W fun e w' => (∃ u, e = .returned (.tuple #[u, .bool (wtM c.1 c.2 m).2]) ∧ OwnX w' W.heap.size u (wtM c.1 c.2 m).1) ∧ Below W.heap.size W w') :
    Calls Try.prog 25 #[.agg #[.slice ca c.1.length cc, .int .i64 c.2], .agg #[.int .i64 m.epoch, .slice a m.words.length cap]] w fun e w' => (∃ u, e = .returned (.tuple #[u, .bool (wtM c.1 c.2 m).2]) ∧ OwnX w' w.heap.size u (wtM c.1 c.2 m).1) ∧ Below w.heap.size w w' := by
  have ba : ∀ (w : World) o, Below w.heap.size w (w.alloc o) := fun w o => (Below.refl _ _).alloc (Nat.le_refl _) o
  have CF := dHide fun W => writerForm_any ca c.1.length cc c.2 W
  have CP := dHide CP
  generalize wtM c.1 c.2 m = M at *
  have e1 : (w.alloc (.cells #[.slice ca c.1.length cc, .int .i64 c.2] 29)).heap.size = w.heap.size + 1 := by simp
  have X0 := (Bx.new w [.slice ca c.1.length cc, .int .i64 c.2] 29).below (ba _ (.cells #[.int .i64 m.epoch, .slice a m.words.length cap] 55))
  have X1 := Bx.new (w.alloc (.cells #[.slice ca c.1.length cc, .int .i64 c.2] 29)) [.int .i64 m.epoch, .slice a m.words.length cap] 55
  rw [e1] at X1
  have B0 := belowThen (ba w (.cells #[.slice ca c.1.length cc, .int .i64 c.2] 29)) (ba _ (.cells #[.int .i64 m.epoch, .slice a m.words.length cap] 55))
  have hsz : ((w.alloc (.cells #[.slice ca c.1.length cc, .int .i64 c.2] 29)).alloc (.cells #[.int .i64 m.epoch, .slice a m.words.length cap] 55)).heap.size = w.heap.size + 2 := by simp
  have KX : Hid (∀ W, Below (w.heap.size + 2) ((w.alloc (.cells #[.slice ca c.1.length cc, .int .i64 c.2] 29)).alloc (.cells #[.int .i64 m.epoch, .slice a m.words.length cap] 55)) W → (W.cell? ⟨w.heap.size, 0, none⟩ = some (.slice ca c.1.length cc) ∧ W.cell? ⟨w.heap.size, 1, none⟩ = some (.int .i64 c.2) ∧ W.cell? ⟨w.heap.size + 1, 0, none⟩ = some (.int .i64 m.epoch) ∧ W.cell? ⟨w.heap.size + 1, 1, none⟩ = some (.slice a m.words.length cap)) ∧ Below w.heap.size w W) := fun W hb => by
    rw [← hsz] at hb
    have X := X0.below hb
    have Y := X1.below hb
    exact ⟨⟨X 0 _ rfl, X 1 _ rfl, Y 0 _ rfl, Y 1 _ rfl⟩, belowThen B0 hb⟩
  clear X0 X1 B0 ba e1
  go_enter Try.func25, Try.ntmps25
  go_upto_region 1 with fail
  generalize (w.alloc (.cells #[.slice ca c.1.length cc, .int .i64 c.2] 29)).alloc (.cells #[.int .i64 m.epoch, .slice a m.words.length cap] 55) = w0 at *
  have hbr : Below (w.heap.size + 2) w0 w0 := Below.refl _ _
  have HS := dHide hsz
  obtain ⟨p0, p1, p2, p3⟩ := (dUnhide KX _ hbr).1
  clear hsz
  go_region_held3 (fun W => W.cell? ⟨w.heap.size, 0, none⟩ = some (.slice ca c.1.length cc) ∧ W.cell? ⟨w.heap.size, 1, none⟩ = some (.int .i64 c.2) ∧ W.cell? ⟨w.heap.size + 1, 0, none⟩ = some (.int .i64 m.epoch) ∧ W.cell? ⟨w.heap.size + 1, 1, none⟩ = some (.slice a m.words.length cap)) (go_keep)
    (first
      | (go_at_call 55; refine (dUnhide CF _).mono ?_; rintro e w2 ⟨cb, rfl, x2, b2⟩; have B2 : Below (w.heap.size + 2) w0 w2 := hbr.drew.trans (b2.mono (by first | exact hbr.drew.size | (have := dUnhide HS; simp; omega))); obtain ⟨r0, r1, r2, r3⟩ := (dUnhide KX _ B2).1; have R2 := dHide (And.intro (dUnhide KX _ B2).2 x2); clear b2 x2)
      | (go_at_call 56; refine (dUnhide CP _ _ (dUnhide R2).1 (dUnhide R2).2).mono ?_; rintro e w3 ⟨⟨u, rfl, O3⟩, b3⟩; have B3 : Below (w.heap.size + 2) w0 w3 := B2.trans (b3.mono (by have := dUnhide HS; have := B2.size; omega)); obtain ⟨t0, t1, t2, t3⟩ := (dUnhide KX _ B3).1; have F := dHide (And.intro (O3.mono (dUnhide R2).1.size) (belowThen (dUnhide R2).1 b3)); clear O3 b3)
      | fail)
  all_goals (try go_wp2)
  all_goals (go_ret2; exact ⟨⟨_, rfl, (dUnhide F).1⟩, (dUnhide F).2⟩)
end Go.Proofs.Ytioocibgfhgkhaa
