/- FnExactWriterSure: both answers, and the law's walk (printed by tools/mkl8.py). -/
import Derived.Test.YtfipenjojgflmaaQ8S
import Derived.Deep.RegionHeld3
import Derived.Deep.DeepCutAuto
namespace Go.Proofs.Ytfipenjojgflmaa
open Go.ChangeShapes Go.WideShapes Go.ChangeAt Go.RowKit
set_option linter.unusedVariables false
theorem bothFnExactWriterSure (m0 : Wt) (ok0 : okWriter m0) (hs0 : sizWriter m0 ≤ 1048576) : ∃ (s0 : Int), (∀ W v0, RdWriter v0 m0 W → Calls Try.prog 23 #[v0] W fun e w' => e = .returned (.int .i64 s0) ∧ Below W.heap.size W w') ∧ (∀ W v0, RdWriter v0 m0 W → Calls Try.prog 16 #[v0] W fun e w' => e = .returned (.int .i64 s0) ∧ Below W.heap.size W w') := bothWriterSure_ m0 ok0 hs0
set_option maxHeartbeats 4000000 in
set_option maxRecDepth 100000 in
theorem walkFnExactWriterSure (v0 : Value) (m0 : Wt) (w : World) (i0 : IsWriter v0 m0 w) :
    Calls Try.prog 11 #[v0] w fun r w' => r = .returned (.bool true) ∧ Below w.heap.size w w' := by
  obtain ⟨r0, ok0⟩ := i0
  have ha : ∀ (w : World) o, Below w.heap.size w (w.alloc o) := fun w o => (Below.refl _ _).alloc (Nat.le_refl _) o
  have A0 := dHide fun W (hb : Below w.heap.size w W) => r0.below hb
  obtain ⟨v0a, v0c, rfl, v0l⟩ := formWriter r0
  by_cases z0 : (1048576 : Int) < (sizWriter m0 : Int)
  · have CS0 := dHide fun W (hb : Below w.heap.size w W) => szWriter_ _ m0 (1048576 : Int) (by omega) (by omega) (txtW_of ok0) W (dUnhide A0 W hb)
    rw [lft_no z0] at CS0
    clear z0
    go_enter Try.func11, Try.ntmps11
    go_wp2_with fail
    have B := ha w (.cells #[.int .i64 m0.epoch, .slice v0a m0.words.length v0c] 52)
    have X0 := dHide (Sits.box w #[.int .i64 m0.epoch, .slice v0a m0.words.length v0c] 52)
    have sz0 : Hid (w.heap.size + 1 = (w.alloc (.cells #[.int .i64 m0.epoch, .slice v0a m0.words.length v0c] 52)).heap.size) := by simp [Hid]
    generalize w.alloc (.cells #[.int .i64 m0.epoch, .slice v0a m0.words.length v0c] 52) = wb at *
    refine (dUnhide CS0 _ B).mono ?_
    rintro e ws0 ⟨rfl, bs⟩
    have sz1 := dHide bs.size
    replace X0 := dHide ((dUnhide X0).below bs)
    replace B := belowThen B bs
    clear bs CS0
    clear X0
    go_wp2
    go_ret
    exact ⟨rfl, B⟩
  have hs0 : sizWriter m0 ≤ 1048576 := by omega
  have hc0 := cntWriter_le hs0
  obtain ⟨s0, p1, p2⟩ := bothFnExactWriterSure m0 ok0 hs0
  have CP := dHide p1
  have CI := dHide p2
  have CS0 := dHide fun W (hb : Below w.heap.size w W) => szWriter_ _ m0 (1048576 : Int) (by omega) (by omega) (txtW_of ok0) W (dUnhide A0 W hb)
  rw [lft_yes z0] at CS0
  have z0' : ¬ ((1048576 : Int) - (sizWriter m0 : Int) < 0) := by omega
  clear p1 p2 r0 ok0 
  go_enter Try.func11, Try.ntmps11
  go_wp2_with fail
  have B := ha w (.cells #[.int .i64 m0.epoch, .slice v0a m0.words.length v0c] 52)
  have X0 := dHide (Sits.box w #[.int .i64 m0.epoch, .slice v0a m0.words.length v0c] 52)
  have sz0 : Hid (w.heap.size + 1 = (w.alloc (.cells #[.int .i64 m0.epoch, .slice v0a m0.words.length v0c] 52)).heap.size) := by simp [Hid]
  generalize w.alloc (.cells #[.int .i64 m0.epoch, .slice v0a m0.words.length v0c] 52) = wb at *
  refine (dUnhide CS0 _ B).mono ?_
  rintro e ws0 ⟨rfl, bs⟩
  have sz1 := dHide bs.size
  replace X0 := dHide ((dUnhide X0).below bs)
  replace B := belowThen B bs
  clear bs CS0
  have k2 := (dUnhide X0).now 0 _ rfl
  have k3 := (dUnhide X0).now 1 _ rfl
  go_wp2_with fail
  refine (toWriter_ _ m0 _ hs0 (dUnhide A0 _ B)).mono ?_
  rintro e w6 ⟨u5, rfl, T4, b7⟩
  clear k2 k3
  have sz8 := dHide b7.size
  replace X0 := dHide ((dUnhide X0).below b7)
  replace B := belowThen B b7
  replace T4 := dHide T4
  clear b7
  obtain ⟨u5a, u5c, rfl, u5l⟩ := formWriter (dUnhide T4).now.rd
  go_wp2_with fail
  refine (dUnhide CP _ _ (dUnhide T4).now.rd).mono ?_
  rintro e w3 ⟨rfl, bw⟩
  clear T4
  have sz9 := dHide bw.size
  replace X0 := dHide ((dUnhide X0).below bw)
  replace B := belowThen B bw
  clear bw CP
  have k10 := (dUnhide X0).now 0 _ rfl
  have k11 := (dUnhide X0).now 1 _ rfl
  go_wp2_with fail
  refine (toWriter_ _ m0 _ hs0 (dUnhide A0 _ B)).mono ?_
  rintro e w14 ⟨u13, rfl, T12, b15⟩
  clear k10 k11
  have sz16 := dHide b15.size
  replace X0 := dHide ((dUnhide X0).below b15)
  replace B := belowThen B b15
  replace T12 := dHide T12
  clear b15
  obtain ⟨u13a, u13c, rfl, u13l⟩ := formWriter (dUnhide T12).now.rd
  have X17 := Sits.box w14 #[.int .i64 m0.epoch, .slice u13a m0.words.length u13c] 29
  have ba := ha w14 (.cells #[.int .i64 m0.epoch, .slice u13a m0.words.length u13c] 29)
  have sz19 := dHide ba.size
  replace X0 := dHide ((dUnhide X0).below ba)
  replace T12 := dHide ((dUnhide T12).below ba)
  replace B := belowThen B ba
  have sz20 : Hid (w14.heap.size + 1 = (w14.alloc (.cells #[.int .i64 m0.epoch, .slice u13a m0.words.length u13c] 29)).heap.size) := by simp [Hid]
  replace X17 := dHide X17
  clear ba
  go_wp2_with fail
  generalize hbx18 : w14.heap.size = bx18 at *
  generalize w14.alloc (.cells #[.int .i64 m0.epoch, .slice u13a m0.words.length u13c] 29) = w21 at *
  have sz22 := dHide hbx18
  clear hbx18
  have k23 := (dUnhide X17).now 0 _ rfl
  have k24 := (dUnhide X17).now 1 _ rfl
  refine (dUnhide CI _ _ (dUnhide T12).now.rd).mono ?_
  rintro e w25 ⟨rfl, b26⟩
  clear k23 k24
  have sz27 := dHide b26.size
  replace X0 := dHide ((dUnhide X0).below b26)
  replace T12 := dHide ((dUnhide T12).below b26)
  replace X17 := dHide ((dUnhide X17).below b26)
  replace B := belowThen B b26
  clear b26
  have k28 := (dUnhide X17).now 0 _ rfl
  have k29 := (dUnhide X17).now 1 _ rfl
  have k30 := (dUnhide X0).now 0 _ rfl
  have k31 := (dUnhide X0).now 1 _ rfl
  have hbr := Below.refl w25.heap.size w25
  go_wp2_with fail
  go_cut [26] (fun sv wx => sv = .bool false ∧ Below w25.heap.size w25 wx)
  case first =>
    go_region_held3 (fun W => W.cell? ⟨bx18, 0, none⟩ = some (.int .i64 m0.epoch) ∧ W.cell? ⟨bx18, 1, none⟩ = some (.slice u13a m0.words.length u13c) ∧ W.cell? ⟨w.heap.size, 0, none⟩ = some (.int .i64 m0.epoch) ∧ W.cell? ⟨w.heap.size, 1, none⟩ = some (.slice v0a m0.words.length v0c)) (go_keep)
      (first
        | (go_at_call 33; refine (toWriter_ _ m0 _ hs0 (dUnhide A0 _ (belowThen B hbr.drew))).mono ?_; rintro e w8 ⟨o8, rfl, q8, b8⟩; have hb8 := belowThen hbr.drew b8; have k32 := ((dUnhide X17).at hb8) 0 _ rfl; have k33 := ((dUnhide X17).at hb8) 1 _ rfl; have k34 := ((dUnhide X0).at hb8) 0 _ rfl; have k35 := ((dUnhide X0).at hb8) 1 _ rfl; have Q8 := dHide q8; obtain ⟨o8a, o8c, rfl, o8l⟩ := formWriter q8.now.rd; clear q8)
        | (go_at_call 35; refine (eqWriter_ _ _ _ _ ((dUnhide T12).at hb8).rd (dUnhide Q8).now.rd).mono ?_; rintro e w9 ⟨rfl, b9⟩; have hb9 := belowThen hb8 b9; have k36 := ((dUnhide X17).at hb9) 0 _ rfl; have k37 := ((dUnhide X17).at hb9) 1 _ rfl; have k38 := ((dUnhide X0).at hb9) 0 _ rfl; have k39 := ((dUnhide X0).at hb9) 1 _ rfl))
    all_goals
      go_wp2_with fail
      go_meet
      case rel => exact ⟨rfl, hb9⟩
  case rest =>
    obtain ⟨rfl, bc⟩ := hcut
    clear hbr
    clear k28 k29 k30 k31
    have sz40 := dHide bc.size
    replace X0 := dHide ((dUnhide X0).below bc)
    replace T12 := dHide ((dUnhide T12).below bc)
    replace X17 := dHide ((dUnhide X17).below bc)
    replace B := belowThen B bc
    generalize wc = w41 at *
    clear bc
    clear X0 T12 X17
    go_wp2
    go_ret
    exact ⟨rfl, B⟩
end Go.Proofs.Ytfipenjojgflmaa
