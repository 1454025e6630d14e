/- FnExactReaderOk: both answers, and the law's walk (printed by tools/mkl10.py). -/
import Derived.Test.YtapfdmmfhfkhkaaRdO
import Derived.Deep.RegionHeld3
import Derived.Deep.DeepCutAuto
namespace Go.Proofs.Ytapfdmmfhfkhkaa
open Go.ChangeShapes Go.WideShapes Go.ChangeAt Go.RowKit
set_option linter.unusedVariables false
theorem bothFnExactReaderOk (m0 : Rr) (ok0 : okReader m0) (hs0 : sizReader m0 ≤ 1048576) : ∃ (s0 : Bool), (∀ W v0, RdReader v0 m0 W → Calls Try.prog 16 #[v0] W fun e w' => e = .returned (.bool s0) ∧ Below W.heap.size W w') ∧ (∀ W v0, RdReader v0 m0 W → Calls Try.prog 18 #[v0] W fun e w' => e = .returned (.bool s0) ∧ Below W.heap.size W w') := bothReaderOk_ m0 ok0 hs0
set_option maxHeartbeats 4000000 in
set_option maxRecDepth 100000 in
theorem walkFnExactReaderOk (v0 : Value) (m0 : Rr) (w : World) (i0 : IsReader v0 m0 w) :
    Calls Try.prog 4 #[v0] w fun r w' => r = .returned (.bool true) ∧ Below w.heap.size w w' := by
  obtain ⟨r0, ok0⟩ := i0
  have ha : ∀ (w : World) o, Below w.heap.size w (w.alloc o) := fun w o => (Below.refl _ _).alloc (Nat.le_refl _) o
  have A0 := dHide fun W (hb : Below w.heap.size w W) => r0.below hb
  obtain ⟨v0a, v0c, rfl, v0l⟩ := formReader r0
  by_cases z0 : (1048576 : Int) < (sizReader m0 : Int)
  · have CS0 := dHide fun W (hb : Below w.heap.size w W) => szReader_ _ m0 (1048576 : Int) (by omega) (by omega) (txtR_of ok0) W (dUnhide A0 W hb)
    rw [lft_no z0] at CS0
    clear z0
    go_enter Try.func4, Try.ntmps4
    go_wp2_with fail
    have B := ha w (.cells #[.int .i64 m0.epoch, .int .i64 m0.off, .slice v0a m0.out.length v0c] 40)
    have X0 := dHide (Sits.box w #[.int .i64 m0.epoch, .int .i64 m0.off, .slice v0a m0.out.length v0c] 40)
    have sz0 : Hid (w.heap.size + 1 = (w.alloc (.cells #[.int .i64 m0.epoch, .int .i64 m0.off, .slice v0a m0.out.length v0c] 40)).heap.size) := by simp [Hid]
    generalize w.alloc (.cells #[.int .i64 m0.epoch, .int .i64 m0.off, .slice v0a m0.out.length v0c] 40) = wb at *
    refine (dUnhide CS0 _ B).mono ?_
    rintro e ws0 ⟨rfl, bs⟩
    have sz1 := dHide bs.size
    replace X0 := dHide ((dUnhide X0).below bs)
    replace B := belowThen B bs
    clear bs CS0
    clear X0
    go_wp2
    go_ret
    exact ⟨rfl, B⟩
  have hs0 : sizReader m0 ≤ 1048576 := by omega
  have hc0 := cntReader_le hs0
  obtain ⟨s0, p1, p2⟩ := bothFnExactReaderOk m0 ok0 hs0
  have CP := dHide p1
  have CI := dHide p2
  have CS0 := dHide fun W (hb : Below w.heap.size w W) => szReader_ _ m0 (1048576 : Int) (by omega) (by omega) (txtR_of ok0) W (dUnhide A0 W hb)
  rw [lft_yes z0] at CS0
  have z0' : ¬ ((1048576 : Int) - (sizReader m0 : Int) < 0) := by omega
  clear p1 p2 r0 ok0 
  go_enter Try.func4, Try.ntmps4
  go_wp2_with fail
  have B := ha w (.cells #[.int .i64 m0.epoch, .int .i64 m0.off, .slice v0a m0.out.length v0c] 40)
  have X0 := dHide (Sits.box w #[.int .i64 m0.epoch, .int .i64 m0.off, .slice v0a m0.out.length v0c] 40)
  have sz0 : Hid (w.heap.size + 1 = (w.alloc (.cells #[.int .i64 m0.epoch, .int .i64 m0.off, .slice v0a m0.out.length v0c] 40)).heap.size) := by simp [Hid]
  generalize w.alloc (.cells #[.int .i64 m0.epoch, .int .i64 m0.off, .slice v0a m0.out.length v0c] 40) = wb at *
  refine (dUnhide CS0 _ B).mono ?_
  rintro e ws0 ⟨rfl, bs⟩
  have sz1 := dHide bs.size
  replace X0 := dHide ((dUnhide X0).below bs)
  replace B := belowThen B bs
  clear bs CS0
  have k2 := (dUnhide X0).now 0 _ rfl
  have k3 := (dUnhide X0).now 1 _ rfl
  have k4 := (dUnhide X0).now 2 _ rfl
  go_wp2_with fail
  refine (toReader_ _ m0 _ hs0 (dUnhide A0 _ B)).mono ?_
  rintro e w7 ⟨u6, rfl, T5, b8⟩
  clear k2 k3 k4
  have sz9 := dHide b8.size
  replace X0 := dHide ((dUnhide X0).below b8)
  replace B := belowThen B b8
  replace T5 := dHide T5
  clear b8
  obtain ⟨u6a, u6c, rfl, u6l⟩ := formReader (dUnhide T5).now.rd
  go_wp2_with fail
  refine (dUnhide CP _ _ (dUnhide T5).now.rd).mono ?_
  rintro e w3 ⟨rfl, bw⟩
  clear T5
  have sz10 := dHide bw.size
  replace X0 := dHide ((dUnhide X0).below bw)
  replace B := belowThen B bw
  clear bw CP
  have k11 := (dUnhide X0).now 0 _ rfl
  have k12 := (dUnhide X0).now 1 _ rfl
  have k13 := (dUnhide X0).now 2 _ rfl
  go_wp2_with fail
  refine (toReader_ _ m0 _ hs0 (dUnhide A0 _ B)).mono ?_
  rintro e w16 ⟨u15, rfl, T14, b17⟩
  clear k11 k12 k13
  have sz18 := dHide b17.size
  replace X0 := dHide ((dUnhide X0).below b17)
  replace B := belowThen B b17
  replace T14 := dHide T14
  clear b17
  obtain ⟨u15a, u15c, rfl, u15l⟩ := formReader (dUnhide T14).now.rd
  have X19 := Sits.box w16 #[.int .i64 m0.epoch, .int .i64 m0.off, .slice u15a m0.out.length u15c] 45
  have ba := ha w16 (.cells #[.int .i64 m0.epoch, .int .i64 m0.off, .slice u15a m0.out.length u15c] 45)
  have sz21 := dHide ba.size
  replace X0 := dHide ((dUnhide X0).below ba)
  replace T14 := dHide ((dUnhide T14).below ba)
  replace B := belowThen B ba
  have sz22 : Hid (w16.heap.size + 1 = (w16.alloc (.cells #[.int .i64 m0.epoch, .int .i64 m0.off, .slice u15a m0.out.length u15c] 45)).heap.size) := by simp [Hid]
  replace X19 := dHide X19
  clear ba
  go_wp2_with fail
  generalize hbx20 : w16.heap.size = bx20 at *
  generalize w16.alloc (.cells #[.int .i64 m0.epoch, .int .i64 m0.off, .slice u15a m0.out.length u15c] 45) = w23 at *
  have sz24 := dHide hbx20
  clear hbx20
  have k25 := (dUnhide X19).now 0 _ rfl
  have k26 := (dUnhide X19).now 1 _ rfl
  have k27 := (dUnhide X19).now 2 _ rfl
  refine (dUnhide CI _ _ (dUnhide T14).now.rd).mono ?_
  rintro e w28 ⟨rfl, b29⟩
  clear k25 k26 k27
  have sz30 := dHide b29.size
  replace X0 := dHide ((dUnhide X0).below b29)
  replace T14 := dHide ((dUnhide T14).below b29)
  replace X19 := dHide ((dUnhide X19).below b29)
  replace B := belowThen B b29
  clear b29
  have k31 := (dUnhide X19).now 0 _ rfl
  have k32 := (dUnhide X19).now 1 _ rfl
  have k33 := (dUnhide X19).now 2 _ rfl
  have k34 := (dUnhide X0).now 0 _ rfl
  have k35 := (dUnhide X0).now 1 _ rfl
  have k36 := (dUnhide X0).now 2 _ rfl
  have hbr := Below.refl w28.heap.size w28
  go_wp2_with fail
  go_cut [26] (fun sv wx => sv = .bool false ∧ Below w28.heap.size w28 wx)
  case first =>
    go_region_held3 (fun W => W.cell? ⟨bx20, 0, none⟩ = some (.int .i64 m0.epoch) ∧ W.cell? ⟨bx20, 1, none⟩ = some (.int .i64 m0.off) ∧ W.cell? ⟨bx20, 2, none⟩ = some (.slice u15a m0.out.length u15c) ∧ W.cell? ⟨w.heap.size, 0, none⟩ = some (.int .i64 m0.epoch) ∧ W.cell? ⟨w.heap.size, 1, none⟩ = some (.int .i64 m0.off) ∧ W.cell? ⟨w.heap.size, 2, none⟩ = some (.slice v0a m0.out.length v0c)) (go_keep)
      (first
        | (go_at_call 17; refine (toReader_ _ m0 _ hs0 (dUnhide A0 _ (belowThen B hbr.drew))).mono ?_; rintro e w8 ⟨o8, rfl, q8, b8⟩; have hb8 := belowThen hbr.drew b8; have k37 := ((dUnhide X19).at hb8) 0 _ rfl; have k38 := ((dUnhide X19).at hb8) 1 _ rfl; have k39 := ((dUnhide X19).at hb8) 2 _ rfl; have k40 := ((dUnhide X0).at hb8) 0 _ rfl; have k41 := ((dUnhide X0).at hb8) 1 _ rfl; have k42 := ((dUnhide X0).at hb8) 2 _ rfl; have Q8 := dHide q8; obtain ⟨o8a, o8c, rfl, o8l⟩ := formReader q8.now.rd; clear q8)
        | (go_at_call 19; refine (eqReader_ _ _ _ _ ((dUnhide T14).at hb8).rd (dUnhide Q8).now.rd).mono ?_; rintro e w9 ⟨rfl, b9⟩; have hb9 := belowThen hb8 b9; have k43 := ((dUnhide X19).at hb9) 0 _ rfl; have k44 := ((dUnhide X19).at hb9) 1 _ rfl; have k45 := ((dUnhide X19).at hb9) 2 _ rfl; have k46 := ((dUnhide X0).at hb9) 0 _ rfl; have k47 := ((dUnhide X0).at hb9) 1 _ rfl; have k48 := ((dUnhide X0).at hb9) 2 _ rfl))
    all_goals
      go_wp2_with fail
      go_meet
      case rel => exact ⟨rfl, hb9⟩
  case rest =>
    obtain ⟨rfl, bc⟩ := hcut
    clear hbr
    clear k31 k32 k33 k34 k35 k36
    have sz49 := dHide bc.size
    replace X0 := dHide ((dUnhide X0).below bc)
    replace T14 := dHide ((dUnhide T14).below bc)
    replace X19 := dHide ((dUnhide X19).below bc)
    replace B := belowThen B bc
    generalize wc = w50 at *
    clear bc
    clear X0 T14 X19
    go_wp2
    go_ret
    exact ⟨rfl, B⟩
end Go.Proofs.Ytapfdmmfhfkhkaa
