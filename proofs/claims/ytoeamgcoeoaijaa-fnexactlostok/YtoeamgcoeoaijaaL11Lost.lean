/- FnExactLostOk: both answers, and the law's walk (printed by tools/mkl11.py). -/
import Derived.Test.YtoeamgcoeoaijaaQ11O
import Derived.Test.YtoeamgcoeoaijaaGaD
import Derived.Deep.RegionHeld3
import Derived.Deep.DeepCutAuto
namespace Go.Proofs.Ytoeamgcoeoaijaa
open Go.ChangeShapes Go.WideShapes Go.ChangeAt Go.RowKit
set_option linter.unusedVariables false
theorem bothFnExactLostOk (m0 : List Int × Int) (m1 : List Int) (ok0 : okConfig m0) (ok1 : okIntS m1) (hs0 : sizConfig m0 ≤ 1048576) (hs1 : sizIntS m1 ≤ 1048576) : ∃ (s0 : Bool), (∀ W v0 v1, RdConfig v0 m0 W → RdIntS v1 m1 W → Calls Try.prog 16 #[v0, v1] W fun e w' => e = .returned (.bool s0) ∧ Below W.heap.size W w') ∧ (∀ W v0 v1, RdConfig v0 m0 W → RdIntS v1 m1 W → Calls Try.prog 19 #[v0, v1] W fun e w' => e = .returned (.bool s0) ∧ Below W.heap.size W w') := bothLostOk_ m0 m1 ok0 ok1 hs0 hs1
set_option maxHeartbeats 4000000 in
set_option maxRecDepth 100000 in
theorem walkFnExactLostOk (v0 v1 : Value) (m0 : List Int × Int) (m1 : List Int) (w : World) (i0 : IsConfig v0 m0 w) (i1 : IsIntS v1 m1 w) :
    Calls Try.prog 4 #[v0, v1] w fun r w' => r = .returned (.bool true) ∧ Below w.heap.size w w' := by
  obtain ⟨r0, ok0⟩ := i0
  obtain ⟨r1, ok1⟩ := i1
  have ha : ∀ (w : World) o, Below w.heap.size w (w.alloc o) := fun w o => (Below.refl _ _).alloc (Nat.le_refl _) o
  have A0 := dHide fun W (hb : Below w.heap.size w W) => r0.below hb
  have A1 := dHide fun W (hb : Below w.heap.size w W) => r1.below hb
  obtain ⟨v0a, v0c, rfl, v0l⟩ := formConfig r0
  obtain ⟨v1a, v1c, rfl, v1l⟩ := formIntS r1
  by_cases g1 : (1048576 : Int) < (m1.length : Int)
  · go_enter Try.func4, Try.ntmps4
    go_wp2
    go_ret
    exact ⟨rfl, ha w _⟩
  by_cases z0 : (1048576 : Int) < (sizConfig m0 : Int)
  · have CS0 := dHide fun W (hb : Below w.heap.size w W) => szConfig_ _ m0 (1048576 : Int) (by omega) (by omega) W (dUnhide A0 W hb)
    rw [lft_no z0] at CS0
    clear z0
    go_enter Try.func4, Try.ntmps4
    go_wp2_with fail
    have B := ha w (.cells #[.slice v0a m0.1.length v0c, .int .i64 m0.2] 39)
    have X0 := dHide (Sits.box w #[.slice v0a m0.1.length v0c, .int .i64 m0.2] 39)
    have sz0 : Hid (w.heap.size + 1 = (w.alloc (.cells #[.slice v0a m0.1.length v0c, .int .i64 m0.2] 39)).heap.size) := by simp [Hid]
    generalize w.alloc (.cells #[.slice v0a m0.1.length v0c, .int .i64 m0.2] 39) = wb at *
    refine (dUnhide CS0 _ B).mono ?_
    rintro e ws0 ⟨rfl, bs⟩
    have sz1 := dHide bs.size
    replace X0 := dHide ((dUnhide X0).below bs)
    replace B := belowThen B bs
    clear bs CS0
    clear X0
    go_wp2
    go_ret
    exact ⟨rfl, B⟩
  have hs0 : sizConfig m0 ≤ 1048576 := by omega
  have hs1 : sizIntS m1 ≤ 1048576 := by unfold sizIntS; omega
  have hc0 := cntConfig_le hs0
  have hc1 := cntIntS_le hs1
  obtain ⟨s0, p1, p2⟩ := bothFnExactLostOk m0 m1 ok0 ok1 hs0 hs1
  have CP := dHide p1
  have CI := dHide p2
  have CS0 := dHide fun W (hb : Below w.heap.size w W) => szConfig_ _ m0 (1048576 : Int) (by omega) (by omega) W (dUnhide A0 W hb)
  rw [lft_yes z0] at CS0
  have z0' : ¬ ((1048576 : Int) - (sizConfig m0 : Int) < 0) := by omega
  clear p1 p2 r0 ok0 r1 ok1 
  go_enter Try.func4, Try.ntmps4
  go_wp2_with fail
  have B := ha w (.cells #[.slice v0a m0.1.length v0c, .int .i64 m0.2] 39)
  have X0 := dHide (Sits.box w #[.slice v0a m0.1.length v0c, .int .i64 m0.2] 39)
  have sz0 : Hid (w.heap.size + 1 = (w.alloc (.cells #[.slice v0a m0.1.length v0c, .int .i64 m0.2] 39)).heap.size) := by simp [Hid]
  generalize w.alloc (.cells #[.slice v0a m0.1.length v0c, .int .i64 m0.2] 39) = wb at *
  refine (dUnhide CS0 _ B).mono ?_
  rintro e ws0 ⟨rfl, bs⟩
  have sz1 := dHide bs.size
  replace X0 := dHide ((dUnhide X0).below bs)
  replace B := belowThen B bs
  clear bs CS0
  have k2 := (dUnhide X0).now 0 _ rfl
  have k3 := (dUnhide X0).now 1 _ rfl
  go_wp2_with fail
  refine (toConfig_ _ m0 _ hs0 (dUnhide A0 _ B)).mono ?_
  rintro e w6 ⟨u5, rfl, T4, b7⟩
  clear k2 k3
  have sz8 := dHide b7.size
  replace X0 := dHide ((dUnhide X0).below b7)
  replace B := belowThen B b7
  replace T4 := dHide T4
  clear b7
  obtain ⟨u5a, u5c, rfl, u5l⟩ := formConfig (dUnhide T4).now.rd
  go_wp2_with fail
  refine (toIntS_ _ m1 _ hs1 (dUnhide A1 _ B)).mono ?_
  rintro e w11 ⟨u10, rfl, T9, b12⟩
  have sz13 := dHide b12.size
  replace X0 := dHide ((dUnhide X0).below b12)
  replace T4 := dHide ((dUnhide T4).below b12)
  replace B := belowThen B b12
  replace T9 := dHide T9
  clear b12
  obtain ⟨u10a, u10c, rfl, u10l⟩ := formIntS (dUnhide T9).now.rd
  go_wp2_with fail
  refine (dUnhide CP _ _ _ (dUnhide T4).now.rd (dUnhide T9).now.rd).mono ?_
  rintro e w3 ⟨rfl, bw⟩
  clear T4 T9
  have sz14 := dHide bw.size
  replace X0 := dHide ((dUnhide X0).below bw)
  replace B := belowThen B bw
  clear bw CP
  have k15 := (dUnhide X0).now 0 _ rfl
  have k16 := (dUnhide X0).now 1 _ rfl
  go_wp2_with fail
  refine (toConfig_ _ m0 _ hs0 (dUnhide A0 _ B)).mono ?_
  rintro e w19 ⟨u18, rfl, T17, b20⟩
  clear k15 k16
  have sz21 := dHide b20.size
  replace X0 := dHide ((dUnhide X0).below b20)
  replace B := belowThen B b20
  replace T17 := dHide T17
  clear b20
  obtain ⟨u18a, u18c, rfl, u18l⟩ := formConfig (dUnhide T17).now.rd
  have X22 := Sits.box w19 #[.slice u18a m0.1.length u18c, .int .i64 m0.2] 42
  have ba := ha w19 (.cells #[.slice u18a m0.1.length u18c, .int .i64 m0.2] 42)
  have sz24 := dHide ba.size
  replace X0 := dHide ((dUnhide X0).below ba)
  replace T17 := dHide ((dUnhide T17).below ba)
  replace B := belowThen B ba
  have sz25 : Hid (w19.heap.size + 1 = (w19.alloc (.cells #[.slice u18a m0.1.length u18c, .int .i64 m0.2] 42)).heap.size) := by simp [Hid]
  replace X22 := dHide X22
  clear ba
  go_wp2_with fail
  generalize hbx23 : w19.heap.size = bx23 at *
  generalize w19.alloc (.cells #[.slice u18a m0.1.length u18c, .int .i64 m0.2] 42) = w26 at *
  have sz27 := dHide hbx23
  clear hbx23
  refine (toIntS_ _ m1 _ hs1 (dUnhide A1 _ B)).mono ?_
  rintro e w30 ⟨u29, rfl, T28, b31⟩
  have sz32 := dHide b31.size
  replace X0 := dHide ((dUnhide X0).below b31)
  replace T17 := dHide ((dUnhide T17).below b31)
  replace X22 := dHide ((dUnhide X22).below b31)
  replace B := belowThen B b31
  replace T28 := dHide T28
  clear b31
  obtain ⟨u29a, u29c, rfl, u29l⟩ := formIntS (dUnhide T28).now.rd
  have k33 := (dUnhide X22).now 0 _ rfl
  have k34 := (dUnhide X22).now 1 _ rfl
  go_wp2_with fail
  refine (dUnhide CI _ _ _ (dUnhide T17).now.rd (dUnhide T28).now.rd).mono ?_
  rintro e w35 ⟨rfl, b36⟩
  clear k33 k34
  have sz37 := dHide b36.size
  replace X0 := dHide ((dUnhide X0).below b36)
  replace T17 := dHide ((dUnhide T17).below b36)
  replace X22 := dHide ((dUnhide X22).below b36)
  replace T28 := dHide ((dUnhide T28).below b36)
  replace B := belowThen B b36
  clear b36
  have k38 := (dUnhide X22).now 0 _ rfl
  have k39 := (dUnhide X22).now 1 _ rfl
  have k40 := (dUnhide X0).now 0 _ rfl
  have k41 := (dUnhide X0).now 1 _ rfl
  have hbr := Below.refl w35.heap.size w35
  go_wp2_with fail
  go_cut [37] (fun sv wx => sv = .bool false ∧ Below w35.heap.size w35 wx)
  case first =>
    go_region_held3 (fun W => W.cell? ⟨bx23, 0, none⟩ = some (.slice u18a m0.1.length u18c) ∧ W.cell? ⟨bx23, 1, none⟩ = some (.int .i64 m0.2) ∧ W.cell? ⟨w.heap.size, 0, none⟩ = some (.slice v0a m0.1.length v0c) ∧ W.cell? ⟨w.heap.size, 1, none⟩ = some (.int .i64 m0.2)) (go_keep)
      (first
        | (go_at_call 17; refine (toConfig_ _ m0 _ hs0 (dUnhide A0 _ (belowThen B hbr.drew))).mono ?_; rintro e w8 ⟨o8, rfl, q8, b8⟩; have hb8 := belowThen hbr.drew b8; have k42 := ((dUnhide X22).at hb8) 0 _ rfl; have k43 := ((dUnhide X22).at hb8) 1 _ rfl; have k44 := ((dUnhide X0).at hb8) 0 _ rfl; have k45 := ((dUnhide X0).at hb8) 1 _ rfl; have Q8 := dHide q8; obtain ⟨o8a, o8c, rfl, o8l⟩ := formConfig q8.now.rd; clear q8)
        | (go_at_call 20; refine (eqConfig_ _ _ _ _ ((dUnhide T17).at hb8).rd (dUnhide Q8).now.rd).mono ?_; rintro e w9 ⟨rfl, b9⟩; have hb9 := belowThen hb8 b9; have k46 := ((dUnhide X22).at hb9) 0 _ rfl; have k47 := ((dUnhide X22).at hb9) 1 _ rfl; have k48 := ((dUnhide X0).at hb9) 0 _ rfl; have k49 := ((dUnhide X0).at hb9) 1 _ rfl))
    all_goals
      go_wp2_with fail
      go_meet
      case rel => exact ⟨rfl, hb9⟩
  case rest =>
    obtain ⟨rfl, bc⟩ := hcut
    clear hbr
    clear k38 k39 k40 k41
    have sz50 := dHide bc.size
    replace X0 := dHide ((dUnhide X0).below bc)
    replace T17 := dHide ((dUnhide T17).below bc)
    replace X22 := dHide ((dUnhide X22).below bc)
    replace T28 := dHide ((dUnhide T28).below bc)
    replace B := belowThen B bc
    generalize wc = w51 at *
    clear bc
    go_wp2_with fail
    refine (toIntS_ _ m1 _ hs1 (dUnhide A1 _ B)).mono ?_
    rintro e w54 ⟨u53, rfl, T52, b55⟩
    have sz56 := dHide b55.size
    replace X0 := dHide ((dUnhide X0).below b55)
    replace T17 := dHide ((dUnhide T17).below b55)
    replace X22 := dHide ((dUnhide X22).below b55)
    replace T28 := dHide ((dUnhide T28).below b55)
    replace B := belowThen B b55
    replace T52 := dHide T52
    clear b55
    obtain ⟨u53a, u53c, rfl, u53l⟩ := formIntS (dUnhide T52).now.rd
    go_wp2_with fail
    refine (eqIntS_ _ _ _ _ (dUnhide T28).now.rd (dUnhide T52).now.rd).mono ?_
    rintro e w57 ⟨rfl, b58⟩
    clear T52
    have sz59 := dHide b58.size
    replace X0 := dHide ((dUnhide X0).below b58)
    replace T17 := dHide ((dUnhide T17).below b58)
    replace X22 := dHide ((dUnhide X22).below b58)
    replace T28 := dHide ((dUnhide T28).below b58)
    replace B := belowThen B b58
    clear b58
    clear X0 T17 X22 T28
    go_wp2
    go_ret
    exact ⟨rfl, B⟩
end Go.Proofs.Ytoeamgcoeoaijaa
