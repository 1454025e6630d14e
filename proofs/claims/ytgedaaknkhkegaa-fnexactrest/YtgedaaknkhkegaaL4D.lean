/- The walk of the law FnExactRest. -/
import Derived.Test.YtgedaaknkhkegaaSitC
import Derived.Test.YtgedaaknkhkegaaDomG
import Derived.Test.YtgedaaknkhkegaaImplD
import Derived.Deep.RegionHeld3
import Derived.Deep.DeepCutAuto
namespace Go.Proofs.Ytgedaaknkhkegaa
open Go.ChangeShapes Go.WideShapes Go.ChangeAt Go.RowKit
set_option linter.unusedVariables false

theorem bothFnExactRest (m0 : List Int × Int) (m1 m2 : List Int) (ok0 : okConfig m0) (ok1 : okIntS m1) (ok2 : okIntS m2) (hs0 : sizConfig m0 ≤ 1048576) (hs1 : sizIntS m1 ≤ 1048576) (hs2 : sizIntS m2 ≤ 1048576) :
    ∃ R : List Int, cntIntS R ≤ 1048576 ∧
      (∀ W v0 v1 v2, RdConfig v0 m0 W → RdIntS v1 m1 W → RdIntS v2 m2 W → Calls Try.prog 23 #[v0, v1, v2] W fun e w' => ∃ u, e = .returned u ∧ Sits (OwIntS W.heap.size w'.heap.size u R) W.heap.size w'.heap.size w' ∧ Below W.heap.size W w') ∧
      (∀ W v0 v1 v2, RdConfig v0 m0 W → RdIntS v1 m1 W → RdIntS v2 m2 W → Calls Try.prog 20 #[v0, v1, v2] W fun e w' => ∃ u, e = .returned u ∧ Sits (OwIntS W.heap.size w'.heap.size u R) W.heap.size w'.heap.size w' ∧ Below W.heap.size W w') := by
  obtain ⟨ds, cop⟩ := m0
  obtain ⟨a0, c0, c1⟩ := ok0
  unfold sizConfig sizIntS at *
  by_cases h : nodesP ds cop m1 ∧ nodesP ds cop m2
  · refine ⟨lessL m1 m2, Nat.le_trans (lessL_len m1 m2) hs1, ?_, ?_⟩
    · rintro W _ v1 v2 ⟨sv, rfl, h0⟩ h1 h2
      exact (specRest_yes sv v1 v2 ds m1 m2 cop W h0 h1 h2 h.1 h.2 (by omega)).mono fun e w' ⟨⟨o, k1, k2⟩, k3⟩ => ⟨o, k1, k2.sits, k3⟩
    · rintro W _ v1 v2 ⟨sv, rfl, h0⟩ h1 h2
      exact (implRest_yes sv v1 v2 ds m1 m2 cop W h0 h1 h2 a0 ok1 ok2 hs0 hs1 hs2 c0 c1 h.1 h.2).mono fun e w' ⟨⟨o, k1, k2⟩, k3⟩ => ⟨o, k1, k2.sits, k3⟩
  · refine ⟨[], by simp [cntIntS], ?_, ?_⟩
    · rintro W _ v1 v2 ⟨sv, rfl, h0⟩ h1 h2
      exact (specRest_no sv v1 v2 ds m1 m2 cop W h0 h1 h2 h).mono fun e w' ⟨⟨o, k1, k2⟩, k3⟩ => ⟨o, k1, k2.sits, k3⟩
    · rintro W _ v1 v2 ⟨sv, rfl, h0⟩ h1 h2
      exact (implRest_no sv v1 v2 ds m1 m2 cop W h0 h1 h2 a0 ok1 ok2 hs0 hs1 hs2 c0 c1 h).mono fun e w' ⟨⟨o, k1, k2⟩, k3⟩ => ⟨o, k1, k2.sits, k3⟩
set_option maxHeartbeats 4000000 in
set_option maxRecDepth 100000 in
theorem walkFnExactRest (v0 v1 v2 : Value) (m0 : List Int × Int) (m1 : List Int) (m2 : List Int) (w : World) (i0 : IsConfig v0 m0 w) (i1 : IsIntS v1 m1 w) (i2 : IsIntS v2 m2 w) :
    Calls Try.prog 10 #[v0, v1, v2] w fun r w' => r = .returned (.bool true) ∧ Below w.heap.size w w' := by
  obtain ⟨r0, ok0⟩ := i0
  obtain ⟨r1, ok1⟩ := i1
  obtain ⟨r2, ok2⟩ := i2
  have ha : ∀ (w : World) o, Below w.heap.size w (w.alloc o) := fun w o => (Below.refl _ _).alloc (Nat.le_refl _) o
  have A0 := dHide fun W (hb : Below w.heap.size w W) => r0.below hb
  have A1 := dHide fun W (hb : Below w.heap.size w W) => r1.below hb
  have A2 := dHide fun W (hb : Below w.heap.size w W) => r2.below hb
  obtain ⟨v0a, v0c, rfl, v0l⟩ := formConfig r0
  obtain ⟨v1a, v1c, rfl, v1l⟩ := formIntS r1
  obtain ⟨v2a, v2c, rfl, v2l⟩ := formIntS r2
  by_cases g1 : (1048576 : Int) < (m1.length : Int)
  · go_enter Try.func10, Try.ntmps10
    go_wp2
    go_ret
    exact ⟨rfl, ha w _⟩
  by_cases g2 : (1048576 : Int) < (m2.length : Int)
  · go_enter Try.func10, Try.ntmps10
    go_wp2
    go_ret
    exact ⟨rfl, ha w _⟩
  by_cases z0 : (1048576 : Int) < (sizConfig m0 : Int)
  · have CS := dHide fun W (hb : Below w.heap.size w W) => szConfig_ _ m0 1048576 (by omega) (by omega) W (dUnhide A0 W hb)
    rw [lft_no z0] at CS
    clear z0
    go_enter Try.func10, Try.ntmps10
    go_wp2_with fail
    refine (dUnhide CS _ (ha _ _)).mono ?_
    rintro e w1 ⟨rfl, b1⟩
    have B1 := belowThen (ha w _) b1
    clear b1 ha CS
    go_wp2
    go_ret
    exact ⟨rfl, B1⟩
  have hs0 : sizConfig m0 ≤ 1048576 := by omega
  have hs1 : sizIntS m1 ≤ 1048576 := by unfold sizIntS; omega
  have hs2 : sizIntS m2 ≤ 1048576 := by unfold sizIntS; omega
  have hc0 := cntConfig_le hs0
  have hc1 := cntIntS_le hs1
  have hc2 := cntIntS_le hs2
  obtain ⟨R, hR, p1, p2⟩ := bothFnExactRest m0 m1 m2 ok0 ok1 ok2 hs0 hs1 hs2
  have CP := dHide p1
  have CI := dHide p2
  have CS := dHide fun W (hb : Below w.heap.size w W) => szConfig_ _ m0 1048576 (by omega) (by omega) W (dUnhide A0 W hb)
  rw [lft_yes z0] at CS
  have z0' : ¬ ((1048576 : Int) - (sizConfig m0 : Int) < 0) := by omega
  clear p1 p2 r0 ok0 r1 ok1 r2 ok2
  go_enter Try.func10, Try.ntmps10
  go_wp2_with fail
  have B := ha w (.cells #[.slice v0a m0.1.length v0c, .int .i64 m0.2] 39)
  have X0 := dHide (Sits.box w #[.slice v0a m0.1.length v0c, .int .i64 m0.2] 39)
  have sz0 : Hid (w.heap.size + 1 = (w.alloc (.cells #[.slice v0a m0.1.length v0c, .int .i64 m0.2] 39)).heap.size) := by simp [Hid]
  generalize w.alloc (.cells #[.slice v0a m0.1.length v0c, .int .i64 m0.2] 39) = wb at *
  refine (dUnhide CS _ B).mono ?_
  rintro e ws ⟨rfl, bs⟩
  have sz1 := dHide bs.size
  replace X0 := dHide ((dUnhide X0).below bs)
  replace B := belowThen B bs
  clear bs CS
  have k2 := (dUnhide X0).now 0 _ rfl
  have k3 := (dUnhide X0).now 1 _ rfl
  go_wp2_with fail
  refine (toConfig_ _ m0 _ hs0 (dUnhide A0 _ B)).mono ?_
  rintro e w6 ⟨u5, rfl, T4, b7⟩
  clear k2 k3
  have sz8 := dHide b7.size
  replace X0 := dHide ((dUnhide X0).below b7)
  replace B := belowThen B b7
  replace T4 := dHide T4
  clear b7
  obtain ⟨u5a, u5c, rfl, u5l⟩ := formConfig (dUnhide T4).now.rd
  go_wp2_with fail
  refine (toIntS_ _ m1 _ hs1 (dUnhide A1 _ B)).mono ?_
  rintro e w11 ⟨u10, rfl, T9, b12⟩
  have sz13 := dHide b12.size
  replace X0 := dHide ((dUnhide X0).below b12)
  replace T4 := dHide ((dUnhide T4).below b12)
  replace B := belowThen B b12
  replace T9 := dHide T9
  clear b12
  obtain ⟨u10a, u10c, rfl, u10l⟩ := formIntS (dUnhide T9).now.rd
  go_wp2_with fail
  refine (toIntS_ _ m2 _ hs2 (dUnhide A2 _ B)).mono ?_
  rintro e w16 ⟨u15, rfl, T14, b17⟩
  have sz18 := dHide b17.size
  replace X0 := dHide ((dUnhide X0).below b17)
  replace T4 := dHide ((dUnhide T4).below b17)
  replace T9 := dHide ((dUnhide T9).below b17)
  replace B := belowThen B b17
  replace T14 := dHide T14
  clear b17
  obtain ⟨u15a, u15c, rfl, u15l⟩ := formIntS (dUnhide T14).now.rd
  go_wp2_with fail
  refine (dUnhide CP _ _ _ _ (dUnhide T4).now.rd (dUnhide T9).now.rd (dUnhide T14).now.rd).mono ?_
  rintro e w3 ⟨uw, rfl, OW, bw⟩
  clear T4 T9 T14
  have sz19 := dHide bw.size
  replace X0 := dHide ((dUnhide X0).below bw)
  replace B := belowThen B bw
  replace OW := dHide OW
  clear bw CP
  obtain ⟨uwa, uwc, rfl, uwl⟩ := formIntS (dUnhide OW).now.rd
  have k20 := (dUnhide X0).now 0 _ rfl
  have k21 := (dUnhide X0).now 1 _ rfl
  go_wp2_with fail
  refine (toConfig_ _ m0 _ hs0 (dUnhide A0 _ B)).mono ?_
  rintro e w24 ⟨u23, rfl, T22, b25⟩
  clear k20 k21
  have sz26 := dHide b25.size
  replace X0 := dHide ((dUnhide X0).below b25)
  replace OW := dHide ((dUnhide OW).below b25)
  replace B := belowThen B b25
  replace T22 := dHide T22
  clear b25
  obtain ⟨u23a, u23c, rfl, u23l⟩ := formConfig (dUnhide T22).now.rd
  go_wp2_with fail
  have X28 := Sits.box w24 #[.slice u23a m0.1.length u23c, .int .i64 m0.2] 26
  have ba := ha w24 (.cells #[.slice u23a m0.1.length u23c, .int .i64 m0.2] 26)
  have sz29 := dHide ba.size
  replace X0 := dHide ((dUnhide X0).below ba)
  replace OW := dHide ((dUnhide OW).below ba)
  replace T22 := dHide ((dUnhide T22).below ba)
  replace B := belowThen B ba
  have sz30 : Hid (w24.heap.size + 1 = (w24.alloc (.cells #[.slice u23a m0.1.length u23c, .int .i64 m0.2] 26)).heap.size) := by simp [Hid]
  replace X28 := dHide X28
  clear ba
  generalize hbx27 : w24.heap.size = bx27 at *
  generalize w24.alloc (.cells #[.slice u23a m0.1.length u23c, .int .i64 m0.2] 26) = w31 at *
  have sz32 := dHide hbx27
  clear hbx27
  refine (toIntS_ _ m1 _ hs1 (dUnhide A1 _ B)).mono ?_
  rintro e w35 ⟨u34, rfl, T33, b36⟩
  have sz37 := dHide b36.size
  replace X0 := dHide ((dUnhide X0).below b36)
  replace OW := dHide ((dUnhide OW).below b36)
  replace T22 := dHide ((dUnhide T22).below b36)
  replace X28 := dHide ((dUnhide X28).below b36)
  replace B := belowThen B b36
  replace T33 := dHide T33
  clear b36
  obtain ⟨u34a, u34c, rfl, u34l⟩ := formIntS (dUnhide T33).now.rd
  go_wp2_with fail
  refine (toIntS_ _ m2 _ hs2 (dUnhide A2 _ B)).mono ?_
  rintro e w40 ⟨u39, rfl, T38, b41⟩
  have sz42 := dHide b41.size
  replace X0 := dHide ((dUnhide X0).below b41)
  replace OW := dHide ((dUnhide OW).below b41)
  replace T22 := dHide ((dUnhide T22).below b41)
  replace X28 := dHide ((dUnhide X28).below b41)
  replace T33 := dHide ((dUnhide T33).below b41)
  replace B := belowThen B b41
  replace T38 := dHide T38
  clear b41
  obtain ⟨u39a, u39c, rfl, u39l⟩ := formIntS (dUnhide T38).now.rd
  have k43 := (dUnhide X28).now 0 _ rfl
  have k44 := (dUnhide X28).now 1 _ rfl
  go_wp2_with fail
  refine (dUnhide CI _ _ _ _ (dUnhide T22).now.rd (dUnhide T33).now.rd (dUnhide T38).now.rd).mono ?_
  rintro e w45 ⟨ug, rfl, OG, b46⟩
  clear k43 k44
  have sz47 := dHide b46.size
  replace X0 := dHide ((dUnhide X0).below b46)
  replace OW := dHide ((dUnhide OW).below b46)
  replace T22 := dHide ((dUnhide T22).below b46)
  replace X28 := dHide ((dUnhide X28).below b46)
  replace T33 := dHide ((dUnhide T33).below b46)
  replace T38 := dHide ((dUnhide T38).below b46)
  replace B := belowThen B b46
  replace OG := dHide OG
  clear b46
  obtain ⟨uga, ugc, rfl, ugl⟩ := formIntS (dUnhide OG).now.rd
  go_wp2_with fail
  refine (eqIntS_ _ _ _ _ (dUnhide OG).now.rd (dUnhide OW).now.rd).mono ?_
  rintro e w48 ⟨rfl, b49⟩
  have sz50 := dHide b49.size
  replace X0 := dHide ((dUnhide X0).below b49)
  replace OW := dHide ((dUnhide OW).below b49)
  replace T22 := dHide ((dUnhide T22).below b49)
  replace X28 := dHide ((dUnhide X28).below b49)
  replace T33 := dHide ((dUnhide T33).below b49)
  replace T38 := dHide ((dUnhide T38).below b49)
  replace OG := dHide ((dUnhide OG).below b49)
  replace B := belowThen B b49
  clear b49
  have k51 := (dUnhide X28).now 0 _ rfl
  have k52 := (dUnhide X28).now 1 _ rfl
  have k53 := (dUnhide X0).now 0 _ rfl
  have k54 := (dUnhide X0).now 1 _ rfl
  have hbr := Below.refl w48.heap.size w48
  go_wp2_with fail
  go_cut [53] (fun sv wx => sv = .bool false ∧ Below w48.heap.size w48 wx)
  case first =>
    go_region_held3 (fun W => W.cell? ⟨bx27, 0, none⟩ = some (.slice u23a m0.1.length u23c) ∧ W.cell? ⟨bx27, 1, none⟩ = some (.int .i64 m0.2) ∧ W.cell? ⟨w.heap.size, 0, none⟩ = some (.slice v0a m0.1.length v0c) ∧ W.cell? ⟨w.heap.size, 1, none⟩ = some (.int .i64 m0.2)) (go_keep)
      (first
        | (go_at_call 32; refine (toConfig_ _ m0 _ hs0 (dUnhide A0 _ (belowThen B hbr.drew))).mono ?_; rintro e w8 ⟨o8, rfl, q8, b8⟩; have hb8 := belowThen hbr.drew b8; have k55 := ((dUnhide X28).at hb8) 0 _ rfl; have k56 := ((dUnhide X28).at hb8) 1 _ rfl; have k57 := ((dUnhide X0).at hb8) 0 _ rfl; have k58 := ((dUnhide X0).at hb8) 1 _ rfl; have Q8 := dHide q8; obtain ⟨o8a, o8c, rfl, o8l⟩ := formConfig q8.now.rd; clear q8)
        | (go_at_call 33; refine (eqConfig_ _ _ _ _ ((dUnhide T22).at hb8).rd (dUnhide Q8).now.rd).mono ?_; rintro e w9 ⟨rfl, b9⟩; have hb9 := belowThen hb8 b9; have k59 := ((dUnhide X28).at hb9) 0 _ rfl; have k60 := ((dUnhide X28).at hb9) 1 _ rfl; have k61 := ((dUnhide X0).at hb9) 0 _ rfl; have k62 := ((dUnhide X0).at hb9) 1 _ rfl))
    all_goals
      go_wp2_with fail
      go_meet
      case rel => exact ⟨rfl, hb9⟩
  case rest =>
    obtain ⟨rfl, bc⟩ := hcut
    clear hbr
    clear k51 k52 k53 k54
    have sz63 := dHide bc.size
    replace X0 := dHide ((dUnhide X0).below bc)
    replace OW := dHide ((dUnhide OW).below bc)
    replace T22 := dHide ((dUnhide T22).below bc)
    replace X28 := dHide ((dUnhide X28).below bc)
    replace T33 := dHide ((dUnhide T33).below bc)
    replace T38 := dHide ((dUnhide T38).below bc)
    replace OG := dHide ((dUnhide OG).below bc)
    replace B := belowThen B bc
    generalize wc = w64 at *
    clear bc
    go_wp2_with fail
    refine (toIntS_ _ m1 _ hs1 (dUnhide A1 _ B)).mono ?_
    rintro e w67 ⟨u66, rfl, T65, b68⟩
    have sz69 := dHide b68.size
    replace X0 := dHide ((dUnhide X0).below b68)
    replace OW := dHide ((dUnhide OW).below b68)
    replace T22 := dHide ((dUnhide T22).below b68)
    replace X28 := dHide ((dUnhide X28).below b68)
    replace T33 := dHide ((dUnhide T33).below b68)
    replace T38 := dHide ((dUnhide T38).below b68)
    replace OG := dHide ((dUnhide OG).below b68)
    replace B := belowThen B b68
    replace T65 := dHide T65
    clear b68
    obtain ⟨u66a, u66c, rfl, u66l⟩ := formIntS (dUnhide T65).now.rd
    go_wp2_with fail
    refine (eqIntS_ _ _ _ _ (dUnhide T33).now.rd (dUnhide T65).now.rd).mono ?_
    rintro e w70 ⟨rfl, b71⟩
    clear T65
    have sz72 := dHide b71.size
    replace X0 := dHide ((dUnhide X0).below b71)
    replace OW := dHide ((dUnhide OW).below b71)
    replace T22 := dHide ((dUnhide T22).below b71)
    replace X28 := dHide ((dUnhide X28).below b71)
    replace T33 := dHide ((dUnhide T33).below b71)
    replace T38 := dHide ((dUnhide T38).below b71)
    replace OG := dHide ((dUnhide OG).below b71)
    replace B := belowThen B b71
    clear b71
    go_wp2_with fail
    refine (toIntS_ _ m2 _ hs2 (dUnhide A2 _ B)).mono ?_
    rintro e w75 ⟨u74, rfl, T73, b76⟩
    have sz77 := dHide b76.size
    replace X0 := dHide ((dUnhide X0).below b76)
    replace OW := dHide ((dUnhide OW).below b76)
    replace T22 := dHide ((dUnhide T22).below b76)
    replace X28 := dHide ((dUnhide X28).below b76)
    replace T33 := dHide ((dUnhide T33).below b76)
    replace T38 := dHide ((dUnhide T38).below b76)
    replace OG := dHide ((dUnhide OG).below b76)
    replace B := belowThen B b76
    replace T73 := dHide T73
    clear b76
    obtain ⟨u74a, u74c, rfl, u74l⟩ := formIntS (dUnhide T73).now.rd
    go_wp2_with fail
    refine (eqIntS_ _ _ _ _ (dUnhide T38).now.rd (dUnhide T73).now.rd).mono ?_
    rintro e w78 ⟨rfl, b79⟩
    clear T73
    have sz80 := dHide b79.size
    replace X0 := dHide ((dUnhide X0).below b79)
    replace OW := dHide ((dUnhide OW).below b79)
    replace T22 := dHide ((dUnhide T22).below b79)
    replace X28 := dHide ((dUnhide X28).below b79)
    replace T33 := dHide ((dUnhide T33).below b79)
    replace T38 := dHide ((dUnhide T38).below b79)
    replace OG := dHide ((dUnhide OG).below b79)
    replace B := belowThen B b79
    clear b79
    have k81 := (dUnhide X28).now 0 _ rfl
    have k82 := (dUnhide X28).now 1 _ rfl
    go_wp2_with fail
    refine (markConfig_ _ _ _ _ 1 _ (by omega) (by omega) (dUnhide T22)).mono ?_
    rintro e w83 ⟨rfl, M85, b84⟩
    clear k81 k82
    replace X0 := dHide ((dUnhide X0).wr b84 (by have := dUnhide sz0; have := dUnhide sz1; have := dUnhide sz8; have := dUnhide sz13; have := dUnhide sz18; have := dUnhide sz19; have := dUnhide sz26; have := dUnhide sz29; have := dUnhide sz30; have := dUnhide sz32; have := dUnhide sz37; have := dUnhide sz42; have := dUnhide sz47; have := dUnhide sz50; have := dUnhide sz63; have := dUnhide sz69; have := dUnhide sz72; have := dUnhide sz77; have := dUnhide sz80; omega))
    replace OW := dHide ((dUnhide OW).wr b84 (by have := dUnhide sz0; have := dUnhide sz1; have := dUnhide sz8; have := dUnhide sz13; have := dUnhide sz18; have := dUnhide sz19; have := dUnhide sz26; have := dUnhide sz29; have := dUnhide sz30; have := dUnhide sz32; have := dUnhide sz37; have := dUnhide sz42; have := dUnhide sz47; have := dUnhide sz50; have := dUnhide sz63; have := dUnhide sz69; have := dUnhide sz72; have := dUnhide sz77; have := dUnhide sz80; omega))
    replace X28 := dHide ((dUnhide X28).wr b84 (by have := dUnhide sz0; have := dUnhide sz1; have := dUnhide sz8; have := dUnhide sz13; have := dUnhide sz18; have := dUnhide sz19; have := dUnhide sz26; have := dUnhide sz29; have := dUnhide sz30; have := dUnhide sz32; have := dUnhide sz37; have := dUnhide sz42; have := dUnhide sz47; have := dUnhide sz50; have := dUnhide sz63; have := dUnhide sz69; have := dUnhide sz72; have := dUnhide sz77; have := dUnhide sz80; omega))
    replace T33 := dHide ((dUnhide T33).wr b84 (by have := dUnhide sz0; have := dUnhide sz1; have := dUnhide sz8; have := dUnhide sz13; have := dUnhide sz18; have := dUnhide sz19; have := dUnhide sz26; have := dUnhide sz29; have := dUnhide sz30; have := dUnhide sz32; have := dUnhide sz37; have := dUnhide sz42; have := dUnhide sz47; have := dUnhide sz50; have := dUnhide sz63; have := dUnhide sz69; have := dUnhide sz72; have := dUnhide sz77; have := dUnhide sz80; omega))
    replace T38 := dHide ((dUnhide T38).wr b84 (by have := dUnhide sz0; have := dUnhide sz1; have := dUnhide sz8; have := dUnhide sz13; have := dUnhide sz18; have := dUnhide sz19; have := dUnhide sz26; have := dUnhide sz29; have := dUnhide sz30; have := dUnhide sz32; have := dUnhide sz37; have := dUnhide sz42; have := dUnhide sz47; have := dUnhide sz50; have := dUnhide sz63; have := dUnhide sz69; have := dUnhide sz72; have := dUnhide sz77; have := dUnhide sz80; omega))
    replace OG := dHide ((dUnhide OG).wr b84 (by have := dUnhide sz0; have := dUnhide sz1; have := dUnhide sz8; have := dUnhide sz13; have := dUnhide sz18; have := dUnhide sz19; have := dUnhide sz26; have := dUnhide sz29; have := dUnhide sz30; have := dUnhide sz32; have := dUnhide sz37; have := dUnhide sz42; have := dUnhide sz47; have := dUnhide sz50; have := dUnhide sz63; have := dUnhide sz69; have := dUnhide sz72; have := dUnhide sz77; have := dUnhide sz80; omega))
    replace B := b84.below B B.size (by have := dUnhide sz0; have := dUnhide sz1; have := dUnhide sz8; have := dUnhide sz13; have := dUnhide sz18; have := dUnhide sz19; have := dUnhide sz26; have := dUnhide sz29; have := dUnhide sz30; have := dUnhide sz32; have := dUnhide sz37; have := dUnhide sz42; have := dUnhide sz47; have := dUnhide sz50; have := dUnhide sz63; have := dUnhide sz69; have := dUnhide sz72; have := dUnhide sz77; have := dUnhide sz80; omega)
    have sz86 := dHide b84.size
    replace M85 := dHide M85
    clear b84 T22
    go_wp2_with fail
    refine (markIntS_ _ _ _ _ (1 + cntConfig m0) _ (by omega) (by omega) (dUnhide T33)).mono ?_
    rintro e w87 ⟨rfl, M89, b88⟩
    replace X0 := dHide ((dUnhide X0).wr b88 (by have := dUnhide sz0; have := dUnhide sz1; have := dUnhide sz8; have := dUnhide sz13; have := dUnhide sz18; have := dUnhide sz19; have := dUnhide sz26; have := dUnhide sz29; have := dUnhide sz30; have := dUnhide sz32; have := dUnhide sz37; have := dUnhide sz42; have := dUnhide sz47; have := dUnhide sz50; have := dUnhide sz63; have := dUnhide sz69; have := dUnhide sz72; have := dUnhide sz77; have := dUnhide sz80; have := dUnhide sz86; omega))
    replace OW := dHide ((dUnhide OW).wr b88 (by have := dUnhide sz0; have := dUnhide sz1; have := dUnhide sz8; have := dUnhide sz13; have := dUnhide sz18; have := dUnhide sz19; have := dUnhide sz26; have := dUnhide sz29; have := dUnhide sz30; have := dUnhide sz32; have := dUnhide sz37; have := dUnhide sz42; have := dUnhide sz47; have := dUnhide sz50; have := dUnhide sz63; have := dUnhide sz69; have := dUnhide sz72; have := dUnhide sz77; have := dUnhide sz80; have := dUnhide sz86; omega))
    replace X28 := dHide ((dUnhide X28).wr b88 (by have := dUnhide sz0; have := dUnhide sz1; have := dUnhide sz8; have := dUnhide sz13; have := dUnhide sz18; have := dUnhide sz19; have := dUnhide sz26; have := dUnhide sz29; have := dUnhide sz30; have := dUnhide sz32; have := dUnhide sz37; have := dUnhide sz42; have := dUnhide sz47; have := dUnhide sz50; have := dUnhide sz63; have := dUnhide sz69; have := dUnhide sz72; have := dUnhide sz77; have := dUnhide sz80; have := dUnhide sz86; omega))
    replace T38 := dHide ((dUnhide T38).wr b88 (by have := dUnhide sz0; have := dUnhide sz1; have := dUnhide sz8; have := dUnhide sz13; have := dUnhide sz18; have := dUnhide sz19; have := dUnhide sz26; have := dUnhide sz29; have := dUnhide sz30; have := dUnhide sz32; have := dUnhide sz37; have := dUnhide sz42; have := dUnhide sz47; have := dUnhide sz50; have := dUnhide sz63; have := dUnhide sz69; have := dUnhide sz72; have := dUnhide sz77; have := dUnhide sz80; have := dUnhide sz86; omega))
    replace OG := dHide ((dUnhide OG).wr b88 (by have := dUnhide sz0; have := dUnhide sz1; have := dUnhide sz8; have := dUnhide sz13; have := dUnhide sz18; have := dUnhide sz19; have := dUnhide sz26; have := dUnhide sz29; have := dUnhide sz30; have := dUnhide sz32; have := dUnhide sz37; have := dUnhide sz42; have := dUnhide sz47; have := dUnhide sz50; have := dUnhide sz63; have := dUnhide sz69; have := dUnhide sz72; have := dUnhide sz77; have := dUnhide sz80; have := dUnhide sz86; omega))
    replace M85 := dHide ((dUnhide M85).wr b88 (by have := dUnhide sz0; have := dUnhide sz1; have := dUnhide sz8; have := dUnhide sz13; have := dUnhide sz18; have := dUnhide sz19; have := dUnhide sz26; have := dUnhide sz29; have := dUnhide sz30; have := dUnhide sz32; have := dUnhide sz37; have := dUnhide sz42; have := dUnhide sz47; have := dUnhide sz50; have := dUnhide sz63; have := dUnhide sz69; have := dUnhide sz72; have := dUnhide sz77; have := dUnhide sz80; have := dUnhide sz86; omega))
    replace B := b88.below B B.size (by have := dUnhide sz0; have := dUnhide sz1; have := dUnhide sz8; have := dUnhide sz13; have := dUnhide sz18; have := dUnhide sz19; have := dUnhide sz26; have := dUnhide sz29; have := dUnhide sz30; have := dUnhide sz32; have := dUnhide sz37; have := dUnhide sz42; have := dUnhide sz47; have := dUnhide sz50; have := dUnhide sz63; have := dUnhide sz69; have := dUnhide sz72; have := dUnhide sz77; have := dUnhide sz80; have := dUnhide sz86; omega)
    have sz90 := dHide b88.size
    replace M89 := dHide M89
    clear b88 T33
    go_wp2_with fail
    refine (markIntS_ _ _ _ _ (1 + cntConfig m0 + cntIntS m1) _ (by omega) (by omega) (dUnhide T38)).mono ?_
    rintro e w91 ⟨rfl, M93, b92⟩
    replace X0 := dHide ((dUnhide X0).wr b92 (by have := dUnhide sz0; have := dUnhide sz1; have := dUnhide sz8; have := dUnhide sz13; have := dUnhide sz18; have := dUnhide sz19; have := dUnhide sz26; have := dUnhide sz29; have := dUnhide sz30; have := dUnhide sz32; have := dUnhide sz37; have := dUnhide sz42; have := dUnhide sz47; have := dUnhide sz50; have := dUnhide sz63; have := dUnhide sz69; have := dUnhide sz72; have := dUnhide sz77; have := dUnhide sz80; have := dUnhide sz86; have := dUnhide sz90; omega))
    replace OW := dHide ((dUnhide OW).wr b92 (by have := dUnhide sz0; have := dUnhide sz1; have := dUnhide sz8; have := dUnhide sz13; have := dUnhide sz18; have := dUnhide sz19; have := dUnhide sz26; have := dUnhide sz29; have := dUnhide sz30; have := dUnhide sz32; have := dUnhide sz37; have := dUnhide sz42; have := dUnhide sz47; have := dUnhide sz50; have := dUnhide sz63; have := dUnhide sz69; have := dUnhide sz72; have := dUnhide sz77; have := dUnhide sz80; have := dUnhide sz86; have := dUnhide sz90; omega))
    replace X28 := dHide ((dUnhide X28).wr b92 (by have := dUnhide sz0; have := dUnhide sz1; have := dUnhide sz8; have := dUnhide sz13; have := dUnhide sz18; have := dUnhide sz19; have := dUnhide sz26; have := dUnhide sz29; have := dUnhide sz30; have := dUnhide sz32; have := dUnhide sz37; have := dUnhide sz42; have := dUnhide sz47; have := dUnhide sz50; have := dUnhide sz63; have := dUnhide sz69; have := dUnhide sz72; have := dUnhide sz77; have := dUnhide sz80; have := dUnhide sz86; have := dUnhide sz90; omega))
    replace OG := dHide ((dUnhide OG).wr b92 (by have := dUnhide sz0; have := dUnhide sz1; have := dUnhide sz8; have := dUnhide sz13; have := dUnhide sz18; have := dUnhide sz19; have := dUnhide sz26; have := dUnhide sz29; have := dUnhide sz30; have := dUnhide sz32; have := dUnhide sz37; have := dUnhide sz42; have := dUnhide sz47; have := dUnhide sz50; have := dUnhide sz63; have := dUnhide sz69; have := dUnhide sz72; have := dUnhide sz77; have := dUnhide sz80; have := dUnhide sz86; have := dUnhide sz90; omega))
    replace M85 := dHide ((dUnhide M85).wr b92 (by have := dUnhide sz0; have := dUnhide sz1; have := dUnhide sz8; have := dUnhide sz13; have := dUnhide sz18; have := dUnhide sz19; have := dUnhide sz26; have := dUnhide sz29; have := dUnhide sz30; have := dUnhide sz32; have := dUnhide sz37; have := dUnhide sz42; have := dUnhide sz47; have := dUnhide sz50; have := dUnhide sz63; have := dUnhide sz69; have := dUnhide sz72; have := dUnhide sz77; have := dUnhide sz80; have := dUnhide sz86; have := dUnhide sz90; omega))
    replace M89 := dHide ((dUnhide M89).wr b92 (by have := dUnhide sz0; have := dUnhide sz1; have := dUnhide sz8; have := dUnhide sz13; have := dUnhide sz18; have := dUnhide sz19; have := dUnhide sz26; have := dUnhide sz29; have := dUnhide sz30; have := dUnhide sz32; have := dUnhide sz37; have := dUnhide sz42; have := dUnhide sz47; have := dUnhide sz50; have := dUnhide sz63; have := dUnhide sz69; have := dUnhide sz72; have := dUnhide sz77; have := dUnhide sz80; have := dUnhide sz86; have := dUnhide sz90; omega))
    replace B := b92.below B B.size (by have := dUnhide sz0; have := dUnhide sz1; have := dUnhide sz8; have := dUnhide sz13; have := dUnhide sz18; have := dUnhide sz19; have := dUnhide sz26; have := dUnhide sz29; have := dUnhide sz30; have := dUnhide sz32; have := dUnhide sz37; have := dUnhide sz42; have := dUnhide sz47; have := dUnhide sz50; have := dUnhide sz63; have := dUnhide sz69; have := dUnhide sz72; have := dUnhide sz77; have := dUnhide sz80; have := dUnhide sz86; have := dUnhide sz90; omega)
    have sz94 := dHide b92.size
    replace M93 := dHide M93
    clear b92 T38
    clear M85 M89 M93 X28
    have hk : ¬ (((1 + cntConfig m0 + cntIntS m1 + cntIntS m2 : Nat) : Int) < 0) := by omega
    go_wp2_with fail
    refine (eqIntS_ _ _ _ _ (dUnhide OG).now.rd (dUnhide OW).now.rd).mono ?_
    rintro e w95 ⟨rfl, b96⟩
    have sz97 := dHide b96.size
    replace X0 := dHide ((dUnhide X0).below b96)
    replace OW := dHide ((dUnhide OW).below b96)
    replace OG := dHide ((dUnhide OG).below b96)
    replace B := belowThen B b96
    clear b96
    go_wp2_with fail
    refine (markIntS_ _ _ _ _ 1 _ (by omega) (by omega) (dUnhide OG)).mono ?_
    rintro e w98 ⟨rfl, M100, b99⟩
    replace X0 := dHide ((dUnhide X0).wr b99 (by have := dUnhide sz0; have := dUnhide sz1; have := dUnhide sz8; have := dUnhide sz13; have := dUnhide sz18; have := dUnhide sz19; have := dUnhide sz26; have := dUnhide sz29; have := dUnhide sz30; have := dUnhide sz32; have := dUnhide sz37; have := dUnhide sz42; have := dUnhide sz47; have := dUnhide sz50; have := dUnhide sz63; have := dUnhide sz69; have := dUnhide sz72; have := dUnhide sz77; have := dUnhide sz80; have := dUnhide sz86; have := dUnhide sz90; have := dUnhide sz94; have := dUnhide sz97; omega))
    replace OW := dHide ((dUnhide OW).wr b99 (by have := dUnhide sz0; have := dUnhide sz1; have := dUnhide sz8; have := dUnhide sz13; have := dUnhide sz18; have := dUnhide sz19; have := dUnhide sz26; have := dUnhide sz29; have := dUnhide sz30; have := dUnhide sz32; have := dUnhide sz37; have := dUnhide sz42; have := dUnhide sz47; have := dUnhide sz50; have := dUnhide sz63; have := dUnhide sz69; have := dUnhide sz72; have := dUnhide sz77; have := dUnhide sz80; have := dUnhide sz86; have := dUnhide sz90; have := dUnhide sz94; have := dUnhide sz97; omega))
    replace B := b99.below B B.size (by have := dUnhide sz0; have := dUnhide sz1; have := dUnhide sz8; have := dUnhide sz13; have := dUnhide sz18; have := dUnhide sz19; have := dUnhide sz26; have := dUnhide sz29; have := dUnhide sz30; have := dUnhide sz32; have := dUnhide sz37; have := dUnhide sz42; have := dUnhide sz47; have := dUnhide sz50; have := dUnhide sz63; have := dUnhide sz69; have := dUnhide sz72; have := dUnhide sz77; have := dUnhide sz80; have := dUnhide sz86; have := dUnhide sz90; have := dUnhide sz94; have := dUnhide sz97; omega)
    have sz101 := dHide b99.size
    replace M100 := dHide M100
    clear b99 OG
    go_wp2_with fail
    refine (heldIntS_ _ R 1 _ (by omega) (by omega) (dUnhide M100).now.rd).mono ?_
    rintro e w102 ⟨rfl, b103⟩
    have sz104 := dHide b103.size
    replace X0 := dHide ((dUnhide X0).below b103)
    replace OW := dHide ((dUnhide OW).below b103)
    replace M100 := dHide ((dUnhide M100).below b103)
    replace B := belowThen B b103
    clear b103
    have hq : ¬ (((1 + cntIntS R : Nat) : Int) < 0) := by omega
    have k105 := (dUnhide X0).now 0 _ rfl
    have k106 := (dUnhide X0).now 1 _ rfl
    go_wp2_with fail
    refine (toConfig_ _ m0 _ hs0 (dUnhide A0 _ B)).mono ?_
    rintro e w109 ⟨u108, rfl, T107, b110⟩
    clear k105 k106
    have sz111 := dHide b110.size
    replace X0 := dHide ((dUnhide X0).below b110)
    replace OW := dHide ((dUnhide OW).below b110)
    replace M100 := dHide ((dUnhide M100).below b110)
    replace B := belowThen B b110
    replace T107 := dHide T107
    clear b110
    obtain ⟨u108a, u108c, rfl, u108l⟩ := formConfig (dUnhide T107).now.rd
    go_wp2_with fail
    refine (toIntS_ _ m1 _ hs1 (dUnhide A1 _ B)).mono ?_
    rintro e w114 ⟨u113, rfl, T112, b115⟩
    have sz116 := dHide b115.size
    replace X0 := dHide ((dUnhide X0).below b115)
    replace OW := dHide ((dUnhide OW).below b115)
    replace M100 := dHide ((dUnhide M100).below b115)
    replace T107 := dHide ((dUnhide T107).below b115)
    replace B := belowThen B b115
    replace T112 := dHide T112
    clear b115
    obtain ⟨u113a, u113c, rfl, u113l⟩ := formIntS (dUnhide T112).now.rd
    go_wp2_with fail
    refine (toIntS_ _ m2 _ hs2 (dUnhide A2 _ B)).mono ?_
    rintro e w119 ⟨u118, rfl, T117, b120⟩
    have sz121 := dHide b120.size
    replace X0 := dHide ((dUnhide X0).below b120)
    replace OW := dHide ((dUnhide OW).below b120)
    replace M100 := dHide ((dUnhide M100).below b120)
    replace T107 := dHide ((dUnhide T107).below b120)
    replace T112 := dHide ((dUnhide T112).below b120)
    replace B := belowThen B b120
    replace T117 := dHide T117
    clear b120
    obtain ⟨u118a, u118c, rfl, u118l⟩ := formIntS (dUnhide T117).now.rd
    go_wp2_with fail
    refine (dUnhide CI _ _ _ _ (dUnhide T107).now.rd (dUnhide T112).now.rd (dUnhide T117).now.rd).mono ?_
    rintro e w122 ⟨uh, rfl, OH, b123⟩
    clear T107 T112 T117
    have sz124 := dHide b123.size
    replace X0 := dHide ((dUnhide X0).below b123)
    replace OW := dHide ((dUnhide OW).below b123)
    replace M100 := dHide ((dUnhide M100).below b123)
    replace B := belowThen B b123
    replace OH := dHide OH
    clear b123
    obtain ⟨uha, uhc, rfl, uhl⟩ := formIntS (dUnhide OH).now.rd
    go_wp2_with fail
    refine (eqIntS_ _ _ _ _ (dUnhide OH).now.rd (dUnhide OW).now.rd).mono ?_
    rintro e w125 ⟨rfl, b126⟩
    have sz127 := dHide b126.size
    replace X0 := dHide ((dUnhide X0).below b126)
    replace OW := dHide ((dUnhide OW).below b126)
    replace M100 := dHide ((dUnhide M100).below b126)
    replace OH := dHide ((dUnhide OH).below b126)
    replace B := belowThen B b126
    clear b126
    go_wp2_with fail
    refine (heldIntS_ _ R 1 _ (by omega) (by omega) (dUnhide M100).now.rd).mono ?_
    rintro e w128 ⟨rfl, b129⟩
    have sz130 := dHide b129.size
    replace X0 := dHide ((dUnhide X0).below b129)
    replace OW := dHide ((dUnhide OW).below b129)
    replace M100 := dHide ((dUnhide M100).below b129)
    replace OH := dHide ((dUnhide OH).below b129)
    replace B := belowThen B b129
    clear b129
    clear X0 OW M100 OH
    go_wp2
    go_ret
    exact ⟨rfl, B⟩
end Go.Proofs.Ytgedaaknkhkegaa
