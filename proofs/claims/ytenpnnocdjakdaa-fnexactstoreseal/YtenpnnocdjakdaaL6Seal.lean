/- FnExactStoreSeal: both answers, and the law's walk (printed by tools/mkl6.py). -/
import Derived.Test.YtenpnnocdjakdaaQ6Seal
import Derived.Deep.RegionHeld3
import Derived.Deep.DeepCutAuto
namespace Go.Proofs.Ytenpnnocdjakdaa
open Go.ChangeShapes Go.WideShapes Go.ChangeAt Go.RowKit
set_option linter.unusedVariables false
theorem bothFnExactStoreSeal (m0 : St) (m1 : Int) (ok0 : okStore m0) (ok1 : okInt m1) (hs0 : sizStore m0 ≤ 1048576) : ∃ (R : St) (s1 : Bool), cntStore R ≤ 1048576 ∧ (∀ W v0, RdStore v0 m0 W → Calls Try.prog 19 #[v0, .int .i64 m1] W fun e w' => ∃ u, e = .returned (.tuple #[u, .bool s1]) ∧ Sits (OwStore W.heap.size w'.heap.size u R) W.heap.size w'.heap.size w' ∧ Below W.heap.size W w') ∧ (∀ W v0, RdStore v0 m0 W → Calls Try.prog 18 #[v0, .int .i64 m1] W fun e w' => ∃ u, e = .returned (.tuple #[u, .bool s1]) ∧ Sits (OwStore W.heap.size w'.heap.size u R) W.heap.size w'.heap.size w' ∧ Below W.heap.size W w') := ⟨_, _, cnt_seal _ _, specSeal_sits m0 m1 ok0 ok1, implSeal_sits m0 m1 ok0 ok1⟩
set_option maxHeartbeats 4000000 in
set_option maxRecDepth 100000 in
theorem walkFnExactStoreSeal (v0 v1 : Value) (m0 : St) (m1 : Int) (w : World) (i0 : IsStore v0 m0 w) (i1 : IsInt v1 m1 w) :
    Calls Try.prog 10 #[v0, v1] w fun r w' => r = .returned (.bool true) ∧ Below w.heap.size w w' := by
  obtain ⟨rfl, ok1⟩ := i1
  obtain ⟨r0, ok0⟩ := i0
  have ha : ∀ (w : World) o, Below w.heap.size w (w.alloc o) := fun w o => (Below.refl _ _).alloc (Nat.le_refl _) o
  have A0 := dHide fun W (hb : Below w.heap.size w W) => r0.below hb
  obtain ⟨v0ka, v0kc, v0la, v0lc, rfl, v0l1, v0l2⟩ := formStore r0
  by_cases z0 : (1048576 : Int) < (sizStore m0 : Int)
  · have CS := dHide fun W (hb : Below w.heap.size w W) => szStore_ _ m0 1048576 (by omega) (by omega) (txtS_of ok0) W (dUnhide A0 W hb)
    rw [lft_no z0] at CS
    clear z0
    go_enter Try.func10, Try.ntmps10
    go_wp2_with fail
    refine (dUnhide CS _ (ha _ _)).mono ?_
    rintro e w1 ⟨rfl, b1⟩
    have B1 := belowThen (ha w _) b1
    clear b1 ha CS
    go_wp2
    go_ret
    exact ⟨rfl, B1⟩
  have hs0 : sizStore m0 ≤ 1048576 := by omega
  have hc0 := cntStore_le hs0
  obtain ⟨R, s1, hR, p1, p2⟩ := bothFnExactStoreSeal m0 m1 ok0 ok1 hs0
  have CP := dHide p1
  have CI := dHide p2
  have CS := dHide fun W (hb : Below w.heap.size w W) => szStore_ _ m0 1048576 (by omega) (by omega) (txtS_of ok0) W (dUnhide A0 W hb)
  rw [lft_yes z0] at CS
  have z0' : ¬ ((1048576 : Int) - (sizStore m0 : Int) < 0) := by omega
  clear p1 p2 r0 ok0 ok1
  go_enter Try.func10, Try.ntmps10
  go_wp2_with fail
  have B := ha w (.cells #[.slice v0ka m0.kept.length v0kc, .slice v0la m0.late.length v0lc, .int .i64 m0.lock] 48)
  have X0 := dHide (Sits.box w #[.slice v0ka m0.kept.length v0kc, .slice v0la m0.late.length v0lc, .int .i64 m0.lock] 48)
  have sz0 : Hid (w.heap.size + 1 = (w.alloc (.cells #[.slice v0ka m0.kept.length v0kc, .slice v0la m0.late.length v0lc, .int .i64 m0.lock] 48)).heap.size) := by simp [Hid]
  generalize w.alloc (.cells #[.slice v0ka m0.kept.length v0kc, .slice v0la m0.late.length v0lc, .int .i64 m0.lock] 48) = wb at *
  refine (dUnhide CS _ B).mono ?_
  rintro e ws ⟨rfl, bs⟩
  have sz1 := dHide bs.size
  replace X0 := dHide ((dUnhide X0).below bs)
  replace B := belowThen B bs
  clear bs CS
  have k2 := (dUnhide X0).now 0 _ rfl
  have k3 := (dUnhide X0).now 1 _ rfl
  have k4 := (dUnhide X0).now 2 _ rfl
  go_wp2_with fail
  refine (toStore_ _ m0 _ hs0 (dUnhide A0 _ B)).mono ?_
  rintro e w7 ⟨u6, rfl, T5, b8⟩
  clear k2 k3 k4
  have sz9 := dHide b8.size
  replace X0 := dHide ((dUnhide X0).below b8)
  replace B := belowThen B b8
  replace T5 := dHide T5
  clear b8
  obtain ⟨u6ka, u6kc, u6la, u6lc, rfl, u6l1, u6l2⟩ := formStore (dUnhide T5).now.rd
  go_wp2_with fail
  refine (dUnhide CP _ _ (dUnhide T5).now.rd).mono ?_
  rintro e w3 ⟨uw, rfl, OW, bw⟩
  clear T5
  have sz10 := dHide bw.size
  replace X0 := dHide ((dUnhide X0).below bw)
  replace B := belowThen B bw
  replace OW := dHide OW
  clear bw CP
  obtain ⟨uwka, uwkc, uwla, uwlc, rfl, uwl1, uwl2⟩ := formStore (dUnhide OW).now.rd
  have X11 := Sits.box w3 #[.slice uwka R.kept.length uwkc, .slice uwla R.late.length uwlc, .int .i64 R.lock] 26
  have ba := ha w3 (.cells #[.slice uwka R.kept.length uwkc, .slice uwla R.late.length uwlc, .int .i64 R.lock] 26)
  have sz13 := dHide ba.size
  replace X0 := dHide ((dUnhide X0).below ba)
  replace OW := dHide ((dUnhide OW).below ba)
  replace B := belowThen B ba
  have sz14 : Hid (w3.heap.size + 1 = (w3.alloc (.cells #[.slice uwka R.kept.length uwkc, .slice uwla R.late.length uwlc, .int .i64 R.lock] 26)).heap.size) := by simp [Hid]
  replace X11 := dHide X11
  clear ba
  have k15 := (dUnhide X0).now 0 _ rfl
  have k16 := (dUnhide X0).now 1 _ rfl
  have k17 := (dUnhide X0).now 2 _ rfl
  go_wp2_with fail
  generalize hbx12 : w3.heap.size = bx12 at *
  generalize w3.alloc (.cells #[.slice uwka R.kept.length uwkc, .slice uwla R.late.length uwlc, .int .i64 R.lock] 26) = w18 at *
  have sz19 := dHide hbx12
  clear hbx12
  have k20 := (dUnhide X0).now 0 _ rfl
  have k21 := (dUnhide X0).now 1 _ rfl
  have k22 := (dUnhide X0).now 2 _ rfl
  refine (toStore_ _ m0 _ hs0 (dUnhide A0 _ B)).mono ?_
  rintro e w25 ⟨u24, rfl, T23, b26⟩
  clear k20 k21 k22
  clear k15 k16 k17
  have sz27 := dHide b26.size
  replace X0 := dHide ((dUnhide X0).below b26)
  replace OW := dHide ((dUnhide OW).below b26)
  replace X11 := dHide ((dUnhide X11).below b26)
  replace B := belowThen B b26
  replace T23 := dHide T23
  clear b26
  obtain ⟨u24ka, u24kc, u24la, u24lc, rfl, u24l1, u24l2⟩ := formStore (dUnhide T23).now.rd
  go_wp2_with fail
  have X29 := Sits.box w25 #[.slice u24ka m0.kept.length u24kc, .slice u24la m0.late.length u24lc, .int .i64 m0.lock] 26
  have ba := ha w25 (.cells #[.slice u24ka m0.kept.length u24kc, .slice u24la m0.late.length u24lc, .int .i64 m0.lock] 26)
  have sz30 := dHide ba.size
  replace X0 := dHide ((dUnhide X0).below ba)
  replace OW := dHide ((dUnhide OW).below ba)
  replace X11 := dHide ((dUnhide X11).below ba)
  replace T23 := dHide ((dUnhide T23).below ba)
  replace B := belowThen B ba
  have sz31 : Hid (w25.heap.size + 1 = (w25.alloc (.cells #[.slice u24ka m0.kept.length u24kc, .slice u24la m0.late.length u24lc, .int .i64 m0.lock] 26)).heap.size) := by simp [Hid]
  replace X29 := dHide X29
  clear ba
  generalize hbx28 : w25.heap.size = bx28 at *
  generalize w25.alloc (.cells #[.slice u24ka m0.kept.length u24kc, .slice u24la m0.late.length u24lc, .int .i64 m0.lock] 26) = w32 at *
  have sz33 := dHide hbx28
  clear hbx28
  have k34 := (dUnhide X29).now 0 _ rfl
  have k35 := (dUnhide X29).now 1 _ rfl
  have k36 := (dUnhide X29).now 2 _ rfl
  refine (dUnhide CI _ _ (dUnhide T23).now.rd).mono ?_
  rintro e w37 ⟨ug, rfl, OG, b38⟩
  clear k34 k35 k36
  have sz39 := dHide b38.size
  replace X0 := dHide ((dUnhide X0).below b38)
  replace OW := dHide ((dUnhide OW).below b38)
  replace X11 := dHide ((dUnhide X11).below b38)
  replace T23 := dHide ((dUnhide T23).below b38)
  replace X29 := dHide ((dUnhide X29).below b38)
  replace B := belowThen B b38
  replace OG := dHide OG
  clear b38
  obtain ⟨ugka, ugkc, ugla, uglc, rfl, ugl1, ugl2⟩ := formStore (dUnhide OG).now.rd
  have X40 := Sits.box w37 #[.slice ugka R.kept.length ugkc, .slice ugla R.late.length uglc, .int .i64 R.lock] 26
  have ba := ha w37 (.cells #[.slice ugka R.kept.length ugkc, .slice ugla R.late.length uglc, .int .i64 R.lock] 26)
  have sz42 := dHide ba.size
  replace X0 := dHide ((dUnhide X0).below ba)
  replace OW := dHide ((dUnhide OW).below ba)
  replace X11 := dHide ((dUnhide X11).below ba)
  replace T23 := dHide ((dUnhide T23).below ba)
  replace X29 := dHide ((dUnhide X29).below ba)
  replace OG := dHide ((dUnhide OG).below ba)
  replace B := belowThen B ba
  have sz43 : Hid (w37.heap.size + 1 = (w37.alloc (.cells #[.slice ugka R.kept.length ugkc, .slice ugla R.late.length uglc, .int .i64 R.lock] 26)).heap.size) := by simp [Hid]
  replace X40 := dHide X40
  clear ba
  have k44 := (dUnhide X40).now 0 _ rfl
  have k45 := (dUnhide X40).now 1 _ rfl
  have k46 := (dUnhide X40).now 2 _ rfl
  have k47 := (dUnhide X11).now 0 _ rfl
  have k48 := (dUnhide X11).now 1 _ rfl
  have k49 := (dUnhide X11).now 2 _ rfl
  go_wp2_with fail
  generalize hbx41 : w37.heap.size = bx41 at *
  generalize w37.alloc (.cells #[.slice ugka R.kept.length ugkc, .slice ugla R.late.length uglc, .int .i64 R.lock] 26) = w50 at *
  have sz51 := dHide hbx41
  clear hbx41
  refine (eqStore_ _ _ _ _ (dUnhide OG).now.rd (dUnhide OW).now.rd).mono ?_
  rintro e w52 ⟨rfl, b53⟩
  clear k44 k45 k46 k47 k48 k49
  have sz54 := dHide b53.size
  replace X0 := dHide ((dUnhide X0).below b53)
  replace OW := dHide ((dUnhide OW).below b53)
  replace X11 := dHide ((dUnhide X11).below b53)
  replace T23 := dHide ((dUnhide T23).below b53)
  replace X29 := dHide ((dUnhide X29).below b53)
  replace OG := dHide ((dUnhide OG).below b53)
  replace X40 := dHide ((dUnhide X40).below b53)
  replace B := belowThen B b53
  clear b53
  have k55 := (dUnhide X29).now 0 _ rfl
  have k56 := (dUnhide X29).now 1 _ rfl
  have k57 := (dUnhide X29).now 2 _ rfl
  have k58 := (dUnhide X0).now 0 _ rfl
  have k59 := (dUnhide X0).now 1 _ rfl
  have k60 := (dUnhide X0).now 2 _ rfl
  have hbr := Below.refl w52.heap.size w52
  go_wp2_with fail
  go_cut [49] (fun sv wx => sv = .bool false ∧ Below w52.heap.size w52 wx)
  case first =>
    go_region_held3 (fun W => W.cell? ⟨bx28, 0, none⟩ = some (.slice u24ka m0.kept.length u24kc) ∧ W.cell? ⟨bx28, 1, none⟩ = some (.slice u24la m0.late.length u24lc) ∧ W.cell? ⟨bx28, 2, none⟩ = some (.int .i64 m0.lock) ∧ W.cell? ⟨w.heap.size, 0, none⟩ = some (.slice v0ka m0.kept.length v0kc) ∧ W.cell? ⟨w.heap.size, 1, none⟩ = some (.slice v0la m0.late.length v0lc) ∧ W.cell? ⟨w.heap.size, 2, none⟩ = some (.int .i64 m0.lock)) (go_keep)
      (first
        | (go_at_call 39; refine (toStore_ _ m0 _ hs0 (dUnhide A0 _ (belowThen B hbr.drew))).mono ?_; rintro e w8 ⟨o8, rfl, q8, b8⟩; have hb8 := belowThen hbr.drew b8; have k61 := ((dUnhide X29).at hb8) 0 _ rfl; have k62 := ((dUnhide X29).at hb8) 1 _ rfl; have k63 := ((dUnhide X29).at hb8) 2 _ rfl; have k64 := ((dUnhide X0).at hb8) 0 _ rfl; have k65 := ((dUnhide X0).at hb8) 1 _ rfl; have k66 := ((dUnhide X0).at hb8) 2 _ rfl; have Q8 := dHide q8; obtain ⟨o8ka, o8kc, o8la, o8lc, rfl, o8l1, o8l2⟩ := formStore q8.now.rd; clear q8)
        | (go_at_call 41; refine (eqStore_ _ _ _ _ ((dUnhide T23).at hb8).rd (dUnhide Q8).now.rd).mono ?_; rintro e w9 ⟨rfl, b9⟩; have hb9 := belowThen hb8 b9; have k67 := ((dUnhide X29).at hb9) 0 _ rfl; have k68 := ((dUnhide X29).at hb9) 1 _ rfl; have k69 := ((dUnhide X29).at hb9) 2 _ rfl; have k70 := ((dUnhide X0).at hb9) 0 _ rfl; have k71 := ((dUnhide X0).at hb9) 1 _ rfl; have k72 := ((dUnhide X0).at hb9) 2 _ rfl))
    all_goals
      go_wp2_with fail
      go_meet
      case rel => exact ⟨rfl, hb9⟩
  case rest =>
    obtain ⟨rfl, bc⟩ := hcut
    clear hbr
    clear k55 k56 k57 k58 k59 k60
    have sz73 := dHide bc.size
    replace X0 := dHide ((dUnhide X0).below bc)
    replace OW := dHide ((dUnhide OW).below bc)
    replace X11 := dHide ((dUnhide X11).below bc)
    replace T23 := dHide ((dUnhide T23).below bc)
    replace X29 := dHide ((dUnhide X29).below bc)
    replace OG := dHide ((dUnhide OG).below bc)
    replace X40 := dHide ((dUnhide X40).below bc)
    replace B := belowThen B bc
    generalize wc = w74 at *
    clear bc
    have k75 := (dUnhide X29).now 0 _ rfl
    have k76 := (dUnhide X29).now 1 _ rfl
    have k77 := (dUnhide X29).now 2 _ rfl
    go_wp2_with fail
    refine (markStore_ _ _ _ _ 1 _ (by omega) (by omega) (dUnhide T23)).mono ?_
    rintro e w78 ⟨rfl, M80, b79⟩
    clear k75 k76 k77
    replace X0 := dHide ((dUnhide X0).wr b79 (by have := dUnhide sz0; have := dUnhide sz1; have := dUnhide sz9; have := dUnhide sz10; have := dUnhide sz13; have := dUnhide sz14; have := dUnhide sz19; have := dUnhide sz27; have := dUnhide sz30; have := dUnhide sz31; have := dUnhide sz33; have := dUnhide sz39; have := dUnhide sz42; have := dUnhide sz43; have := dUnhide sz51; have := dUnhide sz54; have := dUnhide sz73; omega))
    replace OW := dHide ((dUnhide OW).wr b79 (by have := dUnhide sz0; have := dUnhide sz1; have := dUnhide sz9; have := dUnhide sz10; have := dUnhide sz13; have := dUnhide sz14; have := dUnhide sz19; have := dUnhide sz27; have := dUnhide sz30; have := dUnhide sz31; have := dUnhide sz33; have := dUnhide sz39; have := dUnhide sz42; have := dUnhide sz43; have := dUnhide sz51; have := dUnhide sz54; have := dUnhide sz73; omega))
    replace X11 := dHide ((dUnhide X11).wr b79 (by have := dUnhide sz0; have := dUnhide sz1; have := dUnhide sz9; have := dUnhide sz10; have := dUnhide sz13; have := dUnhide sz14; have := dUnhide sz19; have := dUnhide sz27; have := dUnhide sz30; have := dUnhide sz31; have := dUnhide sz33; have := dUnhide sz39; have := dUnhide sz42; have := dUnhide sz43; have := dUnhide sz51; have := dUnhide sz54; have := dUnhide sz73; omega))
    replace X29 := dHide ((dUnhide X29).wr b79 (by have := dUnhide sz0; have := dUnhide sz1; have := dUnhide sz9; have := dUnhide sz10; have := dUnhide sz13; have := dUnhide sz14; have := dUnhide sz19; have := dUnhide sz27; have := dUnhide sz30; have := dUnhide sz31; have := dUnhide sz33; have := dUnhide sz39; have := dUnhide sz42; have := dUnhide sz43; have := dUnhide sz51; have := dUnhide sz54; have := dUnhide sz73; omega))
    replace OG := dHide ((dUnhide OG).wr b79 (by have := dUnhide sz0; have := dUnhide sz1; have := dUnhide sz9; have := dUnhide sz10; have := dUnhide sz13; have := dUnhide sz14; have := dUnhide sz19; have := dUnhide sz27; have := dUnhide sz30; have := dUnhide sz31; have := dUnhide sz33; have := dUnhide sz39; have := dUnhide sz42; have := dUnhide sz43; have := dUnhide sz51; have := dUnhide sz54; have := dUnhide sz73; omega))
    replace X40 := dHide ((dUnhide X40).wr b79 (by have := dUnhide sz0; have := dUnhide sz1; have := dUnhide sz9; have := dUnhide sz10; have := dUnhide sz13; have := dUnhide sz14; have := dUnhide sz19; have := dUnhide sz27; have := dUnhide sz30; have := dUnhide sz31; have := dUnhide sz33; have := dUnhide sz39; have := dUnhide sz42; have := dUnhide sz43; have := dUnhide sz51; have := dUnhide sz54; have := dUnhide sz73; omega))
    replace B := b79.below B B.size (by have := dUnhide sz0; have := dUnhide sz1; have := dUnhide sz9; have := dUnhide sz10; have := dUnhide sz13; have := dUnhide sz14; have := dUnhide sz19; have := dUnhide sz27; have := dUnhide sz30; have := dUnhide sz31; have := dUnhide sz33; have := dUnhide sz39; have := dUnhide sz42; have := dUnhide sz43; have := dUnhide sz51; have := dUnhide sz54; have := dUnhide sz73; omega)
    have sz81 := dHide b79.size
    replace M80 := dHide M80
    clear b79 T23
    clear M80 X29
    have hk : ¬ (((1 + cntStore m0 : Nat) : Int) < 0) := by omega
    have k82 := (dUnhide X40).now 0 _ rfl
    have k83 := (dUnhide X40).now 1 _ rfl
    have k84 := (dUnhide X40).now 2 _ rfl
    have k85 := (dUnhide X11).now 0 _ rfl
    have k86 := (dUnhide X11).now 1 _ rfl
    have k87 := (dUnhide X11).now 2 _ rfl
    go_wp2_with fail
    refine (eqStore_ _ _ _ _ (dUnhide OG).now.rd (dUnhide OW).now.rd).mono ?_
    rintro e w88 ⟨rfl, b89⟩
    clear k82 k83 k84 k85 k86 k87
    have sz90 := dHide b89.size
    replace X0 := dHide ((dUnhide X0).below b89)
    replace OW := dHide ((dUnhide OW).below b89)
    replace X11 := dHide ((dUnhide X11).below b89)
    replace OG := dHide ((dUnhide OG).below b89)
    replace X40 := dHide ((dUnhide X40).below b89)
    replace B := belowThen B b89
    clear b89
    have k91 := (dUnhide X40).now 0 _ rfl
    have k92 := (dUnhide X40).now 1 _ rfl
    have k93 := (dUnhide X40).now 2 _ rfl
    go_wp2_with fail
    refine (markStore_ _ _ _ _ 1 _ (by omega) (by omega) (dUnhide OG)).mono ?_
    rintro e w94 ⟨rfl, M96, b95⟩
    clear k91 k92 k93
    replace X0 := dHide ((dUnhide X0).wr b95 (by have := dUnhide sz0; have := dUnhide sz1; have := dUnhide sz9; have := dUnhide sz10; have := dUnhide sz13; have := dUnhide sz14; have := dUnhide sz19; have := dUnhide sz27; have := dUnhide sz30; have := dUnhide sz31; have := dUnhide sz33; have := dUnhide sz39; have := dUnhide sz42; have := dUnhide sz43; have := dUnhide sz51; have := dUnhide sz54; have := dUnhide sz73; have := dUnhide sz81; have := dUnhide sz90; omega))
    replace OW := dHide ((dUnhide OW).wr b95 (by have := dUnhide sz0; have := dUnhide sz1; have := dUnhide sz9; have := dUnhide sz10; have := dUnhide sz13; have := dUnhide sz14; have := dUnhide sz19; have := dUnhide sz27; have := dUnhide sz30; have := dUnhide sz31; have := dUnhide sz33; have := dUnhide sz39; have := dUnhide sz42; have := dUnhide sz43; have := dUnhide sz51; have := dUnhide sz54; have := dUnhide sz73; have := dUnhide sz81; have := dUnhide sz90; omega))
    replace X11 := dHide ((dUnhide X11).wr b95 (by have := dUnhide sz0; have := dUnhide sz1; have := dUnhide sz9; have := dUnhide sz10; have := dUnhide sz13; have := dUnhide sz14; have := dUnhide sz19; have := dUnhide sz27; have := dUnhide sz30; have := dUnhide sz31; have := dUnhide sz33; have := dUnhide sz39; have := dUnhide sz42; have := dUnhide sz43; have := dUnhide sz51; have := dUnhide sz54; have := dUnhide sz73; have := dUnhide sz81; have := dUnhide sz90; omega))
    replace X40 := dHide ((dUnhide X40).wr b95 (by have := dUnhide sz0; have := dUnhide sz1; have := dUnhide sz9; have := dUnhide sz10; have := dUnhide sz13; have := dUnhide sz14; have := dUnhide sz19; have := dUnhide sz27; have := dUnhide sz30; have := dUnhide sz31; have := dUnhide sz33; have := dUnhide sz39; have := dUnhide sz42; have := dUnhide sz43; have := dUnhide sz51; have := dUnhide sz54; have := dUnhide sz73; have := dUnhide sz81; have := dUnhide sz90; omega))
    replace B := b95.below B B.size (by have := dUnhide sz0; have := dUnhide sz1; have := dUnhide sz9; have := dUnhide sz10; have := dUnhide sz13; have := dUnhide sz14; have := dUnhide sz19; have := dUnhide sz27; have := dUnhide sz30; have := dUnhide sz31; have := dUnhide sz33; have := dUnhide sz39; have := dUnhide sz42; have := dUnhide sz43; have := dUnhide sz51; have := dUnhide sz54; have := dUnhide sz73; have := dUnhide sz81; have := dUnhide sz90; omega)
    have sz97 := dHide b95.size
    replace M96 := dHide M96
    clear b95 OG
    have k98 := (dUnhide X40).now 0 _ rfl
    have k99 := (dUnhide X40).now 1 _ rfl
    have k100 := (dUnhide X40).now 2 _ rfl
    go_wp2_with fail
    refine (heldStore_ _ R 1 _ (by omega) (by omega) (dUnhide M96).now.rd).mono ?_
    rintro e w101 ⟨rfl, b102⟩
    clear k98 k99 k100
    have sz103 := dHide b102.size
    replace X0 := dHide ((dUnhide X0).below b102)
    replace OW := dHide ((dUnhide OW).below b102)
    replace X11 := dHide ((dUnhide X11).below b102)
    replace X40 := dHide ((dUnhide X40).below b102)
    replace M96 := dHide ((dUnhide M96).below b102)
    replace B := belowThen B b102
    clear b102
    have hq : ¬ (((1 + cntStore R : Nat) : Int) < 0) := by omega
    have k104 := (dUnhide X0).now 0 _ rfl
    have k105 := (dUnhide X0).now 1 _ rfl
    have k106 := (dUnhide X0).now 2 _ rfl
    go_wp2_with fail
    refine (toStore_ _ m0 _ hs0 (dUnhide A0 _ B)).mono ?_
    rintro e w109 ⟨u108, rfl, T107, b110⟩
    clear k104 k105 k106
    have sz111 := dHide b110.size
    replace X0 := dHide ((dUnhide X0).below b110)
    replace OW := dHide ((dUnhide OW).below b110)
    replace X11 := dHide ((dUnhide X11).below b110)
    replace X40 := dHide ((dUnhide X40).below b110)
    replace M96 := dHide ((dUnhide M96).below b110)
    replace B := belowThen B b110
    replace T107 := dHide T107
    clear b110
    obtain ⟨u108ka, u108kc, u108la, u108lc, rfl, u108l1, u108l2⟩ := formStore (dUnhide T107).now.rd
    go_wp2_with fail
    refine (dUnhide CI _ _ (dUnhide T107).now.rd).mono ?_
    rintro e w112 ⟨uh, rfl, OH, b113⟩
    clear T107
    have sz114 := dHide b113.size
    replace X0 := dHide ((dUnhide X0).below b113)
    replace OW := dHide ((dUnhide OW).below b113)
    replace X11 := dHide ((dUnhide X11).below b113)
    replace X40 := dHide ((dUnhide X40).below b113)
    replace M96 := dHide ((dUnhide M96).below b113)
    replace B := belowThen B b113
    replace OH := dHide OH
    clear b113
    obtain ⟨uhka, uhkc, uhla, uhlc, rfl, uhl1, uhl2⟩ := formStore (dUnhide OH).now.rd
    have X115 := Sits.box w112 #[.slice uhka R.kept.length uhkc, .slice uhla R.late.length uhlc, .int .i64 R.lock] 26
    have ba := ha w112 (.cells #[.slice uhka R.kept.length uhkc, .slice uhla R.late.length uhlc, .int .i64 R.lock] 26)
    have sz117 := dHide ba.size
    replace X0 := dHide ((dUnhide X0).below ba)
    replace OW := dHide ((dUnhide OW).below ba)
    replace X11 := dHide ((dUnhide X11).below ba)
    replace X40 := dHide ((dUnhide X40).below ba)
    replace M96 := dHide ((dUnhide M96).below ba)
    replace OH := dHide ((dUnhide OH).below ba)
    replace B := belowThen B ba
    have sz118 : Hid (w112.heap.size + 1 = (w112.alloc (.cells #[.slice uhka R.kept.length uhkc, .slice uhla R.late.length uhlc, .int .i64 R.lock] 26)).heap.size) := by simp [Hid]
    replace X115 := dHide X115
    clear ba
    have k119 := (dUnhide X115).now 0 _ rfl
    have k120 := (dUnhide X115).now 1 _ rfl
    have k121 := (dUnhide X115).now 2 _ rfl
    have k122 := (dUnhide X11).now 0 _ rfl
    have k123 := (dUnhide X11).now 1 _ rfl
    have k124 := (dUnhide X11).now 2 _ rfl
    go_wp2_with fail
    generalize hbx116 : w112.heap.size = bx116 at *
    generalize w112.alloc (.cells #[.slice uhka R.kept.length uhkc, .slice uhla R.late.length uhlc, .int .i64 R.lock] 26) = w125 at *
    have sz126 := dHide hbx116
    clear hbx116
    refine (eqStore_ _ _ _ _ (dUnhide OH).now.rd (dUnhide OW).now.rd).mono ?_
    rintro e w127 ⟨rfl, b128⟩
    clear k119 k120 k121 k122 k123 k124
    have sz129 := dHide b128.size
    replace X0 := dHide ((dUnhide X0).below b128)
    replace OW := dHide ((dUnhide OW).below b128)
    replace X11 := dHide ((dUnhide X11).below b128)
    replace X40 := dHide ((dUnhide X40).below b128)
    replace M96 := dHide ((dUnhide M96).below b128)
    replace OH := dHide ((dUnhide OH).below b128)
    replace X115 := dHide ((dUnhide X115).below b128)
    replace B := belowThen B b128
    clear b128
    have k130 := (dUnhide X40).now 0 _ rfl
    have k131 := (dUnhide X40).now 1 _ rfl
    have k132 := (dUnhide X40).now 2 _ rfl
    go_wp2_with fail
    refine (heldStore_ _ R 1 _ (by omega) (by omega) (dUnhide M96).now.rd).mono ?_
    rintro e w133 ⟨rfl, b134⟩
    clear k130 k131 k132
    have sz135 := dHide b134.size
    replace X0 := dHide ((dUnhide X0).below b134)
    replace OW := dHide ((dUnhide OW).below b134)
    replace X11 := dHide ((dUnhide X11).below b134)
    replace X40 := dHide ((dUnhide X40).below b134)
    replace M96 := dHide ((dUnhide M96).below b134)
    replace OH := dHide ((dUnhide OH).below b134)
    replace X115 := dHide ((dUnhide X115).below b134)
    replace B := belowThen B b134
    clear b134
    clear X0 OW X11 X40 M96 OH X115
    go_wp2
    go_ret
    exact ⟨rfl, B⟩
end Go.Proofs.Ytenpnnocdjakdaa
