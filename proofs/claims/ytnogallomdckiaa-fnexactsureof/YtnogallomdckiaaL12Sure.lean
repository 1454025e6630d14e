/- FnExactSureOf: both answers, and the law's walk (printed by tools/mkl12.py). -/
import Derived.Test.YtnogallomdckiaaSoA
import Derived.Test.YtnogallomdckiaaWoB
import Derived.Test.YtnogallomdckiaaWoC
import Derived.Test.YtnogallomdckiaaWoD
import Derived.Test.YtnogallomdckiaaOpenY
import Derived.Deep.RegionHeld3
import Derived.Deep.DeepCutAuto
namespace Go.Proofs.Ytnogallomdckiaa
open Go.ChangeShapes Go.WideShapes Go.ChangeAt Go.RowKit
set_option linter.unusedVariables false
theorem bothFnExactSureOf (m0 : Wo) (m1 : Int) (ok0 : okWorld m0) (ok1 : okInt m1) (hs0 : sizWorld m0 ≤ 1048576) : ∃ (s0 : Int), (∀ W v0, RdWorld v0 m0 W → Calls Try.prog 15 #[v0, .int .i64 m1] W fun e w' => e = .returned (.int .i64 s0) ∧ Below W.heap.size W w') ∧ (∀ W v0, RdWorld v0 m0 W → Calls Try.prog 17 #[v0, .int .i64 m1] W fun e w' => e = .returned (.int .i64 s0) ∧ Below W.heap.size W w') := bothSureOf_ m0 m1 ok0 ok1 hs0
set_option maxHeartbeats 4000000 in
set_option maxRecDepth 100000 in
theorem walkFnExactSureOf (v0 v1 : Value) (m0 : Wo) (m1 : Int) (w : World) (i0 : IsWorld v0 m0 w) (i1 : IsInt v1 m1 w) :
    Calls Try.prog 4 #[v0, v1] w fun r w' => r = .returned (.bool true) ∧ Below w.heap.size w w' := by
  obtain ⟨rfl, ok1⟩ := i1
  obtain ⟨r0, ok0⟩ := i0
  have ha : ∀ (w : World) o, Below w.heap.size w (w.alloc o) := fun w o => (Below.refl _ _).alloc (Nat.le_refl _) o
  have A0 := dHide fun W (hb : Below w.heap.size w W) => r0.below hb
  obtain ⟨v0da, v0dc, v0sa, v0sc, v0la, v0lc, v0ea, v0ec, v0wa, v0wc, v0na, v0nc, v0ra, v0rc, v0ta, v0tc, rfl, v0l0, v0l1, v0l2, v0l3, v0l4, v0l5, v0l6, v0l7⟩ := formWorld r0
  by_cases z0 : (1048576 : Int) < (sizWorld m0 : Int)
  · have CS0 := dHide fun W (hb : Below w.heap.size w W) => szWorld_ _ m0 (1048576 : Int) (by omega) (by omega) (txtWo_of ok0) W (dUnhide A0 W hb)
    rw [lft_no z0] at CS0
    clear z0
    go_enter Try.func4, Try.ntmps4
    go_wp2_with fail
    have B := ha w (.cells #[.slice v0da m0.cfg.1.length v0dc, .int .i64 m0.cfg.2, .slice v0sa m0.stores.length v0sc, .slice v0la m0.lost.length v0lc, .slice v0ea m0.reg.eras.length v0ec, .int .i64 m0.reg.trim, .slice v0wa m0.writers.length v0wc, .slice v0na m0.mends.length v0nc, .slice v0ra m0.readers.length v0rc, .slice v0ta m0.sent.length v0tc, .bool m0.torn] 54)
    have X0 := dHide (Sits.box w #[.slice v0da m0.cfg.1.length v0dc, .int .i64 m0.cfg.2, .slice v0sa m0.stores.length v0sc, .slice v0la m0.lost.length v0lc, .slice v0ea m0.reg.eras.length v0ec, .int .i64 m0.reg.trim, .slice v0wa m0.writers.length v0wc, .slice v0na m0.mends.length v0nc, .slice v0ra m0.readers.length v0rc, .slice v0ta m0.sent.length v0tc, .bool m0.torn] 54)
    have sz0 : Hid (w.heap.size + 1 = (w.alloc (.cells #[.slice v0da m0.cfg.1.length v0dc, .int .i64 m0.cfg.2, .slice v0sa m0.stores.length v0sc, .slice v0la m0.lost.length v0lc, .slice v0ea m0.reg.eras.length v0ec, .int .i64 m0.reg.trim, .slice v0wa m0.writers.length v0wc, .slice v0na m0.mends.length v0nc, .slice v0ra m0.readers.length v0rc, .slice v0ta m0.sent.length v0tc, .bool m0.torn] 54)).heap.size) := by simp [Hid]
    generalize w.alloc (.cells #[.slice v0da m0.cfg.1.length v0dc, .int .i64 m0.cfg.2, .slice v0sa m0.stores.length v0sc, .slice v0la m0.lost.length v0lc, .slice v0ea m0.reg.eras.length v0ec, .int .i64 m0.reg.trim, .slice v0wa m0.writers.length v0wc, .slice v0na m0.mends.length v0nc, .slice v0ra m0.readers.length v0rc, .slice v0ta m0.sent.length v0tc, .bool m0.torn] 54) = wb at *
    refine (dUnhide CS0 _ B).mono ?_
    rintro e ws0 ⟨rfl, bs⟩
    have sz1 := dHide bs.size
    replace X0 := dHide ((dUnhide X0).below bs)
    replace B := belowThen B bs
    clear bs CS0
    clear X0
    go_wp2
    go_ret
    exact ⟨rfl, B⟩
  have hs0 : sizWorld m0 ≤ 1048576 := by omega
  obtain ⟨s0, p1, p2⟩ := bothFnExactSureOf m0 m1 ok0 ok1 hs0
  have CP := dHide p1
  have CI := dHide p2
  have CS0 := dHide fun W (hb : Below w.heap.size w W) => szWorld_ _ m0 (1048576 : Int) (by omega) (by omega) (txtWo_of ok0) W (dUnhide A0 W hb)
  rw [lft_yes z0] at CS0
  have z0' : ¬ ((1048576 : Int) - (sizWorld m0 : Int) < 0) := by omega
  clear p1 p2 r0 ok0 ok1
  go_enter Try.func4, Try.ntmps4
  go_wp2_with fail
  have B := ha w (.cells #[.slice v0da m0.cfg.1.length v0dc, .int .i64 m0.cfg.2, .slice v0sa m0.stores.length v0sc, .slice v0la m0.lost.length v0lc, .slice v0ea m0.reg.eras.length v0ec, .int .i64 m0.reg.trim, .slice v0wa m0.writers.length v0wc, .slice v0na m0.mends.length v0nc, .slice v0ra m0.readers.length v0rc, .slice v0ta m0.sent.length v0tc, .bool m0.torn] 54)
  have X0 := dHide (Sits.box w #[.slice v0da m0.cfg.1.length v0dc, .int .i64 m0.cfg.2, .slice v0sa m0.stores.length v0sc, .slice v0la m0.lost.length v0lc, .slice v0ea m0.reg.eras.length v0ec, .int .i64 m0.reg.trim, .slice v0wa m0.writers.length v0wc, .slice v0na m0.mends.length v0nc, .slice v0ra m0.readers.length v0rc, .slice v0ta m0.sent.length v0tc, .bool m0.torn] 54)
  have sz0 : Hid (w.heap.size + 1 = (w.alloc (.cells #[.slice v0da m0.cfg.1.length v0dc, .int .i64 m0.cfg.2, .slice v0sa m0.stores.length v0sc, .slice v0la m0.lost.length v0lc, .slice v0ea m0.reg.eras.length v0ec, .int .i64 m0.reg.trim, .slice v0wa m0.writers.length v0wc, .slice v0na m0.mends.length v0nc, .slice v0ra m0.readers.length v0rc, .slice v0ta m0.sent.length v0tc, .bool m0.torn] 54)).heap.size) := by simp [Hid]
  generalize w.alloc (.cells #[.slice v0da m0.cfg.1.length v0dc, .int .i64 m0.cfg.2, .slice v0sa m0.stores.length v0sc, .slice v0la m0.lost.length v0lc, .slice v0ea m0.reg.eras.length v0ec, .int .i64 m0.reg.trim, .slice v0wa m0.writers.length v0wc, .slice v0na m0.mends.length v0nc, .slice v0ra m0.readers.length v0rc, .slice v0ta m0.sent.length v0tc, .bool m0.torn] 54) = wb at *
  refine (dUnhide CS0 _ B).mono ?_
  rintro e ws0 ⟨rfl, bs⟩
  have sz1 := dHide bs.size
  replace X0 := dHide ((dUnhide X0).below bs)
  replace B := belowThen B bs
  clear bs CS0
  have k2 := (dUnhide X0).now 0 _ rfl
  have k3 := (dUnhide X0).now 1 _ rfl
  have k4 := (dUnhide X0).now 2 _ rfl
  have k5 := (dUnhide X0).now 3 _ rfl
  have k6 := (dUnhide X0).now 4 _ rfl
  have k7 := (dUnhide X0).now 5 _ rfl
  have k8 := (dUnhide X0).now 6 _ rfl
  have k9 := (dUnhide X0).now 7 _ rfl
  have k10 := (dUnhide X0).now 8 _ rfl
  have k11 := (dUnhide X0).now 9 _ rfl
  have k12 := (dUnhide X0).now 10 _ rfl
  go_wp2_with fail
  refine (toWorld_ _ m0 _ hs0 (dUnhide A0 _ B)).mono ?_
  rintro e w15 ⟨u14, rfl, T13, b16⟩
  clear k2 k3 k4 k5 k6 k7 k8 k9 k10 k11 k12
  have sz17 := dHide b16.size
  replace X0 := dHide ((dUnhide X0).below b16)
  replace B := belowThen B b16
  replace T13 := dHide T13
  clear b16
  obtain ⟨u14da, u14dc, u14sa, u14sc, u14la, u14lc, u14ea, u14ec, u14wa, u14wc, u14na, u14nc, u14ra, u14rc, u14ta, u14tc, rfl, u14l0, u14l1, u14l2, u14l3, u14l4, u14l5, u14l6, u14l7⟩ := formWorld (dUnhide T13).now.rd
  go_wp2_with fail
  refine (dUnhide CP _ _ (dUnhide T13).now.rd).mono ?_
  rintro e w3 ⟨rfl, bw⟩
  clear T13
  have sz18 := dHide bw.size
  replace X0 := dHide ((dUnhide X0).below bw)
  replace B := belowThen B bw
  clear bw CP
  have k19 := (dUnhide X0).now 0 _ rfl
  have k20 := (dUnhide X0).now 1 _ rfl
  have k21 := (dUnhide X0).now 2 _ rfl
  have k22 := (dUnhide X0).now 3 _ rfl
  have k23 := (dUnhide X0).now 4 _ rfl
  have k24 := (dUnhide X0).now 5 _ rfl
  have k25 := (dUnhide X0).now 6 _ rfl
  have k26 := (dUnhide X0).now 7 _ rfl
  have k27 := (dUnhide X0).now 8 _ rfl
  have k28 := (dUnhide X0).now 9 _ rfl
  have k29 := (dUnhide X0).now 10 _ rfl
  go_wp2_with fail
  refine (toWorld_ _ m0 _ hs0 (dUnhide A0 _ B)).mono ?_
  rintro e w32 ⟨u31, rfl, T30, b33⟩
  clear k19 k20 k21 k22 k23 k24 k25 k26 k27 k28 k29
  have sz34 := dHide b33.size
  replace X0 := dHide ((dUnhide X0).below b33)
  replace B := belowThen B b33
  replace T30 := dHide T30
  clear b33
  obtain ⟨u31da, u31dc, u31sa, u31sc, u31la, u31lc, u31ea, u31ec, u31wa, u31wc, u31na, u31nc, u31ra, u31rc, u31ta, u31tc, rfl, u31l0, u31l1, u31l2, u31l3, u31l4, u31l5, u31l6, u31l7⟩ := formWorld (dUnhide T30).now.rd
  have X35 := Sits.box w32 #[.slice u31da m0.cfg.1.length u31dc, .int .i64 m0.cfg.2, .slice u31sa m0.stores.length u31sc, .slice u31la m0.lost.length u31lc, .slice u31ea m0.reg.eras.length u31ec, .int .i64 m0.reg.trim, .slice u31wa m0.writers.length u31wc, .slice u31na m0.mends.length u31nc, .slice u31ra m0.readers.length u31rc, .slice u31ta m0.sent.length u31tc, .bool m0.torn] 36
  have ba := ha w32 (.cells #[.slice u31da m0.cfg.1.length u31dc, .int .i64 m0.cfg.2, .slice u31sa m0.stores.length u31sc, .slice u31la m0.lost.length u31lc, .slice u31ea m0.reg.eras.length u31ec, .int .i64 m0.reg.trim, .slice u31wa m0.writers.length u31wc, .slice u31na m0.mends.length u31nc, .slice u31ra m0.readers.length u31rc, .slice u31ta m0.sent.length u31tc, .bool m0.torn] 36)
  have sz37 := dHide ba.size
  replace X0 := dHide ((dUnhide X0).below ba)
  replace T30 := dHide ((dUnhide T30).below ba)
  replace B := belowThen B ba
  have sz38 : Hid (w32.heap.size + 1 = (w32.alloc (.cells #[.slice u31da m0.cfg.1.length u31dc, .int .i64 m0.cfg.2, .slice u31sa m0.stores.length u31sc, .slice u31la m0.lost.length u31lc, .slice u31ea m0.reg.eras.length u31ec, .int .i64 m0.reg.trim, .slice u31wa m0.writers.length u31wc, .slice u31na m0.mends.length u31nc, .slice u31ra m0.readers.length u31rc, .slice u31ta m0.sent.length u31tc, .bool m0.torn] 36)).heap.size) := by simp [Hid]
  replace X35 := dHide X35
  clear ba
  go_wp2_with fail
  generalize hbx36 : w32.heap.size = bx36 at *
  generalize w32.alloc (.cells #[.slice u31da m0.cfg.1.length u31dc, .int .i64 m0.cfg.2, .slice u31sa m0.stores.length u31sc, .slice u31la m0.lost.length u31lc, .slice u31ea m0.reg.eras.length u31ec, .int .i64 m0.reg.trim, .slice u31wa m0.writers.length u31wc, .slice u31na m0.mends.length u31nc, .slice u31ra m0.readers.length u31rc, .slice u31ta m0.sent.length u31tc, .bool m0.torn] 36) = w39 at *
  have sz40 := dHide hbx36
  clear hbx36
  have k41 := (dUnhide X35).now 0 _ rfl
  have k42 := (dUnhide X35).now 1 _ rfl
  have k43 := (dUnhide X35).now 2 _ rfl
  have k44 := (dUnhide X35).now 3 _ rfl
  have k45 := (dUnhide X35).now 4 _ rfl
  have k46 := (dUnhide X35).now 5 _ rfl
  have k47 := (dUnhide X35).now 6 _ rfl
  have k48 := (dUnhide X35).now 7 _ rfl
  have k49 := (dUnhide X35).now 8 _ rfl
  have k50 := (dUnhide X35).now 9 _ rfl
  have k51 := (dUnhide X35).now 10 _ rfl
  refine (dUnhide CI _ _ (dUnhide T30).now.rd).mono ?_
  rintro e w52 ⟨rfl, b53⟩
  clear k41 k42 k43 k44 k45 k46 k47 k48 k49 k50 k51
  have sz54 := dHide b53.size
  replace X0 := dHide ((dUnhide X0).below b53)
  replace T30 := dHide ((dUnhide T30).below b53)
  replace X35 := dHide ((dUnhide X35).below b53)
  replace B := belowThen B b53
  clear b53
  have k55 := (dUnhide X35).now 0 _ rfl
  have k56 := (dUnhide X35).now 1 _ rfl
  have k57 := (dUnhide X35).now 2 _ rfl
  have k58 := (dUnhide X35).now 3 _ rfl
  have k59 := (dUnhide X35).now 4 _ rfl
  have k60 := (dUnhide X35).now 5 _ rfl
  have k61 := (dUnhide X35).now 6 _ rfl
  have k62 := (dUnhide X35).now 7 _ rfl
  have k63 := (dUnhide X35).now 8 _ rfl
  have k64 := (dUnhide X35).now 9 _ rfl
  have k65 := (dUnhide X35).now 10 _ rfl
  have k66 := (dUnhide X0).now 0 _ rfl
  have k67 := (dUnhide X0).now 1 _ rfl
  have k68 := (dUnhide X0).now 2 _ rfl
  have k69 := (dUnhide X0).now 3 _ rfl
  have k70 := (dUnhide X0).now 4 _ rfl
  have k71 := (dUnhide X0).now 5 _ rfl
  have k72 := (dUnhide X0).now 6 _ rfl
  have k73 := (dUnhide X0).now 7 _ rfl
  have k74 := (dUnhide X0).now 8 _ rfl
  have k75 := (dUnhide X0).now 9 _ rfl
  have k76 := (dUnhide X0).now 10 _ rfl
  have hbr := Below.refl w52.heap.size w52
  go_wp2_with fail
  go_cut [30] (fun sv wx => sv = .bool false ∧ Below w52.heap.size w52 wx)
  case first =>
    go_region_held3 (fun W => W.cell? ⟨bx36, 0, none⟩ = some (.slice u31da m0.cfg.1.length u31dc) ∧ W.cell? ⟨bx36, 1, none⟩ = some (.int .i64 m0.cfg.2) ∧ W.cell? ⟨bx36, 2, none⟩ = some (.slice u31sa m0.stores.length u31sc) ∧ W.cell? ⟨bx36, 3, none⟩ = some (.slice u31la m0.lost.length u31lc) ∧ W.cell? ⟨bx36, 4, none⟩ = some (.slice u31ea m0.reg.eras.length u31ec) ∧ W.cell? ⟨bx36, 5, none⟩ = some (.int .i64 m0.reg.trim) ∧ W.cell? ⟨bx36, 6, none⟩ = some (.slice u31wa m0.writers.length u31wc) ∧ W.cell? ⟨bx36, 7, none⟩ = some (.slice u31na m0.mends.length u31nc) ∧ W.cell? ⟨bx36, 8, none⟩ = some (.slice u31ra m0.readers.length u31rc) ∧ W.cell? ⟨bx36, 9, none⟩ = some (.slice u31ta m0.sent.length u31tc) ∧ W.cell? ⟨bx36, 10, none⟩ = some (.bool m0.torn) ∧ W.cell? ⟨w.heap.size, 0, none⟩ = some (.slice v0da m0.cfg.1.length v0dc) ∧ W.cell? ⟨w.heap.size, 1, none⟩ = some (.int .i64 m0.cfg.2) ∧ W.cell? ⟨w.heap.size, 2, none⟩ = some (.slice v0sa m0.stores.length v0sc) ∧ W.cell? ⟨w.heap.size, 3, none⟩ = some (.slice v0la m0.lost.length v0lc) ∧ W.cell? ⟨w.heap.size, 4, none⟩ = some (.slice v0ea m0.reg.eras.length v0ec) ∧ W.cell? ⟨w.heap.size, 5, none⟩ = some (.int .i64 m0.reg.trim) ∧ W.cell? ⟨w.heap.size, 6, none⟩ = some (.slice v0wa m0.writers.length v0wc) ∧ W.cell? ⟨w.heap.size, 7, none⟩ = some (.slice v0na m0.mends.length v0nc) ∧ W.cell? ⟨w.heap.size, 8, none⟩ = some (.slice v0ra m0.readers.length v0rc) ∧ W.cell? ⟨w.heap.size, 9, none⟩ = some (.slice v0ta m0.sent.length v0tc) ∧ W.cell? ⟨w.heap.size, 10, none⟩ = some (.bool m0.torn)) (go_keep)
      (first
        | (go_at_call 16; refine (toWorld_ _ m0 _ hs0 (dUnhide A0 _ (belowThen B hbr.drew))).mono ?_; rintro e w8 ⟨o8, rfl, q8, b8⟩; have hb8 := belowThen hbr.drew b8; have k77 := ((dUnhide X35).at hb8) 0 _ rfl; have k78 := ((dUnhide X35).at hb8) 1 _ rfl; have k79 := ((dUnhide X35).at hb8) 2 _ rfl; have k80 := ((dUnhide X35).at hb8) 3 _ rfl; have k81 := ((dUnhide X35).at hb8) 4 _ rfl; have k82 := ((dUnhide X35).at hb8) 5 _ rfl; have k83 := ((dUnhide X35).at hb8) 6 _ rfl; have k84 := ((dUnhide X35).at hb8) 7 _ rfl; have k85 := ((dUnhide X35).at hb8) 8 _ rfl; have k86 := ((dUnhide X35).at hb8) 9 _ rfl; have k87 := ((dUnhide X35).at hb8) 10 _ rfl; have k88 := ((dUnhide X0).at hb8) 0 _ rfl; have k89 := ((dUnhide X0).at hb8) 1 _ rfl; have k90 := ((dUnhide X0).at hb8) 2 _ rfl; have k91 := ((dUnhide X0).at hb8) 3 _ rfl; have k92 := ((dUnhide X0).at hb8) 4 _ rfl; have k93 := ((dUnhide X0).at hb8) 5 _ rfl; have k94 := ((dUnhide X0).at hb8) 6 _ rfl; have k95 := ((dUnhide X0).at hb8) 7 _ rfl; have k96 := ((dUnhide X0).at hb8) 8 _ rfl; have k97 := ((dUnhide X0).at hb8) 9 _ rfl; have k98 := ((dUnhide X0).at hb8) 10 _ rfl; have Q8 := dHide q8; obtain ⟨o8da, o8dc, o8sa, o8sc, o8la, o8lc, o8ea, o8ec, o8wa, o8wc, o8na, o8nc, o8ra, o8rc, o8ta, o8tc, rfl, o8l0, o8l1, o8l2, o8l3, o8l4, o8l5, o8l6, o8l7⟩ := formWorld q8.now.rd; clear q8)
        | (go_at_call 9; refine (eqWorld_ _ _ _ _ ((dUnhide T30).at hb8).rd (dUnhide Q8).now.rd).mono ?_; rintro e w9 ⟨rfl, b9⟩; have hb9 := belowThen hb8 b9; have k99 := ((dUnhide X35).at hb9) 0 _ rfl; have k100 := ((dUnhide X35).at hb9) 1 _ rfl; have k101 := ((dUnhide X35).at hb9) 2 _ rfl; have k102 := ((dUnhide X35).at hb9) 3 _ rfl; have k103 := ((dUnhide X35).at hb9) 4 _ rfl; have k104 := ((dUnhide X35).at hb9) 5 _ rfl; have k105 := ((dUnhide X35).at hb9) 6 _ rfl; have k106 := ((dUnhide X35).at hb9) 7 _ rfl; have k107 := ((dUnhide X35).at hb9) 8 _ rfl; have k108 := ((dUnhide X35).at hb9) 9 _ rfl; have k109 := ((dUnhide X35).at hb9) 10 _ rfl; have k110 := ((dUnhide X0).at hb9) 0 _ rfl; have k111 := ((dUnhide X0).at hb9) 1 _ rfl; have k112 := ((dUnhide X0).at hb9) 2 _ rfl; have k113 := ((dUnhide X0).at hb9) 3 _ rfl; have k114 := ((dUnhide X0).at hb9) 4 _ rfl; have k115 := ((dUnhide X0).at hb9) 5 _ rfl; have k116 := ((dUnhide X0).at hb9) 6 _ rfl; have k117 := ((dUnhide X0).at hb9) 7 _ rfl; have k118 := ((dUnhide X0).at hb9) 8 _ rfl; have k119 := ((dUnhide X0).at hb9) 9 _ rfl; have k120 := ((dUnhide X0).at hb9) 10 _ rfl))
    all_goals
      go_wp2_with fail
      go_meet
      case rel => exact ⟨rfl, hb9⟩
  case rest =>
    obtain ⟨rfl, bc⟩ := hcut
    clear hbr
    clear k55 k56 k57 k58 k59 k60 k61 k62 k63 k64 k65 k66 k67 k68 k69 k70 k71 k72 k73 k74 k75 k76
    have sz121 := dHide bc.size
    replace X0 := dHide ((dUnhide X0).below bc)
    replace T30 := dHide ((dUnhide T30).below bc)
    replace X35 := dHide ((dUnhide X35).below bc)
    replace B := belowThen B bc
    generalize wc = w122 at *
    clear bc
    clear X0 T30 X35
    go_wp2
    go_ret
    exact ⟨rfl, B⟩
end Go.Proofs.Ytnogallomdckiaa
