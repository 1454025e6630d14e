/- FnExactToldBy: both answers, and the law's walk (printed by tools/mkl12.py). -/
import Derived.Test.YtkiclbbialadlaaGreatLgE
import Derived.Test.YtkiclbbialadlaaGreatGk11
import Derived.Test.YtkiclbbialadlaaGreatGz18
import Derived.Test.YtkiclbbialadlaaGreatGz12
import Derived.Test.YtkiclbbialadlaaGreatWoD
import Derived.Test.YtkiclbbialadlaaGreatGk9
import Derived.Test.YtkiclbbialadlaaGreatOpenY
import Derived.Deep.RegionHeld3
import Derived.Deep.DeepCutAuto
namespace Go.Proofs.YtkiclbbialadlaaGreat
open Go.ChangeShapes Go.WideShapes Go.ChangeAt Go.RowKit
set_option linter.unusedVariables false
theorem bothFnExactToldBy (m0 : Wo) (m1 : Int) (ok0 : okWorld m0) (ok1 : okInt m1) (hs0 : sizWorld m0 ≤ 1048576) : ∃ (R : List Se), cntSentS R ≤ 8388608 ∧ (∀ W v0, RdWorld v0 m0 W → Calls Tryz.prog 17 #[v0, .int .i64 m1] W fun e w' => ∃ u, e = .returned u ∧ Sits (OwSentS W.heap.size w'.heap.size u R) W.heap.size w'.heap.size w' ∧ Below W.heap.size W w') ∧ (∀ W v0, RdWorld v0 m0 W → Calls Tryz.prog 18 #[v0, .int .i64 m1] W fun e w' => ∃ u, e = .returned u ∧ Sits (OwSentS W.heap.size w'.heap.size u R) W.heap.size w'.heap.size w' ∧ Below W.heap.size W w') := bothToldBy_ m0 m1 ok0 ok1 hs0
set_option maxHeartbeats 4000000 in
set_option maxRecDepth 100000 in
theorem walkFnExactToldBy (v0 v1 : Value) (m0 : Wo) (m1 : Int) (w : World) (i0 : IsWorld v0 m0 w) (i1 : IsInt v1 m1 w) :
  Calls Tryz.prog 5 #[v0, v1] w fun r w' => r = .returned (.bool true) ∧ Below w.heap.size w w' := by
 obtain ⟨rfl, ok1⟩ := i1
 obtain ⟨r0, ok0⟩ := i0
 have ha : ∀ (w : World) o, Below w.heap.size w (w.alloc o) := fun w o => (Below.refl _ _).alloc (Nat.le_refl _) o
 have A0 := dH fun W (hb : Below w.heap.size w W) => r0.below hb
 obtain ⟨v0da, v0dc, v0sa, v0sc, v0la, v0lc, v0ea, v0ec, v0wa, v0wc, v0na, v0nc, v0ra, v0rc, v0ta, v0tc, rfl, v0l0, v0l1, v0l2, v0l3, v0l4, v0l5, v0l6, v0l7⟩ := formWorld r0
 by_cases z0 : (1048576 : Int) < (sizWorld m0 : Int)
 ·have CS0 := dH fun W (hb : Below w.heap.size w W) => szWorld_ _ m0 (1048576 : Int) (by omega) (by omega) (txtWo_of ok0) W (dU A0 W hb)
  rw [lft_no z0] at CS0
  clear z0
  go_enter Tryz.func5, Tryz.ntmps5
  go_wp2_with fail
  have B := ha w (.cells #[.slice v0da m0.cfg.1.length v0dc, .int .i64 m0.cfg.2, .slice v0sa m0.stores.length v0sc, .slice v0la m0.lost.length v0lc, .slice v0ea m0.reg.eras.length v0ec, .int .i64 m0.reg.trim, .slice v0wa m0.writers.length v0wc, .slice v0na m0.mends.length v0nc, .slice v0ra m0.readers.length v0rc, .slice v0ta m0.sent.length v0tc, .bool m0.torn] 34)
  have X0 := dH (Sits.box w #[.slice v0da m0.cfg.1.length v0dc, .int .i64 m0.cfg.2, .slice v0sa m0.stores.length v0sc, .slice v0la m0.lost.length v0lc, .slice v0ea m0.reg.eras.length v0ec, .int .i64 m0.reg.trim, .slice v0wa m0.writers.length v0wc, .slice v0na m0.mends.length v0nc, .slice v0ra m0.readers.length v0rc, .slice v0ta m0.sent.length v0tc, .bool m0.torn] 34)
  have sz0 : Hid (w.heap.size + 1 = (w.alloc (.cells #[.slice v0da m0.cfg.1.length v0dc, .int .i64 m0.cfg.2, .slice v0sa m0.stores.length v0sc, .slice v0la m0.lost.length v0lc, .slice v0ea m0.reg.eras.length v0ec, .int .i64 m0.reg.trim, .slice v0wa m0.writers.length v0wc, .slice v0na m0.mends.length v0nc, .slice v0ra m0.readers.length v0rc, .slice v0ta m0.sent.length v0tc, .bool m0.torn] 34)).heap.size) := by simp [Hid]
  generalize w.alloc (.cells #[.slice v0da m0.cfg.1.length v0dc, .int .i64 m0.cfg.2, .slice v0sa m0.stores.length v0sc, .slice v0la m0.lost.length v0lc, .slice v0ea m0.reg.eras.length v0ec, .int .i64 m0.reg.trim, .slice v0wa m0.writers.length v0wc, .slice v0na m0.mends.length v0nc, .slice v0ra m0.readers.length v0rc, .slice v0ta m0.sent.length v0tc, .bool m0.torn] 34) = wb at *
  refine (dU CS0 _ B).mono ?_
  rintro e ws0 ⟨rfl, bs⟩
  have sz1 := dH bs.size
  replace X0 := dH ((dU X0).below bs)
  replace B := bT B bs
  clear bs CS0
  clear X0
  go_wp2
  go_ret
  exact ⟨rfl, B⟩
 have hs0 : sizWorld m0 ≤ 1048576 := by omega
 have hc0 := cntWorld_le hs0
 obtain ⟨R, hR, p1, p2⟩ := bothFnExactToldBy m0 m1 ok0 ok1 hs0
 have CP := dH p1
 have CI := dH p2
 have CS0 := dH fun W (hb : Below w.heap.size w W) => szWorld_ _ m0 (1048576 : Int) (by omega) (by omega) (txtWo_of ok0) W (dU A0 W hb)
 rw [lft_yes z0] at CS0
 have z0' : ¬ ((1048576 : Int) - (sizWorld m0 : Int) < 0) := by omega
 clear p1 p2 r0 ok0 ok1
 go_enter Tryz.func5, Tryz.ntmps5
 go_wp2_with fail
 have B := ha w (.cells #[.slice v0da m0.cfg.1.length v0dc, .int .i64 m0.cfg.2, .slice v0sa m0.stores.length v0sc, .slice v0la m0.lost.length v0lc, .slice v0ea m0.reg.eras.length v0ec, .int .i64 m0.reg.trim, .slice v0wa m0.writers.length v0wc, .slice v0na m0.mends.length v0nc, .slice v0ra m0.readers.length v0rc, .slice v0ta m0.sent.length v0tc, .bool m0.torn] 34)
 have X0 := dH (Sits.box w #[.slice v0da m0.cfg.1.length v0dc, .int .i64 m0.cfg.2, .slice v0sa m0.stores.length v0sc, .slice v0la m0.lost.length v0lc, .slice v0ea m0.reg.eras.length v0ec, .int .i64 m0.reg.trim, .slice v0wa m0.writers.length v0wc, .slice v0na m0.mends.length v0nc, .slice v0ra m0.readers.length v0rc, .slice v0ta m0.sent.length v0tc, .bool m0.torn] 34)
 have sz0 : Hid (w.heap.size + 1 = (w.alloc (.cells #[.slice v0da m0.cfg.1.length v0dc, .int .i64 m0.cfg.2, .slice v0sa m0.stores.length v0sc, .slice v0la m0.lost.length v0lc, .slice v0ea m0.reg.eras.length v0ec, .int .i64 m0.reg.trim, .slice v0wa m0.writers.length v0wc, .slice v0na m0.mends.length v0nc, .slice v0ra m0.readers.length v0rc, .slice v0ta m0.sent.length v0tc, .bool m0.torn] 34)).heap.size) := by simp [Hid]
 generalize w.alloc (.cells #[.slice v0da m0.cfg.1.length v0dc, .int .i64 m0.cfg.2, .slice v0sa m0.stores.length v0sc, .slice v0la m0.lost.length v0lc, .slice v0ea m0.reg.eras.length v0ec, .int .i64 m0.reg.trim, .slice v0wa m0.writers.length v0wc, .slice v0na m0.mends.length v0nc, .slice v0ra m0.readers.length v0rc, .slice v0ta m0.sent.length v0tc, .bool m0.torn] 34) = wb at *
 refine (dU CS0 _ B).mono ?_
 rintro e ws0 ⟨rfl, bs⟩
 have sz1 := dH bs.size
 replace X0 := dH ((dU X0).below bs)
 replace B := bT B bs
 clear bs CS0
 have k2 := (dU X0).now 0 _ rfl
 have k3 := (dU X0).now 1 _ rfl
 have k4 := (dU X0).now 2 _ rfl
 have k5 := (dU X0).now 3 _ rfl
 have k6 := (dU X0).now 4 _ rfl
 have k7 := (dU X0).now 5 _ rfl
 have k8 := (dU X0).now 6 _ rfl
 have k9 := (dU X0).now 7 _ rfl
 have k10 := (dU X0).now 8 _ rfl
 have k11 := (dU X0).now 9 _ rfl
 have k12 := (dU X0).now 10 _ rfl
 go_wp2_with fail
 refine (toWorld_ _ m0 _ hs0 (dU A0 _ B)).mono ?_
 rintro e w15 ⟨u14, rfl, T13, b16⟩
 clear k2 k3 k4 k5 k6 k7 k8 k9 k10 k11 k12
 have sz17 := dH b16.size
 replace X0 := dH ((dU X0).below b16)
 replace B := bT B b16
 replace T13 := dH T13
 clear b16
 obtain ⟨u14da, u14dc, u14sa, u14sc, u14la, u14lc, u14ea, u14ec, u14wa, u14wc, u14na, u14nc, u14ra, u14rc, u14ta, u14tc, rfl, u14l0, u14l1, u14l2, u14l3, u14l4, u14l5, u14l6, u14l7⟩ := formWorld (dU T13).now.rd
 go_wp2_with fail
 refine (dU CP _ _ (dU T13).now.rd).mono ?_
 rintro e w3 ⟨uw, rfl, OW, bw⟩
 clear T13
 have sz18 := dH bw.size
 replace X0 := dH ((dU X0).below bw)
 replace B := bT B bw
 replace OW := dH OW
 clear bw CP
 obtain ⟨uwa, uwc, rfl, uwl⟩ := formSentS (dU OW).now.rd
 have k19 := (dU X0).now 0 _ rfl
 have k20 := (dU X0).now 1 _ rfl
 have k21 := (dU X0).now 2 _ rfl
 have k22 := (dU X0).now 3 _ rfl
 have k23 := (dU X0).now 4 _ rfl
 have k24 := (dU X0).now 5 _ rfl
 have k25 := (dU X0).now 6 _ rfl
 have k26 := (dU X0).now 7 _ rfl
 have k27 := (dU X0).now 8 _ rfl
 have k28 := (dU X0).now 9 _ rfl
 have k29 := (dU X0).now 10 _ rfl
 go_wp2_with fail
 refine (toWorld_ _ m0 _ hs0 (dU A0 _ B)).mono ?_
 rintro e w32 ⟨u31, rfl, T30, b33⟩
 clear k19 k20 k21 k22 k23 k24 k25 k26 k27 k28 k29
 have sz34 := dH b33.size
 replace X0 := dH ((dU X0).below b33)
 replace OW := dH ((dU OW).below b33)
 replace B := bT B b33
 replace T30 := dH T30
 clear b33
 obtain ⟨u31da, u31dc, u31sa, u31sc, u31la, u31lc, u31ea, u31ec, u31wa, u31wc, u31na, u31nc, u31ra, u31rc, u31ta, u31tc, rfl, u31l0, u31l1, u31l2, u31l3, u31l4, u31l5, u31l6, u31l7⟩ := formWorld (dU T30).now.rd
 have X35 := Sits.box w32 #[.slice u31da m0.cfg.1.length u31dc, .int .i64 m0.cfg.2, .slice u31sa m0.stores.length u31sc, .slice u31la m0.lost.length u31lc, .slice u31ea m0.reg.eras.length u31ec, .int .i64 m0.reg.trim, .slice u31wa m0.writers.length u31wc, .slice u31na m0.mends.length u31nc, .slice u31ra m0.readers.length u31rc, .slice u31ta m0.sent.length u31tc, .bool m0.torn] 47
 have ba := ha w32 (.cells #[.slice u31da m0.cfg.1.length u31dc, .int .i64 m0.cfg.2, .slice u31sa m0.stores.length u31sc, .slice u31la m0.lost.length u31lc, .slice u31ea m0.reg.eras.length u31ec, .int .i64 m0.reg.trim, .slice u31wa m0.writers.length u31wc, .slice u31na m0.mends.length u31nc, .slice u31ra m0.readers.length u31rc, .slice u31ta m0.sent.length u31tc, .bool m0.torn] 47)
 have sz37 := dH ba.size
 replace X0 := dH ((dU X0).below ba)
 replace OW := dH ((dU OW).below ba)
 replace T30 := dH ((dU T30).below ba)
 replace B := bT B ba
 have sz38 : Hid (w32.heap.size + 1 = (w32.alloc (.cells #[.slice u31da m0.cfg.1.length u31dc, .int .i64 m0.cfg.2, .slice u31sa m0.stores.length u31sc, .slice u31la m0.lost.length u31lc, .slice u31ea m0.reg.eras.length u31ec, .int .i64 m0.reg.trim, .slice u31wa m0.writers.length u31wc, .slice u31na m0.mends.length u31nc, .slice u31ra m0.readers.length u31rc, .slice u31ta m0.sent.length u31tc, .bool m0.torn] 47)).heap.size) := by simp [Hid]
 replace X35 := dH X35
 clear ba
 go_wp2_with fail
 generalize hbx36 : w32.heap.size = bx36 at *
 generalize w32.alloc (.cells #[.slice u31da m0.cfg.1.length u31dc, .int .i64 m0.cfg.2, .slice u31sa m0.stores.length u31sc, .slice u31la m0.lost.length u31lc, .slice u31ea m0.reg.eras.length u31ec, .int .i64 m0.reg.trim, .slice u31wa m0.writers.length u31wc, .slice u31na m0.mends.length u31nc, .slice u31ra m0.readers.length u31rc, .slice u31ta m0.sent.length u31tc, .bool m0.torn] 47) = w39 at *
 have sz40 := dH hbx36
 clear hbx36
 have k41 := (dU X35).now 0 _ rfl
 have k42 := (dU X35).now 1 _ rfl
 have k43 := (dU X35).now 2 _ rfl
 have k44 := (dU X35).now 3 _ rfl
 have k45 := (dU X35).now 4 _ rfl
 have k46 := (dU X35).now 5 _ rfl
 have k47 := (dU X35).now 6 _ rfl
 have k48 := (dU X35).now 7 _ rfl
 have k49 := (dU X35).now 8 _ rfl
 have k50 := (dU X35).now 9 _ rfl
 have k51 := (dU X35).now 10 _ rfl
 refine (dU CI _ _ (dU T30).now.rd).mono ?_
 rintro e w52 ⟨ug, rfl, OG, b53⟩
 clear k41 k42 k43 k44 k45 k46 k47 k48 k49 k50 k51
 have sz54 := dH b53.size
 replace X0 := dH ((dU X0).below b53)
 replace OW := dH ((dU OW).below b53)
 replace T30 := dH ((dU T30).below b53)
 replace X35 := dH ((dU X35).below b53)
 replace B := bT B b53
 replace OG := dH OG
 clear b53
 obtain ⟨uga, ugc, rfl, ugl⟩ := formSentS (dU OG).now.rd
 go_wp2_with fail
 refine (eqSentS_ _ _ _ _ (dU OG).now.rd (dU OW).now.rd).mono ?_
 rintro e w55 ⟨rfl, b56⟩
 have sz57 := dH b56.size
 replace X0 := dH ((dU X0).below b56)
 replace OW := dH ((dU OW).below b56)
 replace T30 := dH ((dU T30).below b56)
 replace X35 := dH ((dU X35).below b56)
 replace OG := dH ((dU OG).below b56)
 replace B := bT B b56
 clear b56
 have k58 := (dU X35).now 0 _ rfl
 have k59 := (dU X35).now 1 _ rfl
 have k60 := (dU X35).now 2 _ rfl
 have k61 := (dU X35).now 3 _ rfl
 have k62 := (dU X35).now 4 _ rfl
 have k63 := (dU X35).now 5 _ rfl
 have k64 := (dU X35).now 6 _ rfl
 have k65 := (dU X35).now 7 _ rfl
 have k66 := (dU X35).now 8 _ rfl
 have k67 := (dU X35).now 9 _ rfl
 have k68 := (dU X35).now 10 _ rfl
 have k69 := (dU X0).now 0 _ rfl
 have k70 := (dU X0).now 1 _ rfl
 have k71 := (dU X0).now 2 _ rfl
 have k72 := (dU X0).now 3 _ rfl
 have k73 := (dU X0).now 4 _ rfl
 have k74 := (dU X0).now 5 _ rfl
 have k75 := (dU X0).now 6 _ rfl
 have k76 := (dU X0).now 7 _ rfl
 have k77 := (dU X0).now 8 _ rfl
 have k78 := (dU X0).now 9 _ rfl
 have k79 := (dU X0).now 10 _ rfl
 have hbr := Below.refl w55.heap.size w55
 go_wp2_with fail
 go_cut [35] (fun sv wx => sv = .bool false ∧ Below w55.heap.size w55 wx)
 case first =>
  go_region_held3 (fun W => W.cell? ⟨bx36, 0, none⟩ = some (.slice u31da m0.cfg.1.length u31dc) ∧ W.cell? ⟨bx36, 1, none⟩ = some (.int .i64 m0.cfg.2) ∧ W.cell? ⟨bx36, 2, none⟩ = some (.slice u31sa m0.stores.length u31sc) ∧ W.cell? ⟨bx36, 3, none⟩ = some (.slice u31la m0.lost.length u31lc) ∧ W.cell? ⟨bx36, 4, none⟩ = some (.slice u31ea m0.reg.eras.length u31ec) ∧ W.cell? ⟨bx36, 5, none⟩ = some (.int .i64 m0.reg.trim) ∧ W.cell? ⟨bx36, 6, none⟩ = some (.slice u31wa m0.writers.length u31wc) ∧ W.cell? ⟨bx36, 7, none⟩ = some (.slice u31na m0.mends.length u31nc) ∧ W.cell? ⟨bx36, 8, none⟩ = some (.slice u31ra m0.readers.length u31rc) ∧ W.cell? ⟨bx36, 9, none⟩ = some (.slice u31ta m0.sent.length u31tc) ∧ W.cell? ⟨bx36, 10, none⟩ = some (.bool m0.torn) ∧ W.cell? ⟨w.heap.size, 0, none⟩ = some (.slice v0da m0.cfg.1.length v0dc) ∧ W.cell? ⟨w.heap.size, 1, none⟩ = some (.int .i64 m0.cfg.2) ∧ W.cell? ⟨w.heap.size, 2, none⟩ = some (.slice v0sa m0.stores.length v0sc) ∧ W.cell? ⟨w.heap.size, 3, none⟩ = some (.slice v0la m0.lost.length v0lc) ∧ W.cell? ⟨w.heap.size, 4, none⟩ = some (.slice v0ea m0.reg.eras.length v0ec) ∧ W.cell? ⟨w.heap.size, 5, none⟩ = some (.int .i64 m0.reg.trim) ∧ W.cell? ⟨w.heap.size, 6, none⟩ = some (.slice v0wa m0.writers.length v0wc) ∧ W.cell? ⟨w.heap.size, 7, none⟩ = some (.slice v0na m0.mends.length v0nc) ∧ W.cell? ⟨w.heap.size, 8, none⟩ = some (.slice v0ra m0.readers.length v0rc) ∧ W.cell? ⟨w.heap.size, 9, none⟩ = some (.slice v0ta m0.sent.length v0tc) ∧ W.cell? ⟨w.heap.size, 10, none⟩ = some (.bool m0.torn)) (go_keep)
   (first
    | (go_at_call 8; refine (toWorld_ _ m0 _ hs0 (dU A0 _ (bT B hbr.drew))).mono ?_; rintro e w8 ⟨o8, rfl, q8, b8⟩; have hb8 := bT hbr.drew b8; have k80 := ((dU X35).at hb8) 0 _ rfl; have k81 := ((dU X35).at hb8) 1 _ rfl; have k82 := ((dU X35).at hb8) 2 _ rfl; have k83 := ((dU X35).at hb8) 3 _ rfl; have k84 := ((dU X35).at hb8) 4 _ rfl; have k85 := ((dU X35).at hb8) 5 _ rfl; have k86 := ((dU X35).at hb8) 6 _ rfl; have k87 := ((dU X35).at hb8) 7 _ rfl; have k88 := ((dU X35).at hb8) 8 _ rfl; have k89 := ((dU X35).at hb8) 9 _ rfl; have k90 := ((dU X35).at hb8) 10 _ rfl; have k91 := ((dU X0).at hb8) 0 _ rfl; have k92 := ((dU X0).at hb8) 1 _ rfl; have k93 := ((dU X0).at hb8) 2 _ rfl; have k94 := ((dU X0).at hb8) 3 _ rfl; have k95 := ((dU X0).at hb8) 4 _ rfl; have k96 := ((dU X0).at hb8) 5 _ rfl; have k97 := ((dU X0).at hb8) 6 _ rfl; have k98 := ((dU X0).at hb8) 7 _ rfl; have k99 := ((dU X0).at hb8) 8 _ rfl; have k100 := ((dU X0).at hb8) 9 _ rfl; have k101 := ((dU X0).at hb8) 10 _ rfl; have Q8 := dH q8; obtain ⟨o8da, o8dc, o8sa, o8sc, o8la, o8lc, o8ea, o8ec, o8wa, o8wc, o8na, o8nc, o8ra, o8rc, o8ta, o8tc, rfl, o8l0, o8l1, o8l2, o8l3, o8l4, o8l5, o8l6, o8l7⟩ := formWorld q8.now.rd; clear q8)
    | (go_at_call 11; refine (eqWorld_ _ _ _ _ ((dU T30).at hb8).rd (dU Q8).now.rd).mono ?_; rintro e w9 ⟨rfl, b9⟩; have hb9 := bT hb8 b9; have k102 := ((dU X35).at hb9) 0 _ rfl; have k103 := ((dU X35).at hb9) 1 _ rfl; have k104 := ((dU X35).at hb9) 2 _ rfl; have k105 := ((dU X35).at hb9) 3 _ rfl; have k106 := ((dU X35).at hb9) 4 _ rfl; have k107 := ((dU X35).at hb9) 5 _ rfl; have k108 := ((dU X35).at hb9) 6 _ rfl; have k109 := ((dU X35).at hb9) 7 _ rfl; have k110 := ((dU X35).at hb9) 8 _ rfl; have k111 := ((dU X35).at hb9) 9 _ rfl; have k112 := ((dU X35).at hb9) 10 _ rfl; have k113 := ((dU X0).at hb9) 0 _ rfl; have k114 := ((dU X0).at hb9) 1 _ rfl; have k115 := ((dU X0).at hb9) 2 _ rfl; have k116 := ((dU X0).at hb9) 3 _ rfl; have k117 := ((dU X0).at hb9) 4 _ rfl; have k118 := ((dU X0).at hb9) 5 _ rfl; have k119 := ((dU X0).at hb9) 6 _ rfl; have k120 := ((dU X0).at hb9) 7 _ rfl; have k121 := ((dU X0).at hb9) 8 _ rfl; have k122 := ((dU X0).at hb9) 9 _ rfl; have k123 := ((dU X0).at hb9) 10 _ rfl))
  all_goals
   go_wp2_with fail
   go_meet
   case rel => exact ⟨rfl, hb9⟩
 case rest =>
  obtain ⟨rfl, bc⟩ := hcut
  clear hbr
  clear k58 k59 k60 k61 k62 k63 k64 k65 k66 k67 k68 k69 k70 k71 k72 k73 k74 k75 k76 k77 k78 k79
  have sz124 := dH bc.size
  replace X0 := dH ((dU X0).below bc)
  replace OW := dH ((dU OW).below bc)
  replace T30 := dH ((dU T30).below bc)
  replace X35 := dH ((dU X35).below bc)
  replace OG := dH ((dU OG).below bc)
  replace B := bT B bc
  generalize wc = w125 at *
  clear bc
  have k126 := (dU X35).now 0 _ rfl
  have k127 := (dU X35).now 1 _ rfl
  have k128 := (dU X35).now 2 _ rfl
  have k129 := (dU X35).now 3 _ rfl
  have k130 := (dU X35).now 4 _ rfl
  have k131 := (dU X35).now 5 _ rfl
  have k132 := (dU X35).now 6 _ rfl
  have k133 := (dU X35).now 7 _ rfl
  have k134 := (dU X35).now 8 _ rfl
  have k135 := (dU X35).now 9 _ rfl
  have k136 := (dU X35).now 10 _ rfl
  go_wp2_with fail
  refine (markWorld_ _ _ _ _ 1 _ (by omega) (by omega) (dU T30)).mono ?_
  rintro e w137 ⟨rfl, M139, b138⟩
  clear k126 k127 k128 k129 k130 k131 k132 k133 k134 k135 k136
  replace X0 := dH ((dU X0).wr b138 (by have := dU sz0; have := dU sz1; have := dU sz17; have := dU sz18; have := dU sz34; have := dU sz37; have := dU sz38; have := dU sz40; have := dU sz54; have := dU sz57; have := dU sz124; omega))
  replace OW := dH ((dU OW).wr b138 (by have := dU sz0; have := dU sz1; have := dU sz17; have := dU sz18; have := dU sz34; have := dU sz37; have := dU sz38; have := dU sz40; have := dU sz54; have := dU sz57; have := dU sz124; omega))
  replace X35 := dH ((dU X35).wr b138 (by have := dU sz0; have := dU sz1; have := dU sz17; have := dU sz18; have := dU sz34; have := dU sz37; have := dU sz38; have := dU sz40; have := dU sz54; have := dU sz57; have := dU sz124; omega))
  replace OG := dH ((dU OG).wr b138 (by have := dU sz0; have := dU sz1; have := dU sz17; have := dU sz18; have := dU sz34; have := dU sz37; have := dU sz38; have := dU sz40; have := dU sz54; have := dU sz57; have := dU sz124; omega))
  replace B := b138.below B B.size (by have := dU sz0; have := dU sz1; have := dU sz17; have := dU sz18; have := dU sz34; have := dU sz37; have := dU sz38; have := dU sz40; have := dU sz54; have := dU sz57; have := dU sz124; omega)
  have sz140 := dH b138.size
  replace M139 := dH M139
  clear b138 T30
  clear M139 X35
  have hk : ¬ (((1 + cntWorld m0 : Nat) : Int) < 0) := by omega
  go_wp2_with fail
  refine (eqSentS_ _ _ _ _ (dU OG).now.rd (dU OW).now.rd).mono ?_
  rintro e w141 ⟨rfl, b142⟩
  have sz143 := dH b142.size
  replace X0 := dH ((dU X0).below b142)
  replace OW := dH ((dU OW).below b142)
  replace OG := dH ((dU OG).below b142)
  replace B := bT B b142
  clear b142
  go_wp2_with fail
  refine (markSentS_ _ _ _ _ 1 _ (by omega) (by omega) (dU OG)).mono ?_
  rintro e w144 ⟨rfl, M146, b145⟩
  replace X0 := dH ((dU X0).wr b145 (by have := dU sz0; have := dU sz1; have := dU sz17; have := dU sz18; have := dU sz34; have := dU sz37; have := dU sz38; have := dU sz40; have := dU sz54; have := dU sz57; have := dU sz124; have := dU sz140; have := dU sz143; omega))
  replace OW := dH ((dU OW).wr b145 (by have := dU sz0; have := dU sz1; have := dU sz17; have := dU sz18; have := dU sz34; have := dU sz37; have := dU sz38; have := dU sz40; have := dU sz54; have := dU sz57; have := dU sz124; have := dU sz140; have := dU sz143; omega))
  replace B := b145.below B B.size (by have := dU sz0; have := dU sz1; have := dU sz17; have := dU sz18; have := dU sz34; have := dU sz37; have := dU sz38; have := dU sz40; have := dU sz54; have := dU sz57; have := dU sz124; have := dU sz140; have := dU sz143; omega)
  have sz147 := dH b145.size
  replace M146 := dH M146
  clear b145 OG
  go_wp2_with fail
  refine (heldSentS_ _ R 1 _ (by omega) (by omega) (dU M146).now.rd).mono ?_
  rintro e w148 ⟨rfl, b149⟩
  have sz150 := dH b149.size
  replace X0 := dH ((dU X0).below b149)
  replace OW := dH ((dU OW).below b149)
  replace M146 := dH ((dU M146).below b149)
  replace B := bT B b149
  clear b149
  have hq : ¬ (((1 + cntSentS R : Nat) : Int) < 0) := by omega
  have k151 := (dU X0).now 0 _ rfl
  have k152 := (dU X0).now 1 _ rfl
  have k153 := (dU X0).now 2 _ rfl
  have k154 := (dU X0).now 3 _ rfl
  have k155 := (dU X0).now 4 _ rfl
  have k156 := (dU X0).now 5 _ rfl
  have k157 := (dU X0).now 6 _ rfl
  have k158 := (dU X0).now 7 _ rfl
  have k159 := (dU X0).now 8 _ rfl
  have k160 := (dU X0).now 9 _ rfl
  have k161 := (dU X0).now 10 _ rfl
  go_wp2_with fail
  refine (toWorld_ _ m0 _ hs0 (dU A0 _ B)).mono ?_
  rintro e w164 ⟨u163, rfl, T162, b165⟩
  clear k151 k152 k153 k154 k155 k156 k157 k158 k159 k160 k161
  have sz166 := dH b165.size
  replace X0 := dH ((dU X0).below b165)
  replace OW := dH ((dU OW).below b165)
  replace M146 := dH ((dU M146).below b165)
  replace B := bT B b165
  replace T162 := dH T162
  clear b165
  obtain ⟨u163da, u163dc, u163sa, u163sc, u163la, u163lc, u163ea, u163ec, u163wa, u163wc, u163na, u163nc, u163ra, u163rc, u163ta, u163tc, rfl, u163l0, u163l1, u163l2, u163l3, u163l4, u163l5, u163l6, u163l7⟩ := formWorld (dU T162).now.rd
  go_wp2_with fail
  refine (dU CI _ _ (dU T162).now.rd).mono ?_
  rintro e w167 ⟨uh, rfl, OH, b168⟩
  clear T162
  have sz169 := dH b168.size
  replace X0 := dH ((dU X0).below b168)
  replace OW := dH ((dU OW).below b168)
  replace M146 := dH ((dU M146).below b168)
  replace B := bT B b168
  replace OH := dH OH
  clear b168
  obtain ⟨uha, uhc, rfl, uhl⟩ := formSentS (dU OH).now.rd
  go_wp2_with fail
  refine (eqSentS_ _ _ _ _ (dU OH).now.rd (dU OW).now.rd).mono ?_
  rintro e w170 ⟨rfl, b171⟩
  have sz172 := dH b171.size
  replace X0 := dH ((dU X0).below b171)
  replace OW := dH ((dU OW).below b171)
  replace M146 := dH ((dU M146).below b171)
  replace OH := dH ((dU OH).below b171)
  replace B := bT B b171
  clear b171
  go_wp2_with fail
  refine (heldSentS_ _ R 1 _ (by omega) (by omega) (dU M146).now.rd).mono ?_
  rintro e w173 ⟨rfl, b174⟩
  have sz175 := dH b174.size
  replace X0 := dH ((dU X0).below b174)
  replace OW := dH ((dU OW).below b174)
  replace M146 := dH ((dU M146).below b174)
  replace OH := dH ((dU OH).below b174)
  replace B := bT B b174
  clear b174
  clear X0 OW M146 OH
  go_wp2
  go_ret
  exact ⟨rfl, B⟩
end Go.Proofs.YtkiclbbialadlaaGreat
