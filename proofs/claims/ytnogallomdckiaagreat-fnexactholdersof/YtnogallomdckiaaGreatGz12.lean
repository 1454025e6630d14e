/- Several texts in one: WoA, WoC. -/
import Derived.Test.YtnogallomdckiaaGreatUsB
import Derived.Test.YtnogallomdckiaaGreatSitS
import Derived.Test.YtnogallomdckiaaGreatWsR
import Derived.Test.YtnogallomdckiaaGreatMsR
import Derived.Test.YtnogallomdckiaaGreatRsR
import Derived.Test.YtnogallomdckiaaGreatGz19
import Derived.Deep.DeepCutAuto
namespace Go.Proofs.YtnogallomdckiaaGreat
open Go.ChangeShapes Go.WideShapes Go.ChangeAt Go.RowKit
set_option linter.unusedSimpArgs false
set_option linter.unusedVariables false
set_option maxRecDepth 100000
structure Wo where
 cfg : List Int × Int
 stores : List St
 lost : List Int
 reg : Rg
 writers : List Wt
 mends : List Mn
 readers : List Rr
 sent : List Se
 torn : Bool
def RdWorld (v : Value) (m : Wo) (W : World) : Prop := ∃ dv sv lv ev wv nv rv tv, v = .agg #[dv, .int .i64 m.cfg.2, sv, lv, ev, .int .i64 m.reg.trim, wv, nv, rv, tv, .bool m.torn] ∧ Ns W dv m.cfg.1 ∧ RdStoreS sv m.stores W ∧ Ns W lv m.lost ∧ RdEraS ev m.reg.eras W ∧ RdWriterS wv m.writers W ∧ RdMendS nv m.mends W ∧ RdReaderS rv m.readers W ∧ RdSentS tv m.sent W
def Spd (n : Nat) (l h : Nat → Nat) (lo hi : Nat) : Prop := (∀ i, i < n → lo ≤ l i ∧ h i ≤ hi) ∧ ∀ i j, i < n → j < n → i ≠ j → h i ≤ l j ∨ h j ≤ l i
theorem Spd.chain {n : Nat} {l h : Nat → Nat} {lo hi : Nat} (h0 : lo ≤ l 0) (h1 : ∀ i, i < n + 1 → l i ≤ h i) (h2 : ∀ i, i < n → h i ≤ l (i + 1)) (h3 : h n ≤ hi) : Spd (n + 1) l h lo hi := by
 have up : ∀ j i, i < j → j ≤ n → h i ≤ l j := by
  intro j
  induction j with
  | zero => intro i hi _; omega
  | succ k ih =>
   intro i hi hj
   have a := h2 k (by omega)
   rcases Nat.lt_or_ge i k with e | e
   ·have := ih i e (by omega)
    have := h1 k (by omega)
    omega
   ·obtain rfl : i = k := by omega
    exact a
 have lo' : ∀ i, i ≤ n → lo ≤ l i := fun i hi => by
  rcases Nat.eq_zero_or_pos i with rfl | e
  ·exact h0
  ·have := up i 0 e hi
   have := h1 0 (by omega)
   omega
 have hi' : ∀ i, i ≤ n → h i ≤ hi := fun i hi => by
  rcases Nat.lt_or_ge i n with e | e
  ·have := up n i e (Nat.le_refl _)
   have := h1 n (by omega)
   omega
  ·obtain rfl : i = n := by omega
   exact h3
 refine ⟨fun i hi => ⟨lo' i (by omega), hi' i (by omega)⟩, fun i j hi hj hn => ?_⟩
 rcases Nat.lt_or_gt_of_ne hn with e | e
 ·exact .inl (up j i e (by omega))
 ·exact .inr (up i j e (by omega))
def OwWorld (lo hi : Nat) (v : Value) (m : Wo) (W : World) : Prop := ∃ dv sv lv ev wv nv rv tv, ∃ l h : Nat → Nat, v = .agg #[dv, .int .i64 m.cfg.2, sv, lv, ev, .int .i64 m.reg.trim, wv, nv, rv, tv, .bool m.torn] ∧ Spd 8 l h lo hi ∧ OwN (l 0) (h 0) dv m.cfg.1 W ∧ OwStoreS (l 1) (h 1) sv m.stores W ∧ OwN (l 2) (h 2) lv m.lost W ∧ OwEraS (l 3) (h 3) ev m.reg.eras W ∧ OwWriterS (l 4) (h 4) wv m.writers W ∧ OwMendS (l 5) (h 5) nv m.mends W ∧ OwReaderS (l 6) (h 6) rv m.readers W ∧ OwSentS (l 7) (h 7) tv m.sent W
def sizWorld (m : Wo) : Nat := sizConfig m.cfg + (sizStoreS m.stores + (sizIntS m.lost + (sizRegister m.reg + (sizWriterS m.writers + (sizMendS m.mends + (sizReaderS m.readers + (sizSentS m.sent)))))))
def txtWo (m : Wo) : Prop := txtSS m.stores ∧ (∀ x ∈ m.writers, txtW x.words) ∧ (∀ x ∈ m.mends, txtE x.seen) ∧ (∀ x ∈ m.readers, txtEv x.out) ∧ txtSe m.sent
theorem OwWorld.rd {lo hi : Nat} {v : Value} {m : Wo} {W : World} (h : OwWorld lo hi v m W) : RdWorld v m W := by
 obtain ⟨dv, sv, lv, ev, wv, nv, rv, tv, _, _, e, -, h0, h1, h2, h3, h4, h5, h6, h7⟩ := h
 exact ⟨dv, sv, lv, ev, wv, nv, rv, tv, e, h0.rd, h1.rd, h2.rd, OwK.rd h3, h4.rd, h5.rd, h6.rd, h7.rd⟩
theorem RdWorld.below {v : Value} {m : Wo} {W W' : World} (h : RdWorld v m W) (b : Below W.heap.size W W') : RdWorld v m W' := by
 obtain ⟨dv, sv, lv, ev, wv, nv, rv, tv, e, h0, h1, h2, h3, h4, h5, h6, h7⟩ := h
 exact ⟨dv, sv, lv, ev, wv, nv, rv, tv, e, h0.below b, h1.below b, h2.below b, RdK.below h3 b, h4.below b, h5.below b, h6.below b, h7.below b⟩
theorem formWorld {v : Value} {m : Wo} {W : World} (h : RdWorld v m W) : ∃ da dc sa sc la lc ea ec wa wc na nc ra rc ta tc, v = .agg #[.slice da m.cfg.1.length dc, .int .i64 m.cfg.2, .slice sa m.stores.length sc, .slice la m.lost.length lc, .slice ea m.reg.eras.length ec, .int .i64 m.reg.trim, .slice wa m.writers.length wc, .slice na m.mends.length nc, .slice ra m.readers.length rc, .slice ta m.sent.length tc, .bool m.torn] ∧ m.cfg.1.length ≤ 9223372036854775807 ∧ m.stores.length ≤ 9223372036854775807 ∧ m.lost.length ≤ 9223372036854775807 ∧ m.reg.eras.length ≤ 9223372036854775807 ∧ m.writers.length ≤ 9223372036854775807 ∧ m.mends.length ≤ 9223372036854775807 ∧ m.readers.length ≤ 9223372036854775807 ∧ m.sent.length ≤ 9223372036854775807 := by
 obtain ⟨dv, sv, lv, ev, wv, nv, rv, tv, rfl, h0, h1, h2, h3, h4, h5, h6, h7⟩ := h
 obtain ⟨zd, da, dc, rfl, -, -⟩ := h0
 obtain ⟨sa, sc, rfl, zs⟩ := formStoreS h1
 obtain ⟨zl, la, lc, rfl, -, -⟩ := h2
 obtain ⟨ea, ec, rfl, ze⟩ := formK h3
 obtain ⟨wa, wc, rfl, zw⟩ := formD h4
 obtain ⟨na, nc, rfl, zn⟩ := formD h5
 obtain ⟨ra, rc, rfl, zr⟩ := formD h6
 obtain ⟨ta, tc, rfl, zt⟩ := formSentS h7
 exact ⟨da, dc, sa, sc, la, lc, ea, ec, wa, wc, na, nc, ra, rc, ta, tc, rfl, zd, zs, zl, ze, zw, zn, zr, zt⟩
theorem partsWorld {v : Value} {m : Wo} {W : World} (h : RdWorld v m W) : ∃ da dc sa sc la lc ea ec wa wc na nc ra rc ta tc, v = .agg #[.slice da m.cfg.1.length dc, .int .i64 m.cfg.2, .slice sa m.stores.length sc, .slice la m.lost.length lc, .slice ea m.reg.eras.length ec, .int .i64 m.reg.trim, .slice wa m.writers.length wc, .slice na m.mends.length nc, .slice ra m.readers.length rc, .slice ta m.sent.length tc, .bool m.torn] ∧ Ns W (.slice da m.cfg.1.length dc) m.cfg.1 ∧ RdStoreS (.slice sa m.stores.length sc) m.stores W ∧ Ns W (.slice la m.lost.length lc) m.lost ∧ RdEraS (.slice ea m.reg.eras.length ec) m.reg.eras W ∧ RdWriterS (.slice wa m.writers.length wc) m.writers W ∧ RdMendS (.slice na m.mends.length nc) m.mends W ∧ RdReaderS (.slice ra m.readers.length rc) m.readers W ∧ RdSentS (.slice ta m.sent.length tc) m.sent W := by
 obtain ⟨dv, sv, lv, ev, wv, nv, rv, tv, rfl, h0, h1, h2, h3, h4, h5, h6, h7⟩ := h
 have g0 := h0
 obtain ⟨zd, da, dc, rfl, -, -⟩ := g0
 have g1 := h1
 obtain ⟨sa, sc, rfl, zs⟩ := formStoreS g1
 have g2 := h2
 obtain ⟨zl, la, lc, rfl, -, -⟩ := g2
 have g3 := h3
 obtain ⟨ea, ec, rfl, ze⟩ := formK g3
 have g4 := h4
 obtain ⟨wa, wc, rfl, zw⟩ := formD g4
 have g5 := h5
 obtain ⟨na, nc, rfl, zn⟩ := formD g5
 have g6 := h6
 obtain ⟨ra, rc, rfl, zr⟩ := formD g6
 have g7 := h7
 obtain ⟨ta, tc, rfl, zt⟩ := formSentS g7
 exact ⟨da, dc, sa, sc, la, lc, ea, ec, wa, wc, na, nc, ra, rc, ta, tc, rfl, h0, h1, h2, h3, h4, h5, h6, h7⟩
theorem OwWorld.sits {lo hi : Nat} {w : World} {v : Value} {m : Wo} (h : OwWorld lo hi v m w) (hf : hi ≤ w.heap.size) : Sits (OwWorld lo hi v m) lo hi w := by
 obtain ⟨dv, sv, lv, ev, wv, nv, rv, tv, l, r, e, sp, h0, h1, h2, h3, h4, h5, h6, h7⟩ := h
 have hi' : ∀ i, i < 8 → r i ≤ w.heap.size := fun i h => Nat.le_trans (sp.1 i h).2 hf
 have t0 := h0.sits (hi' 0 (by omega))
 have t1 := h1.sits (hi' 1 (by omega))
 have t2 := h2.sits (hi' 2 (by omega))
 have t3 := OwK.sits h3 (hi' 3 (by omega))
 have t4 := OwD.sits (Ow := OwWriter) sitsOfWriter h4 (hi' 4 (by omega))
 have t5 := OwD.sits (Ow := OwMend) sitsOfMend h5 (hi' 5 (by omega))
 have t6 := OwD.sits (Ow := OwReader) sitsOfReader h6 (hi' 6 (by omega))
 have t7 := OwG.sits h7 (hi' 7 (by omega))
 exact ⟨hf, fun W hW => ⟨dv, sv, lv, ev, wv, nv, rv, tv, l, r, e, sp, t0.all W fun k k1 k2 => hW k (Nat.le_trans (sp.1 0 (by omega)).1 k1) (Nat.lt_of_lt_of_le k2 (sp.1 0 (by omega)).2), t1.all W fun k k1 k2 => hW k (Nat.le_trans (sp.1 1 (by omega)).1 k1) (Nat.lt_of_lt_of_le k2 (sp.1 1 (by omega)).2), t2.all W fun k k1 k2 => hW k (Nat.le_trans (sp.1 2 (by omega)).1 k1) (Nat.lt_of_lt_of_le k2 (sp.1 2 (by omega)).2), t3.all W fun k k1 k2 => hW k (Nat.le_trans (sp.1 3 (by omega)).1 k1) (Nat.lt_of_lt_of_le k2 (sp.1 3 (by omega)).2), t4.all W fun k k1 k2 => hW k (Nat.le_trans (sp.1 4 (by omega)).1 k1) (Nat.lt_of_lt_of_le k2 (sp.1 4 (by omega)).2), t5.all W fun k k1 k2 => hW k (Nat.le_trans (sp.1 5 (by omega)).1 k1) (Nat.lt_of_lt_of_le k2 (sp.1 5 (by omega)).2), t6.all W fun k k1 k2 => hW k (Nat.le_trans (sp.1 6 (by omega)).1 k1) (Nat.lt_of_lt_of_le k2 (sp.1 6 (by omega)).2), t7.all W fun k k1 k2 => hW k (Nat.le_trans (sp.1 7 (by omega)).1 k1) (Nat.lt_of_lt_of_le k2 (sp.1 7 (by omega)).2)⟩⟩
theorem Sits.put {P : World → Prop} {lo hi b o : Nat} {w : World} (h : Sits P lo hi w) (hb : b < lo ∨ hi ≤ b) (u : Value) : Sits P lo hi (w.setCell ⟨b, o, none⟩ u) :=
 ⟨by simpa using h.fit, fun W hW => h.all W fun k h1 h2 => (hW k h1 h2).trans (Below.heap_setCell _ _ _ k (by simp only; omega))⟩
theorem Sits.snoc {P Q : World → Prop} {lo mid mid' hi : Nat} {w : World} (h : Sits P lo mid w) (k : Sits Q mid' hi w) (h1 : lo ≤ mid') (h2 : mid ≤ hi) : Sits (fun W => P W ∧ Q W) lo hi w :=
 ⟨k.fit, fun W hW => ⟨h.all W fun j j1 j2 => hW j j1 (by omega), k.all W fun j j1 j2 => hW j (by omega) j2⟩⟩
theorem szIntS_w (v : Value) (m : List Int) (left : Int) (l0 : 0 ≤ left) (l1 : left ≤ 1048576) (w : World) (h : Ns w v m) :
  Calls Tryz.prog 121 #[v, .int .i64 left] w fun e w' => e = .returned (.int .i64 (lft left (sizIntS m))) ∧ Below w.heap.size w w' := szIntS_b v m left l0 l1 w h
set_option maxHeartbeats 8000000 in
theorem eqWorld_ (u v : Value) (m : Wo) (w : World) (hu : RdWorld u m w) (hv : RdWorld v m w) :
  Calls Tryz.prog 43 #[u, v] w fun e w' => e = .returned (.bool true) ∧ Below w.heap.size w w' := by
 have hb0 : ∀ o o', Below w.heap.size w ((w.alloc o).alloc o') := fun o o' => ((Below.refl _ _).alloc (Nat.le_refl _) o).alloc (by simp) o'
 obtain ⟨dv, sv, lv, ev, wv, nv, rv, tv, rfl, g0, g1, g2, g3, g4, g5, g6, g7⟩ := hu
 obtain ⟨xdv, xsv, xlv, xev, xwv, xnv, xrv, xtv, rfl, h0, h1, h2, h3, h4, h5, h6, h7⟩ := hv
 have C0 := dH fun W (hb : Below w.heap.size w W) => eqConfig_ (.agg #[dv, .int .i64 m.cfg.2]) (.agg #[xdv, .int .i64 m.cfg.2]) m.cfg W ⟨_, rfl, g0.below hb⟩ ⟨_, rfl, h0.below hb⟩
 have C1 := dH fun W (hb : Below w.heap.size w W) => eqStoreS_ (sv) (xsv) m.stores W (g1.below hb) (h1.below hb)
 have C2 := dH fun W (hb : Below w.heap.size w W) => eqIntS_ (lv) (xlv) m.lost W (g2.below hb) (h2.below hb)
 have C3 := dH fun W (hb : Below w.heap.size w W) => eqRegister_ (.agg #[ev, .int .i64 m.reg.trim]) (.agg #[xev, .int .i64 m.reg.trim]) m.reg W ⟨_, rfl, RdK.below g3 hb⟩ ⟨_, rfl, RdK.below h3 hb⟩
 have C4 := dH fun W (hb : Below w.heap.size w W) => eqWriterS_ (wv) (xwv) m.writers W (g4.below hb) (h4.below hb)
 have C5 := dH fun W (hb : Below w.heap.size w W) => eqMendS_ (nv) (xnv) m.mends W (g5.below hb) (h5.below hb)
 have C6 := dH fun W (hb : Below w.heap.size w W) => eqReaderS_ (rv) (xrv) m.readers W (g6.below hb) (h6.below hb)
 have C7 := dH fun W (hb : Below w.heap.size w W) => eqSentS_ (tv) (xtv) m.sent W (g7.below hb) (h7.below hb)
 obtain ⟨zd, da, dc, rfl, -, -⟩ := g0
 obtain ⟨zxd, xda, xdc, rfl, -, -⟩ := h0
 obtain ⟨sa, sc, rfl, zs⟩ := formStoreS g1
 obtain ⟨xsa, xsc, rfl, zxs⟩ := formStoreS h1
 obtain ⟨zl, la, lc, rfl, -, -⟩ := g2
 obtain ⟨zxl, xla, xlc, rfl, -, -⟩ := h2
 obtain ⟨ea, ec, rfl, ze⟩ := formK g3
 obtain ⟨xea, xec, rfl, zxe⟩ := formK h3
 obtain ⟨wa, wc, rfl, zw⟩ := formD g4
 obtain ⟨xwa, xwc, rfl, zxw⟩ := formD h4
 obtain ⟨na, nc, rfl, zn⟩ := formD g5
 obtain ⟨xna, xnc, rfl, zxn⟩ := formD h5
 obtain ⟨ra, rc, rfl, zr⟩ := formD g6
 obtain ⟨xra, xrc, rfl, zxr⟩ := formD h6
 obtain ⟨ta, tc, rfl, zt⟩ := formSentS g7
 obtain ⟨xta, xtc, rfl, zxt⟩ := formSentS h7
 clear g1 g3 g4 g5 g6 g7 h1 h3 h4 h5 h6 h7
 generalize m.cfg.1.length = gd at *
 generalize m.stores.length = gs at *
 generalize m.lost.length = gl at *
 generalize m.reg.eras.length = ge at *
 generalize m.writers.length = gw at *
 generalize m.mends.length = gn at *
 generalize m.readers.length = gr at *
 generalize m.sent.length = gt at *
 generalize m.cfg.2 = f1 at *
 generalize m.reg.trim = f5 at *
 generalize m.torn = f10 at *
 have X0 := (Bx.new w [.slice da gd dc, .int .i64 f1, .slice sa gs sc, .slice la gl lc, .slice ea ge ec, .int .i64 f5, .slice wa gw wc, .slice na gn nc, .slice ra gr rc, .slice ta gt tc, .bool f10] 71).below ((Below.refl _ _).alloc (Nat.le_refl _) (.cells #[.slice xda gd xdc, .int .i64 f1, .slice xsa gs xsc, .slice xla gl xlc, .slice xea ge xec, .int .i64 f5, .slice xwa gw xwc, .slice xna gn xnc, .slice xra gr xrc, .slice xta gt xtc, .bool f10] 71))
 have Y0 := Bx.new (w.alloc (.cells #[.slice da gd dc, .int .i64 f1, .slice sa gs sc, .slice la gl lc, .slice ea ge ec, .int .i64 f5, .slice wa gw wc, .slice na gn nc, .slice ra gr rc, .slice ta gt tc, .bool f10] 71)) [.slice xda gd xdc, .int .i64 f1, .slice xsa gs xsc, .slice xla gl xlc, .slice xea ge xec, .int .i64 f5, .slice xwa gw xwc, .slice xna gn xnc, .slice xra gr xrc, .slice xta gt xtc, .bool f10] 71
 have e1 : (w.alloc (.cells #[.slice da gd dc, .int .i64 f1, .slice sa gs sc, .slice la gl lc, .slice ea ge ec, .int .i64 f5, .slice wa gw wc, .slice na gn nc, .slice ra gr rc, .slice ta gt tc, .bool f10] 71)).heap.size = w.heap.size + 1 := by simp
 rw [e1] at Y0
 have B0 := hb0 (.cells #[.slice da gd dc, .int .i64 f1, .slice sa gs sc, .slice la gl lc, .slice ea ge ec, .int .i64 f5, .slice wa gw wc, .slice na gn nc, .slice ra gr rc, .slice ta gt tc, .bool f10] 71) (.cells #[.slice xda gd xdc, .int .i64 f1, .slice xsa gs xsc, .slice xla gl xlc, .slice xea ge xec, .int .i64 f5, .slice xwa gw xwc, .slice xna gn xnc, .slice xra gr xrc, .slice xta gt xtc, .bool f10] 71)
 clear e1
 go_enter Tryz.func43, Tryz.ntmps43
 go_wp2_with fail
 generalize (w.alloc (.cells #[.slice da gd dc, .int .i64 f1, .slice sa gs sc, .slice la gl lc, .slice ea ge ec, .int .i64 f5, .slice wa gw wc, .slice na gn nc, .slice ra gr rc, .slice ta gt tc, .bool f10] 71)).alloc (.cells #[.slice xda gd xdc, .int .i64 f1, .slice xsa gs xsc, .slice xla gl xlc, .slice xea ge xec, .int .i64 f5, .slice xwa gw xwc, .slice xna gn xnc, .slice xra gr xrc, .slice xta gt xtc, .bool f10] 71) = w0 at *
 refine (dU C0 _ B0).mono ?_
 rintro e w1 ⟨rfl, b1⟩
 have B1 := bT B0 b1
 have X1 := X0.below b1
 have Y1 := Y0.below b1
 clear b1 C0 B0 X0 Y0
 have k2 := X1 2 _ rfl
 have j2 := Y1 2 _ rfl
 go_wp2_with fail
 refine (dU C1 _ B1).mono ?_
 rintro e w2 ⟨rfl, b2⟩
 have B2 := bT B1 b2
 have X2 := X1.below b2
 have Y2 := Y1.below b2
 clear b2 C1 B1 X1 Y1 k2 j2
 have k3 := X2 3 _ rfl
 have j3 := Y2 3 _ rfl
 go_wp2_with fail
 refine (dU C2 _ B2).mono ?_
 rintro e w3 ⟨rfl, b3⟩
 have B3 := bT B2 b3
 have X3 := X2.below b3
 have Y3 := Y2.below b3
 clear b3 C2 B2 X2 Y2 k3 j3
 have k4 := X3 4 _ rfl
 have j4 := Y3 4 _ rfl
 have k5 := X3 5 _ rfl
 have j5 := Y3 5 _ rfl
 go_wp2_with fail
 refine (dU C3 _ B3).mono ?_
 rintro e w4 ⟨rfl, b4⟩
 have B4 := bT B3 b4
 have X4 := X3.below b4
 have Y4 := Y3.below b4
 clear b4 C3 B3 X3 Y3 k4 j4 k5 j5
 have k6 := X4 6 _ rfl
 have j6 := Y4 6 _ rfl
 go_wp2_with fail
 refine (dU C4 _ B4).mono ?_
 rintro e w5 ⟨rfl, b5⟩
 have B5 := bT B4 b5
 have X5 := X4.below b5
 have Y5 := Y4.below b5
 clear b5 C4 B4 X4 Y4 k6 j6
 have k7 := X5 7 _ rfl
 have j7 := Y5 7 _ rfl
 go_wp2_with fail
 refine (dU C5 _ B5).mono ?_
 rintro e w6 ⟨rfl, b6⟩
 have B6 := bT B5 b6
 have X6 := X5.below b6
 have Y6 := Y5.below b6
 clear b6 C5 B5 X5 Y5 k7 j7
 have k8 := X6 8 _ rfl
 have j8 := Y6 8 _ rfl
 go_wp2_with fail
 refine (dU C6 _ B6).mono ?_
 rintro e w7 ⟨rfl, b7⟩
 have B7 := bT B6 b7
 have X7 := X6.below b7
 have Y7 := Y6.below b7
 clear b7 C6 B6 X6 Y6 k8 j8
 have k9 := X7 9 _ rfl
 have j9 := Y7 9 _ rfl
 go_wp2_with fail
 refine (dU C7 _ B7).mono ?_
 rintro e w8 ⟨rfl, b8⟩
 have B8 := bT B7 b8
 have X8 := X7.below b8
 have Y8 := Y7.below b8
 clear b8 C7 B7 X7 Y7 k9 j9
 have k10 := X8 10 _ rfl
 have j10 := Y8 10 _ rfl
 clear X8 Y8
 go_wp2
 go_ret
 exact ⟨rfl, B8⟩
end Go.Proofs.YtnogallomdckiaaGreat
