/- Worlds, compared as the exact laws do (printed by tools/mkwo.py). -/
import Derived.Test.YtaamipmlalplbaaWoA
import Derived.Deep.DeepCutAuto
namespace Go.Proofs.Ytaamipmlalplbaa
open Go.ChangeShapes Go.WideShapes Go.ChangeAt Go.RowKit
set_option linter.unusedVariables false
set_option linter.unusedSimpArgs false
set_option maxRecDepth 100000

set_option maxHeartbeats 8000000 in
theorem eqWorld_ (u v : Value) (m : Wo) (w : World) (hu : RdWorld u m w) (hv : RdWorld v m w) :
    Calls Try.prog 8 #[u, v] w fun e w' => e = .returned (.bool true) ∧ Below w.heap.size w w' := by
  have hb0 : ∀ o o', Below w.heap.size w ((w.alloc o).alloc o') := fun o o' => ((Below.refl _ _).alloc (Nat.le_refl _) o).alloc (by simp) o'
  obtain ⟨dv, sv, lv, ev, wv, nv, rv, tv, rfl, g0, g1, g2, g3, g4, g5, g6, g7⟩ := hu
  obtain ⟨xdv, xsv, xlv, xev, xwv, xnv, xrv, xtv, rfl, h0, h1, h2, h3, h4, h5, h6, h7⟩ := hv
  have C0 := dHide fun W (hb : Below w.heap.size w W) => eqConfig_ (.agg #[dv, .int .i64 m.cfg.2]) (.agg #[xdv, .int .i64 m.cfg.2]) m.cfg W ⟨_, rfl, g0.below hb⟩ ⟨_, rfl, h0.below hb⟩
  have C1 := dHide fun W (hb : Below w.heap.size w W) => eqStoreS_ (sv) (xsv) m.stores W (g1.below hb) (h1.below hb)
  have C2 := dHide fun W (hb : Below w.heap.size w W) => eqIntS_ (lv) (xlv) m.lost W (g2.below hb) (h2.below hb)
  have C3 := dHide fun W (hb : Below w.heap.size w W) => eqRegister_ (.agg #[ev, .int .i64 m.reg.trim]) (.agg #[xev, .int .i64 m.reg.trim]) m.reg W ⟨_, rfl, RdK.below g3 hb⟩ ⟨_, rfl, RdK.below h3 hb⟩
  have C4 := dHide fun W (hb : Below w.heap.size w W) => eqWriterS_ (wv) (xwv) m.writers W (g4.below hb) (h4.below hb)
  have C5 := dHide fun W (hb : Below w.heap.size w W) => eqMendS_ (nv) (xnv) m.mends W (g5.below hb) (h5.below hb)
  have C6 := dHide fun W (hb : Below w.heap.size w W) => eqReaderS_ (rv) (xrv) m.readers W (g6.below hb) (h6.below hb)
  have C7 := dHide fun W (hb : Below w.heap.size w W) => eqSentS_ (tv) (xtv) m.sent W (g7.below hb) (h7.below hb)
  obtain ⟨zd, da, dc, rfl, -, -⟩ := g0
  obtain ⟨zxd, xda, xdc, rfl, -, -⟩ := h0
  obtain ⟨sa, sc, rfl, zs⟩ := formStoreS g1
  obtain ⟨xsa, xsc, rfl, zxs⟩ := formStoreS h1
  obtain ⟨zl, la, lc, rfl, -, -⟩ := g2
  obtain ⟨zxl, xla, xlc, rfl, -, -⟩ := h2
  obtain ⟨ea, ec, rfl, ze⟩ := formK g3
  obtain ⟨xea, xec, rfl, zxe⟩ := formK h3
  obtain ⟨wa, wc, rfl, zw⟩ := formD g4
  obtain ⟨xwa, xwc, rfl, zxw⟩ := formD h4
  obtain ⟨na, nc, rfl, zn⟩ := formD g5
  obtain ⟨xna, xnc, rfl, zxn⟩ := formD h5
  obtain ⟨ra, rc, rfl, zr⟩ := formD g6
  obtain ⟨xra, xrc, rfl, zxr⟩ := formD h6
  obtain ⟨ta, tc, rfl, zt⟩ := formSentS g7
  obtain ⟨xta, xtc, rfl, zxt⟩ := formSentS h7
  clear g1 g3 g4 g5 g6 g7 h1 h3 h4 h5 h6 h7
  generalize m.cfg.1.length = gd at *
  generalize m.stores.length = gs at *
  generalize m.lost.length = gl at *
  generalize m.reg.eras.length = ge at *
  generalize m.writers.length = gw at *
  generalize m.mends.length = gn at *
  generalize m.readers.length = gr at *
  generalize m.sent.length = gt at *
  generalize m.cfg.2 = f1 at *
  generalize m.reg.trim = f5 at *
  generalize m.torn = f10 at *
  have X0 := (Bx.new w [.slice da gd dc, .int .i64 f1, .slice sa gs sc, .slice la gl lc, .slice ea ge ec, .int .i64 f5, .slice wa gw wc, .slice na gn nc, .slice ra gr rc, .slice ta gt tc, .bool f10] 36).below ((Below.refl _ _).alloc (Nat.le_refl _) (.cells #[.slice xda gd xdc, .int .i64 f1, .slice xsa gs xsc, .slice xla gl xlc, .slice xea ge xec, .int .i64 f5, .slice xwa gw xwc, .slice xna gn xnc, .slice xra gr xrc, .slice xta gt xtc, .bool f10] 36))
  have Y0 := Bx.new (w.alloc (.cells #[.slice da gd dc, .int .i64 f1, .slice sa gs sc, .slice la gl lc, .slice ea ge ec, .int .i64 f5, .slice wa gw wc, .slice na gn nc, .slice ra gr rc, .slice ta gt tc, .bool f10] 36)) [.slice xda gd xdc, .int .i64 f1, .slice xsa gs xsc, .slice xla gl xlc, .slice xea ge xec, .int .i64 f5, .slice xwa gw xwc, .slice xna gn xnc, .slice xra gr xrc, .slice xta gt xtc, .bool f10] 36
  have e1 : (w.alloc (.cells #[.slice da gd dc, .int .i64 f1, .slice sa gs sc, .slice la gl lc, .slice ea ge ec, .int .i64 f5, .slice wa gw wc, .slice na gn nc, .slice ra gr rc, .slice ta gt tc, .bool f10] 36)).heap.size = w.heap.size + 1 := by simp
  rw [e1] at Y0
  have B0 := hb0 (.cells #[.slice da gd dc, .int .i64 f1, .slice sa gs sc, .slice la gl lc, .slice ea ge ec, .int .i64 f5, .slice wa gw wc, .slice na gn nc, .slice ra gr rc, .slice ta gt tc, .bool f10] 36) (.cells #[.slice xda gd xdc, .int .i64 f1, .slice xsa gs xsc, .slice xla gl xlc, .slice xea ge xec, .int .i64 f5, .slice xwa gw xwc, .slice xna gn xnc, .slice xra gr xrc, .slice xta gt xtc, .bool f10] 36)
  clear e1
  go_enter Try.func8, Try.ntmps8
  go_wp2_with fail
  generalize (w.alloc (.cells #[.slice da gd dc, .int .i64 f1, .slice sa gs sc, .slice la gl lc, .slice ea ge ec, .int .i64 f5, .slice wa gw wc, .slice na gn nc, .slice ra gr rc, .slice ta gt tc, .bool f10] 36)).alloc (.cells #[.slice xda gd xdc, .int .i64 f1, .slice xsa gs xsc, .slice xla gl xlc, .slice xea ge xec, .int .i64 f5, .slice xwa gw xwc, .slice xna gn xnc, .slice xra gr xrc, .slice xta gt xtc, .bool f10] 36) = w0 at *
  refine (dUnhide C0 _ B0).mono ?_
  rintro e w1 ⟨rfl, b1⟩
  have B1 := belowThen B0 b1
  have X1 := X0.below b1
  have Y1 := Y0.below b1
  clear b1 C0 B0 X0 Y0
  have k2 := X1 2 _ rfl
  have j2 := Y1 2 _ rfl
  go_wp2_with fail
  refine (dUnhide C1 _ B1).mono ?_
  rintro e w2 ⟨rfl, b2⟩
  have B2 := belowThen B1 b2
  have X2 := X1.below b2
  have Y2 := Y1.below b2
  clear b2 C1 B1 X1 Y1 k2 j2
  have k3 := X2 3 _ rfl
  have j3 := Y2 3 _ rfl
  go_wp2_with fail
  refine (dUnhide C2 _ B2).mono ?_
  rintro e w3 ⟨rfl, b3⟩
  have B3 := belowThen B2 b3
  have X3 := X2.below b3
  have Y3 := Y2.below b3
  clear b3 C2 B2 X2 Y2 k3 j3
  have k4 := X3 4 _ rfl
  have j4 := Y3 4 _ rfl
  have k5 := X3 5 _ rfl
  have j5 := Y3 5 _ rfl
  go_wp2_with fail
  refine (dUnhide C3 _ B3).mono ?_
  rintro e w4 ⟨rfl, b4⟩
  have B4 := belowThen B3 b4
  have X4 := X3.below b4
  have Y4 := Y3.below b4
  clear b4 C3 B3 X3 Y3 k4 j4 k5 j5
  have k6 := X4 6 _ rfl
  have j6 := Y4 6 _ rfl
  go_wp2_with fail
  refine (dUnhide C4 _ B4).mono ?_
  rintro e w5 ⟨rfl, b5⟩
  have B5 := belowThen B4 b5
  have X5 := X4.below b5
  have Y5 := Y4.below b5
  clear b5 C4 B4 X4 Y4 k6 j6
  have k7 := X5 7 _ rfl
  have j7 := Y5 7 _ rfl
  go_wp2_with fail
  refine (dUnhide C5 _ B5).mono ?_
  rintro e w6 ⟨rfl, b6⟩
  have B6 := belowThen B5 b6
  have X6 := X5.below b6
  have Y6 := Y5.below b6
  clear b6 C5 B5 X5 Y5 k7 j7
  have k8 := X6 8 _ rfl
  have j8 := Y6 8 _ rfl
  go_wp2_with fail
  refine (dUnhide C6 _ B6).mono ?_
  rintro e w7 ⟨rfl, b7⟩
  have B7 := belowThen B6 b7
  have X7 := X6.below b7
  have Y7 := Y6.below b7
  clear b7 C6 B6 X6 Y6 k8 j8
  have k9 := X7 9 _ rfl
  have j9 := Y7 9 _ rfl
  go_wp2_with fail
  refine (dUnhide C7 _ B7).mono ?_
  rintro e w8 ⟨rfl, b8⟩
  have B8 := belowThen B7 b8
  have X8 := X7.below b8
  have Y8 := Y7.below b8
  clear b8 C7 B7 X7 Y7 k9 j9
  have k10 := X8 10 _ rfl
  have j10 := Y8 10 _ rfl
  clear X8 Y8
  go_wp2
  go_ret
  exact ⟨rfl, B8⟩
end Go.Proofs.Ytaamipmlalplbaa
