/- Worlds in which nothing is yet: looked at, and marked, as the exact laws do (printed by tools/mkwo.py). -/
import Derived.Test.YtaamipmlalplbaaWoM
import Derived.Test.YtaamipmlalplbaaUsH
import Derived.Test.YtaamipmlalplbaaRsK
import Derived.Test.YtaamipmlalplbaaSitT
import Derived.Test.YtaamipmlalplbaaSitU
import Derived.Deep.DeepCutAuto
namespace Go.Proofs.Ytaamipmlalplbaa
open Go.ChangeShapes Go.WideShapes Go.ChangeAt Go.RowKit
set_option linter.unusedVariables false
set_option linter.unusedSimpArgs false
set_option maxRecDepth 100000

/-- A world in which nothing is yet. -/
def bareW (m : Wo) : Prop := m.lost = [] ∧ m.reg.eras = [] ∧ m.writers = [] ∧ m.mends = [] ∧ m.sent = [] ∧ ∀ x ∈ m.readers, x.out = []
/-- Such a one, marked. -/
def mkBare (k0 : Nat) (m : Wo) : Wo := ⟨(marksN k0 m.cfg.1.length, m.cfg.2), mkStoreS (k0 + m.cfg.1.length) m.stores, [], ⟨[], m.reg.trim⟩, [], [], mkRe (k0 + m.cfg.1.length + cntStoreS m.stores) m.readers.length, [], m.torn⟩
def cntBare (m : Wo) : Nat := m.cfg.1.length + cntStoreS m.stores + 2 * m.readers.length
theorem cntBare_eq {m : Wo} (h : bareW m) : cntWorld m = cntBare m := by
  obtain ⟨h1, h2, h3, h4, h5, h6⟩ := h
  have e : cntReaderS m.readers = 2 * m.readers.length := by
    unfold cntReaderS
    revert h6
    generalize m.readers = l
    intro h6
    induction l with
    | nil => rfl
    | cons x l ih =>
      have e1 : sumPd (fun m => cntReader m + 2) (x :: l) = (cntReader x + 2) + sumPd (fun m => cntReader m + 2) l := by simp [sumPd]
      have e2 : cntReader x = 0 := by unfold cntReader; rw [h6 x (by simp)]; rfl
      rw [e1, ih (fun y hy => h6 y (by simp [hy])), e2, List.length_cons]
      omega
  have e7 : cntRegister m.reg = 0 := by unfold cntRegister; rw [h2]; rfl
  unfold cntWorld cntBare cntConfig
  rw [h1, h3, h4, h5, e, e7]
  simp [cntIntS, cntWriterS, cntMendS, cntSentS, sumPd]
  omega
theorem heldWriterS_nil (k0 : Nat) (w : World) (a : Option Addr) (c : Nat) (hk : k0 ≤ 268435456) :
    Calls Try.prog 38 #[.slice a 0 c, .int .i64 (k0 : Int)] w fun e w' => e = .returned (.int .i64 (k0 : Int)) ∧ Below w.heap.size w w' := by
  go_enter Try.func38, Try.ntmps38
  go_wp2
  go_rounds 1
  go_ret
  exact ⟨rfl, Below.refl _ _⟩
theorem heldMendS_nil (k0 : Nat) (w : World) (a : Option Addr) (c : Nat) (hk : k0 ≤ 268435456) :
    Calls Try.prog 39 #[.slice a 0 c, .int .i64 (k0 : Int)] w fun e w' => e = .returned (.int .i64 (k0 : Int)) ∧ Below w.heap.size w w' := by
  go_enter Try.func39, Try.ntmps39
  go_wp2
  go_rounds 1
  go_ret
  exact ⟨rfl, Below.refl _ _⟩
theorem heldSentS_nil (k0 : Nat) (w : World) (a : Option Addr) (c : Nat) (hk : k0 ≤ 268435456) :
    Calls Try.prog 41 #[.slice a 0 c, .int .i64 (k0 : Int)] w fun e w' => e = .returned (.int .i64 (k0 : Int)) ∧ Below w.heap.size w w' := by
  go_enter Try.func41, Try.ntmps41
  go_wp2
  go_rounds 1
  go_ret
  exact ⟨rfl, Below.refl _ _⟩
theorem heldConfig_ (v : Value) (m : List Int × Int) (k0 : Nat) (w : World) (hk : k0 ≤ 536870912) (hl : cntConfig m ≤ 536870912) (h : RdConfig v (marksN k0 m.1.length, m.2) w) :
    Calls Try.prog 34 #[v, .int .i64 (k0 : Int)] w fun e w' => e = .returned (.int .i64 ((k0 + cntConfig m : Nat) : Int)) ∧ Below w.heap.size w w' := by
  have hb0 : ∀ o, Below w.heap.size w (w.alloc o) := fun o => (Below.refl _ _).alloc (Nat.le_refl _) o
  obtain ⟨sv, rfl, h⟩ := h
  have C1 := dHide fun W (hb : Below w.heap.size w W) => heldIntS_ sv m.1 k0 W (by omega) (by unfold cntConfig at hl; unfold cntIntS; omega) (h.below hb)
  obtain ⟨-, a, cap, rfl, -, -⟩ := h
  have e1 : ((k0 + cntConfig m : Nat) : Int) = ((k0 + cntIntS m.1 : Nat) : Int) := rfl
  rw [e1]
  have h1 : ¬ ((k0 + cntIntS m.1 : Nat) : Int) < 0 := by omega
  generalize ((k0 + cntIntS m.1 : Nat) : Int) = q at *
  simp only at *
  generalize (marksN k0 m.1.length).length = n at *
  clear e1 hk hl
  go_enter Try.func34, Try.ntmps34
  go_wp2_with fail
  refine (dUnhide C1 _ (hb0 _)).mono ?_
  rintro r w1 ⟨rfl, b1⟩
  have B1 := belowThen (hb0 _) b1
  clear C1 b1 hb0
  go_wp2
  go_ret
  exact ⟨rfl, B1⟩
set_option maxHeartbeats 8000000 in
theorem heldWorldB_ (v : Value) (m : Wo) (k0 : Nat) (w : World) (hk : k0 ≤ 33554432) (hl : cntBare m ≤ 33554432) (hr : m.readers.length ≤ 1048576) (h : RdWorld v (mkBare k0 m) w) :
    Calls Try.prog 12 #[v, .int .i64 (k0 : Int)] w fun e w' => e = .returned (.int .i64 ((k0 + cntBare m : Nat) : Int)) ∧ Below w.heap.size w w' := by
  obtain ⟨dv, sv, lv, ev, wv, nv, rv, tv, rfl, h0, h1, h2, h3, h4, h5, h6, h7⟩ := h
  have hb0 : ∀ o, Below w.heap.size w (w.alloc o) := fun o => (Below.refl _ _).alloc (Nat.le_refl _) o
  have EK : k0 + cntBare m = k0 + m.cfg.1.length + cntStoreS m.stores + 2 * m.readers.length := by unfold cntBare; omega
  rw [EK]
  unfold cntBare at hl
  simp only [mkBare] at *
  have C0 := dHide fun W (hb : Below w.heap.size w W) => heldConfig_ (.agg #[dv, .int .i64 m.cfg.2]) m.cfg k0 W (by omega) (by unfold cntConfig; omega) ⟨_, rfl, h0.below hb⟩
  have C1 := dHide fun W (hb : Below w.heap.size w W) => heldStoreS_ sv m.stores (k0 + m.cfg.1.length) W (by omega) (by omega) (h1.below hb)
  have C2 := dHide fun W (hb : Below w.heap.size w W) => heldIntS_ lv [] (k0 + m.cfg.1.length + cntStoreS m.stores) W (by omega) (by simp [cntIntS]) (h2.below hb)
  have C3 := dHide fun W (hb : Below w.heap.size w W) => heldRegister_ (.agg #[ev, .int .i64 m.reg.trim]) ⟨[], m.reg.trim⟩ (k0 + m.cfg.1.length + cntStoreS m.stores) W (by omega) (by simp [cntRegister, cntEraS, sumN]) ⟨_, rfl, RdK.below h3 hb⟩
  have C6 := dHide fun W (hb : Below w.heap.size w W) => heldReaderS_e rv m.readers.length (k0 + m.cfg.1.length + cntStoreS m.stores) W (by omega) hr (RdReaderS.below h6 hb)
  have cz2 : (k0 + m.cfg.1.length + cntStoreS m.stores + cntIntS ([] : List Int) : Nat) = k0 + m.cfg.1.length + cntStoreS m.stores := rfl
  have cz3 : (k0 + m.cfg.1.length + cntStoreS m.stores + cntRegister ⟨[], m.reg.trim⟩ : Nat) = k0 + m.cfg.1.length + cntStoreS m.stores := rfl
  have cz0 : (k0 + cntConfig m.cfg : Nat) = k0 + m.cfg.1.length := rfl
  rw [cz0] at C0
  rw [cz2] at C2
  rw [cz3] at C3
  clear cz0 cz2 cz3 EK
  obtain ⟨zd, da, dc, rfl, -, -⟩ := h0
  obtain ⟨sa, sc, rfl, zs⟩ := formStoreS h1
  obtain ⟨zl, la, lc, rfl, -, -⟩ := h2
  obtain ⟨ea, ec, rfl, ze⟩ := formK h3
  obtain ⟨wa, wc, rfl, zw⟩ := formD h4
  obtain ⟨na, nc, rfl, zn⟩ := formD h5
  obtain ⟨ra, rc, rfl, zr⟩ := formD h6
  obtain ⟨ta, tc, rfl, zt⟩ := formSentS h7
  simp only [List.length_nil, mkRe_len, mkStoreS_len, marksN_len] at *
  have C4 := dHide fun W => heldWriterS_nil (k0 + m.cfg.1.length + cntStoreS m.stores) W wa wc (by omega)
  have C5 := dHide fun W => heldMendS_nil (k0 + m.cfg.1.length + cntStoreS m.stores) W na nc (by omega)
  have C7 := dHide fun W => heldSentS_nil (k0 + m.cfg.1.length + cntStoreS m.stores + 2 * m.readers.length) W ta tc (by omega)
  clear h1 h3 h4 h5 h6 h7
  generalize m.cfg.2 = f1 at *
  generalize m.reg.trim = f5 at *
  generalize m.torn = f10 at *
  generalize m.stores.length = gs at *
  generalize m.readers.length = gr at *
  have u1 : ¬ ((k0 + m.cfg.1.length : Nat) : Int) < 0 := by omega
  have u2 : ¬ ((k0 + m.cfg.1.length + cntStoreS m.stores : Nat) : Int) < 0 := by omega
  have u6 : ¬ ((k0 + m.cfg.1.length + cntStoreS m.stores + 2 * gr : Nat) : Int) < 0 := by omega
  generalize m.cfg.1.length = gd at *
  generalize cntStoreS m.stores = cs at *
  generalize hq6 : k0 + gd + cs + 2 * gr = q6 at *
  generalize hq2 : k0 + gd + cs = q2 at *
  generalize hq1 : k0 + gd = q1 at *
  clear hq6 hq2 hq1
  have X0 := Bx.new w [.slice da gd dc, .int .i64 f1, .slice sa gs sc, .slice la 0 lc, .slice ea 0 ec, .int .i64 f5, .slice wa 0 wc, .slice na 0 nc, .slice ra gr rc, .slice ta 0 tc, .bool f10] 36
  have B0 := hb0 (.cells #[.slice da gd dc, .int .i64 f1, .slice sa gs sc, .slice la 0 lc, .slice ea 0 ec, .int .i64 f5, .slice wa 0 wc, .slice na 0 nc, .slice ra gr rc, .slice ta 0 tc, .bool f10] 36)
  go_enter Try.func12, Try.ntmps12
  go_wp2_with fail
  generalize w.alloc (.cells #[.slice da gd dc, .int .i64 f1, .slice sa gs sc, .slice la 0 lc, .slice ea 0 ec, .int .i64 f5, .slice wa 0 wc, .slice na 0 nc, .slice ra gr rc, .slice ta 0 tc, .bool f10] 36) = w0 at *
  clear hb0
  refine (dUnhide C0 _ B0).mono ?_
  rintro e w1 ⟨rfl, b1⟩
  have B1 := belowThen B0 b1
  have X1 := X0.below b1
  clear C0 X0 B0 b1
  have k2 := X1 2 _ rfl
  go_wp2_with fail
  refine (dUnhide C1 _ B1).mono ?_
  rintro e w2 ⟨rfl, b2⟩
  have B2 := belowThen B1 b2
  have X2 := X1.below b2
  clear k2
  clear C1 X1 B1 b2
  have k3 := X2 3 _ rfl
  go_wp2_with fail
  refine (dUnhide C2 _ B2).mono ?_
  rintro e w3 ⟨rfl, b3⟩
  have B3 := belowThen B2 b3
  have X3 := X2.below b3
  clear k3
  clear C2 X2 B2 b3
  have k4 := X3 4 _ rfl
  have k5 := X3 5 _ rfl
  go_wp2_with fail
  refine (dUnhide C3 _ B3).mono ?_
  rintro e w4 ⟨rfl, b4⟩
  have B4 := belowThen B3 b4
  have X4 := X3.below b4
  clear k4 k5
  clear C3 X3 B3 b4
  have k6 := X4 6 _ rfl
  go_wp2_with fail
  refine (dUnhide C4 _).mono ?_
  rintro e w5 ⟨rfl, b5⟩
  have B5 := belowThen B4 b5
  have X5 := X4.below b5
  clear k6
  clear C4 X4 B4 b5
  have k7 := X5 7 _ rfl
  go_wp2_with fail
  refine (dUnhide C5 _).mono ?_
  rintro e w6 ⟨rfl, b6⟩
  have B6 := belowThen B5 b6
  have X6 := X5.below b6
  clear k7
  clear C5 X5 B5 b6
  have k8 := X6 8 _ rfl
  go_wp2_with fail
  refine (dUnhide C6 _ B6).mono ?_
  rintro e w7 ⟨rfl, b7⟩
  have B7 := belowThen B6 b7
  have X7 := X6.below b7
  clear k8
  clear C6 X6 B6 b7
  have k9 := X7 9 _ rfl
  go_wp2_with fail
  refine (dUnhide C7 _).mono ?_
  rintro e w8 ⟨rfl, b8⟩
  have B8 := belowThen B7 b8
  have X8 := X7.below b8
  clear k9
  clear C7 X7 B7 b8
  clear X8
  go_wp2
  go_ret
  exact ⟨rfl, B8⟩
theorem OwD.le {n : Nat} {μ : Type} {Ow : Nat → Nat → Value → μ → World → Prop} {lo hi : Nat} {v : Value} {w : World} {ms : List μ} (h : OwD n Ow lo hi v ms w) : lo ≤ hi := by
  obtain ⟨rs, s, h1, h2, h3, h4, h5⟩ := h
  exact Nat.le_trans (h4.lo 0 (Nat.zero_le _)) (h4.hi 0 (Nat.zero_le _))
theorem OwN.nil_any {lo hi lo' hi' : Nat} {v : Value} {w w' : World} (h : OwN lo hi v [] w) : OwN lo' hi' v [] w' := by
  obtain ⟨⟨h0, a, cap, e, hc, -⟩, -⟩ := h
  exact ⟨⟨h0, a, cap, e, hc, .inl rfl⟩, .inl rfl⟩
theorem OwG.nil_any {α : Type} {sz : Nat} {cl : α → List Value} {lo hi lo' hi' : Nat} {v : Value} {w w' : World} (h : OwG sz cl lo hi v [] w) : OwG sz cl lo' hi' v [] w' := by
  obtain ⟨⟨h0, a, cap, e, hc, -⟩, -⟩ := h
  exact ⟨⟨h0, a, cap, e, hc, .inl rfl⟩, .inl rfl⟩
theorem OwEraS.nil_any {lo hi lo' hi' : Nat} {v : Value} {w w' : World} (h : OwEraS lo hi v [] w) : OwEraS lo' hi' v [] w' := by
  obtain ⟨rs, h1, ⟨h0, a, cap, e, hc, -⟩, -⟩ := h
  have : rs = [] := by cases rs with | nil => rfl | cons x l => simp at h1
  subst this
  exact ⟨[], rfl, ⟨h0, a, cap, e, hc, .inl rfl⟩, .inl rfl, fun p hp => by simp at hp, by simp [Apart]⟩
set_option maxHeartbeats 8000000 in
theorem markWorldB_ (lo hi : Nat) (v : Value) (m : Wo) (k0 : Nat) (w : World) (hk : k0 ≤ 33554432) (hl : cntBare m ≤ 33554432) (hr : m.readers.length ≤ 1048576) (hB : bareW m) (h : Sits (OwWorld lo hi v m) lo hi w) :
    Calls Try.prog 11 #[v, .int .i64 (k0 : Int)] w fun e w' => e = .returned (.int .i64 ((k0 + cntBare m : Nat) : Int)) ∧ Sits (OwWorld lo hi v (mkBare k0 m)) lo hi w' ∧ Wr lo hi w w' := by
  have hfit := h.fit
  obtain ⟨dv, sv, lv, ev, wv, nv, rv, tv, l, r, rfl, sp, h0, h1, h2, h3, h4, h5, h6, h7⟩ := h.now
  have hb0 : ∀ o, Below w.heap.size w (w.alloc o) := fun o => (Below.refl _ _).alloc (Nat.le_refl _) o
  obtain ⟨b2, b3, b4, b5, b7, b6⟩ := hB
  rw [b2] at h2
  rw [b3] at h3
  rw [b4] at h4
  rw [b5] at h5
  rw [b7] at h7
  have EK : k0 + cntBare m = k0 + m.cfg.1.length + cntStoreS m.stores + 2 * m.readers.length := by unfold cntBare; omega
  rw [EK]
  unfold cntBare at hl
  clear h EK
  have u0 := (sp.1 0 (by omega))
  have u1 := (sp.1 1 (by omega))
  have u2 := (sp.1 2 (by omega))
  have u3 := (sp.1 3 (by omega))
  have u4 := (sp.1 4 (by omega))
  have u5 := (sp.1 5 (by omega))
  have u6 := (sp.1 6 (by omega))
  have u7 := (sp.1 7 (by omega))
  have S0 := (show Sits (OwConfig (l 0) (r 0) (.agg #[dv, .int .i64 m.cfg.2]) m.cfg) (l 0) (r 0) w from ⟨(show r 0 ≤ w.heap.size by omega), fun W hW => ⟨_, rfl, (OwN.sits h0 (show r 0 ≤ w.heap.size by omega)).all W hW⟩⟩)
  have S1 := (h1.sits (show r 1 ≤ w.heap.size by omega))
  have S6 := (OwD.sits (Ow := OwReader) sitsOfReader h6 (show r 6 ≤ w.heap.size by omega))
  have C0 := dHide fun W (h : Sits (OwConfig (l 0) (r 0) (.agg #[dv, .int .i64 m.cfg.2]) m.cfg) (l 0) (r 0) W) => markConfig_ (l 0) (r 0) _ m.cfg k0 W (by omega) (by unfold cntConfig; omega) h
  have C1 := dHide fun W (h : Sits (OwStoreS (l 1) (r 1) sv m.stores) (l 1) (r 1) W) => markStoreS_ (l 1) (r 1) _ m.stores (k0 + m.cfg.1.length) W (by omega) (by omega) h
  have C2 := dHide fun W => markIntS_ 0 0 lv [] (k0 + m.cfg.1.length + cntStoreS m.stores) W (by omega) (by simp [cntIntS]) (OwN.sits (OwN.nil_any h2) (Nat.zero_le _))
  have C3 := dHide fun W => markRegister_ 0 0 (.agg #[ev, .int .i64 m.reg.trim]) ⟨[], m.reg.trim⟩ (k0 + m.cfg.1.length + cntStoreS m.stores) W (by omega) (by simp [cntRegister, cntEraS, sumN]) (OwRegister.sits ⟨_, rfl, OwEraS.nil_any h3⟩ (Nat.zero_le _))
  have C4 := dHide fun W => markWriterS_w 0 0 wv [] (k0 + m.cfg.1.length + cntStoreS m.stores) W (by omega) (by simp [cntWriterS, sumPd]) (Nat.zero_le _) (OwD.nil_any h4 (Nat.le_refl _))
  have C5 := dHide fun W => markMendS_w 0 0 nv [] (k0 + m.cfg.1.length + cntStoreS m.stores) W (by omega) (by simp [cntMendS, sumPd]) (Nat.zero_le _) (OwD.nil_any h5 (Nat.le_refl _))
  have C6 := dHide fun W (h : Sits (OwReaderS (l 6) (r 6) rv m.readers) (l 6) (r 6) W) => markReaderS_e (l 6) (r 6) _ m.readers (k0 + m.cfg.1.length + cntStoreS m.stores) W (by omega) hr b6 h.fit h.now
  have C7 := dHide fun W => markSentS_w 0 0 tv [] (k0 + m.cfg.1.length + cntStoreS m.stores + 2 * m.readers.length) W (by omega) (by simp [cntSentS]) (Nat.zero_le _) (OwG.nil_any h7)
  have cz2 : (k0 + m.cfg.1.length + cntStoreS m.stores + cntIntS ([] : List Int) : Nat) = k0 + m.cfg.1.length + cntStoreS m.stores := rfl
  have cz3 : (k0 + m.cfg.1.length + cntStoreS m.stores + cntRegister ⟨[], m.reg.trim⟩ : Nat) = k0 + m.cfg.1.length + cntStoreS m.stores := rfl
  have cz4 : (k0 + m.cfg.1.length + cntStoreS m.stores + cntWriterS [] : Nat) = k0 + m.cfg.1.length + cntStoreS m.stores := rfl
  have cz5 : (k0 + m.cfg.1.length + cntStoreS m.stores + cntMendS [] : Nat) = k0 + m.cfg.1.length + cntStoreS m.stores := rfl
  have cz7 : (k0 + m.cfg.1.length + cntStoreS m.stores + 2 * m.readers.length + cntSentS [] : Nat) = k0 + m.cfg.1.length + cntStoreS m.stores + 2 * m.readers.length := rfl
  have cz0 : (k0 + cntConfig m.cfg : Nat) = k0 + m.cfg.1.length := rfl
  rw [cz0] at C0
  rw [cz2] at C2
  rw [cz3] at C3
  rw [cz4] at C4
  rw [cz5] at C5
  rw [cz7] at C7
  clear cz0 cz2 cz3 cz4 cz5 cz7
  have END : Hid (∀ W, hi ≤ W.heap.size → Sits (OwConfig (l 0) (r 0) (.agg #[dv, .int .i64 m.cfg.2]) (mkConfig k0 m.cfg)) (l 0) (r 0) W → Sits (OwStoreS (l 1) (r 1) sv (mkStoreS (k0 + m.cfg.1.length) m.stores)) (l 1) (r 1) W → OwReaderS (l 6) (r 6) rv (mkRe (k0 + m.cfg.1.length + cntStoreS m.stores) m.readers.length) W → Sits (OwWorld lo hi (.agg #[dv, .int .i64 m.cfg.2, sv, lv, ev, .int .i64 m.reg.trim, wv, nv, rv, tv, .bool m.torn]) (mkBare k0 m)) lo hi W) := fun W hW q0 q1 q6 => by
    have q0' : OwConfig (l 0) (r 0) (.agg #[dv, .int .i64 m.cfg.2]) (marksN k0 m.cfg.1.length, m.cfg.2) W := q0.now
    obtain ⟨_, e0, o0⟩ := q0'
    cases e0
    exact OwWorld.sits ⟨dv, sv, lv, ev, wv, nv, rv, tv, l, r, rfl, sp, o0, q1.now, OwN.nil_any h2, OwEraS.nil_any h3, OwD.nil_any h4 h4.le, OwD.nil_any h5 h5.le, q6, OwG.nil_any h7⟩ hW
  have g0 := h0.rd
  obtain ⟨zd, da, dc, rfl, -, -⟩ := g0
  have g1 := h1.rd
  obtain ⟨sa, sc, rfl, zs⟩ := formStoreS g1
  have g2 := h2.rd
  obtain ⟨zl, la, lc, rfl, -, -⟩ := g2
  have g3 := (OwK.rd h3)
  obtain ⟨ea, ec, rfl, ze⟩ := formK g3
  have g4 := (OwWriterS.rd h4)
  obtain ⟨wa, wc, rfl, zw⟩ := formD g4
  have g5 := (OwMendS.rd h5)
  obtain ⟨na, nc, rfl, zn⟩ := formD g5
  have g6 := (OwReaderS.rd h6)
  obtain ⟨ra, rc, rfl, zr⟩ := formD g6
  have g7 := (OwSentS.rd h7)
  obtain ⟨ta, tc, rfl, zt⟩ := formSentS g7
  simp only [List.length_nil] at *
  have T0 := dHide S0
  have T1 := dHide S1
  have T6 := dHide S6
  have HSP := dHide sp
  clear S0 S1 S6 h0 h1 h2 h3 h4 h5 h6 h7 g1 g3 g4 g5 g6 g7 sp b2 b3 b4 b5 b6 b7
  have hq : k0 + m.cfg.1.length + cntStoreS m.stores + 2 * m.readers.length ≤ 67108864 := by omega
  generalize m.cfg.2 = f1 at *
  generalize m.reg.trim = f5 at *
  generalize m.torn = f10 at *
  generalize m.stores.length = gs at *
  generalize m.readers.length = gr at *
  generalize m.cfg.1.length = gd at *
  generalize cntStoreS m.stores = cs at *
  generalize hq6 : k0 + gd + cs + 2 * gr = q6 at *
  generalize hq2 : k0 + gd + cs = q2 at *
  generalize hq1 : k0 + gd = q1 at *
  have hq2' : q2 ≤ 67108864 := by omega
  have hq1' : q1 ≤ 67108864 := by omega
  clear hq6 hq2 hq1
  have X0 := Bx.new w [.slice da gd dc, .int .i64 f1, .slice sa gs sc, .slice la 0 lc, .slice ea 0 ec, .int .i64 f5, .slice wa 0 wc, .slice na 0 nc, .slice ra gr rc, .slice ta 0 tc, .bool f10] 36
  have B0 := hb0 (.cells #[.slice da gd dc, .int .i64 f1, .slice sa gs sc, .slice la 0 lc, .slice ea 0 ec, .int .i64 f5, .slice wa 0 wc, .slice na 0 nc, .slice ra gr rc, .slice ta 0 tc, .bool f10] 36)
  have D0 : Wr lo hi w (w.alloc (.cells #[.slice da gd dc, .int .i64 f1, .slice sa gs sc, .slice la 0 lc, .slice ea 0 ec, .int .i64 f5, .slice wa 0 wc, .slice na 0 nc, .slice ra gr rc, .slice ta 0 tc, .bool f10] 36)) := Wr.of_below B0
  have z0 : w.heap.size < (w.alloc (.cells #[.slice da gd dc, .int .i64 f1, .slice sa gs sc, .slice la 0 lc, .slice ea 0 ec, .int .i64 f5, .slice wa 0 wc, .slice na 0 nc, .slice ra gr rc, .slice ta 0 tc, .bool f10] 36)).heap.size := by simp
  replace T0 := dHide ((dUnhide T0).below B0)
  replace T1 := dHide ((dUnhide T1).below B0)
  replace T6 := dHide ((dUnhide T6).below B0)
  go_enter Try.func11, Try.ntmps11
  go_wp2_with fail
  generalize w.alloc (.cells #[.slice da gd dc, .int .i64 f1, .slice sa gs sc, .slice la 0 lc, .slice ea 0 ec, .int .i64 f5, .slice wa 0 wc, .slice na 0 nc, .slice ra gr rc, .slice ta 0 tc, .bool f10] 36) = w0 at *
  clear B0 hb0
  refine (dUnhide C0 _ (dUnhide T0)).mono ?_
  rintro e w1 ⟨rfl, Q0, d0⟩
  clear T0
  replace T1 := dHide ((dUnhide T1).wr d0 ((dUnhide HSP).2 1 0 (by omega) (by omega) (by omega)))
  replace T6 := dHide ((dUnhide T6).wr d0 ((dUnhide HSP).2 6 0 (by omega) (by omega) (by omega)))
  replace Q0 := dHide Q0
  have D1 := D0.trans (d0.wider u0.1 u0.2)
  have z1 : w.heap.size < w1.heap.size := Nat.lt_of_lt_of_le z0 d0.size
  have X1 : Bx w1 w.heap.size [.slice da gd dc, .int .i64 f1, .slice sa gs sc, .slice la 0 lc, .slice ea 0 ec, .int .i64 f5, .slice wa 0 wc, .slice na 0 nc, .slice ra gr rc, .slice ta 0 tc, .bool f10] := fun i u hu => (World.cell?_of_block (a := ⟨w.heap.size, i, none⟩) (d0.block w.heap.size z0 (.inr (by omega)))).trans (X0 i u hu)
  clear C0 X0 z0 D0 d0
  have k2 := X1 2 _ rfl
  go_wp2_with fail
  refine (dUnhide C1 _ (dUnhide T1)).mono ?_
  rintro e w2 ⟨rfl, Q1, d1⟩
  clear T1
  replace Q0 := dHide ((dUnhide Q0).wr d1 ((dUnhide HSP).2 0 1 (by omega) (by omega) (by omega)))
  replace T6 := dHide ((dUnhide T6).wr d1 ((dUnhide HSP).2 6 1 (by omega) (by omega) (by omega)))
  replace Q1 := dHide Q1
  have D2 := D1.trans (d1.wider u1.1 u1.2)
  have z2 : w.heap.size < w2.heap.size := Nat.lt_of_lt_of_le z1 d1.size
  have X2 : Bx w2 w.heap.size [.slice da gd dc, .int .i64 f1, .slice sa gs sc, .slice la 0 lc, .slice ea 0 ec, .int .i64 f5, .slice wa 0 wc, .slice na 0 nc, .slice ra gr rc, .slice ta 0 tc, .bool f10] := fun i u hu => (World.cell?_of_block (a := ⟨w.heap.size, i, none⟩) (d1.block w.heap.size z1 (.inr (by omega)))).trans (X1 i u hu)
  clear k2
  clear C1 X1 z1 D1 d1
  have k3 := X2 3 _ rfl
  go_wp2_with fail
  refine (dUnhide C2 _).mono ?_
  rintro e w3 ⟨rfl, -, d2⟩
  replace Q0 := dHide ((dUnhide Q0).wr d2 (.inr (Nat.zero_le _)))
  replace Q1 := dHide ((dUnhide Q1).wr d2 (.inr (Nat.zero_le _)))
  replace T6 := dHide ((dUnhide T6).wr d2 (.inr (Nat.zero_le _)))
  have D3 := D2.trans ⟨d2.os, d2.tape, d2.output, d2.size, fun j hj hn => d2.block j hj (.inr (Nat.zero_le _))⟩
  have z3 : w.heap.size < w3.heap.size := Nat.lt_of_lt_of_le z2 d2.size
  have X3 : Bx w3 w.heap.size [.slice da gd dc, .int .i64 f1, .slice sa gs sc, .slice la 0 lc, .slice ea 0 ec, .int .i64 f5, .slice wa 0 wc, .slice na 0 nc, .slice ra gr rc, .slice ta 0 tc, .bool f10] := fun i u hu => (World.cell?_of_block (a := ⟨w.heap.size, i, none⟩) (d2.block w.heap.size z2 (.inr (by omega)))).trans (X2 i u hu)
  clear k3
  clear C2 X2 z2 D2 d2
  have k4 := X3 4 _ rfl
  have k5 := X3 5 _ rfl
  go_wp2_with fail
  refine (dUnhide C3 _).mono ?_
  rintro e w4 ⟨rfl, -, d3⟩
  replace Q0 := dHide ((dUnhide Q0).wr d3 (.inr (Nat.zero_le _)))
  replace Q1 := dHide ((dUnhide Q1).wr d3 (.inr (Nat.zero_le _)))
  replace T6 := dHide ((dUnhide T6).wr d3 (.inr (Nat.zero_le _)))
  have D4 := D3.trans ⟨d3.os, d3.tape, d3.output, d3.size, fun j hj hn => d3.block j hj (.inr (Nat.zero_le _))⟩
  have z4 : w.heap.size < w4.heap.size := Nat.lt_of_lt_of_le z3 d3.size
  have X4 : Bx w4 w.heap.size [.slice da gd dc, .int .i64 f1, .slice sa gs sc, .slice la 0 lc, .slice ea 0 ec, .int .i64 f5, .slice wa 0 wc, .slice na 0 nc, .slice ra gr rc, .slice ta 0 tc, .bool f10] := fun i u hu => (World.cell?_of_block (a := ⟨w.heap.size, i, none⟩) (d3.block w.heap.size z3 (.inr (by omega)))).trans (X3 i u hu)
  clear k4 k5
  clear C3 X3 z3 D3 d3
  have k6 := X4 6 _ rfl
  go_wp2_with fail
  refine (dUnhide C4 _).mono ?_
  rintro e w5 ⟨rfl, d4⟩
  replace Q0 := dHide ((dUnhide Q0).wr d4 (.inr (Nat.zero_le _)))
  replace Q1 := dHide ((dUnhide Q1).wr d4 (.inr (Nat.zero_le _)))
  replace T6 := dHide ((dUnhide T6).wr d4 (.inr (Nat.zero_le _)))
  have D5 := D4.trans ⟨d4.os, d4.tape, d4.output, d4.size, fun j hj hn => d4.block j hj (.inr (Nat.zero_le _))⟩
  have z5 : w.heap.size < w5.heap.size := Nat.lt_of_lt_of_le z4 d4.size
  have X5 : Bx w5 w.heap.size [.slice da gd dc, .int .i64 f1, .slice sa gs sc, .slice la 0 lc, .slice ea 0 ec, .int .i64 f5, .slice wa 0 wc, .slice na 0 nc, .slice ra gr rc, .slice ta 0 tc, .bool f10] := fun i u hu => (World.cell?_of_block (a := ⟨w.heap.size, i, none⟩) (d4.block w.heap.size z4 (.inr (by omega)))).trans (X4 i u hu)
  clear k6
  clear C4 X4 z4 D4 d4
  have k7 := X5 7 _ rfl
  go_wp2_with fail
  refine (dUnhide C5 _).mono ?_
  rintro e w6 ⟨rfl, d5⟩
  replace Q0 := dHide ((dUnhide Q0).wr d5 (.inr (Nat.zero_le _)))
  replace Q1 := dHide ((dUnhide Q1).wr d5 (.inr (Nat.zero_le _)))
  replace T6 := dHide ((dUnhide T6).wr d5 (.inr (Nat.zero_le _)))
  have D6 := D5.trans ⟨d5.os, d5.tape, d5.output, d5.size, fun j hj hn => d5.block j hj (.inr (Nat.zero_le _))⟩
  have z6 : w.heap.size < w6.heap.size := Nat.lt_of_lt_of_le z5 d5.size
  have X6 : Bx w6 w.heap.size [.slice da gd dc, .int .i64 f1, .slice sa gs sc, .slice la 0 lc, .slice ea 0 ec, .int .i64 f5, .slice wa 0 wc, .slice na 0 nc, .slice ra gr rc, .slice ta 0 tc, .bool f10] := fun i u hu => (World.cell?_of_block (a := ⟨w.heap.size, i, none⟩) (d5.block w.heap.size z5 (.inr (by omega)))).trans (X5 i u hu)
  clear k7
  clear C5 X5 z5 D5 d5
  have k8 := X6 8 _ rfl
  go_wp2_with fail
  refine (dUnhide C6 _ (dUnhide T6)).mono ?_
  rintro e w7 ⟨rfl, Q6, d6⟩
  clear T6
  replace Q0 := dHide ((dUnhide Q0).wr d6 ((dUnhide HSP).2 0 6 (by omega) (by omega) (by omega)))
  replace Q1 := dHide ((dUnhide Q1).wr d6 ((dUnhide HSP).2 1 6 (by omega) (by omega) (by omega)))
  replace Q6 := dHide (OwD.sits (Ow := OwReader) sitsOfReader Q6 (show r 6 ≤ w7.heap.size by have := d6.size; have := u6.2; omega))
  have D7 := D6.trans (d6.wider u6.1 u6.2)
  have z7 : w.heap.size < w7.heap.size := Nat.lt_of_lt_of_le z6 d6.size
  have X7 : Bx w7 w.heap.size [.slice da gd dc, .int .i64 f1, .slice sa gs sc, .slice la 0 lc, .slice ea 0 ec, .int .i64 f5, .slice wa 0 wc, .slice na 0 nc, .slice ra gr rc, .slice ta 0 tc, .bool f10] := fun i u hu => (World.cell?_of_block (a := ⟨w.heap.size, i, none⟩) (d6.block w.heap.size z6 (.inr (by omega)))).trans (X6 i u hu)
  clear k8
  clear C6 X6 z6 D6 d6
  have k9 := X7 9 _ rfl
  go_wp2_with fail
  refine (dUnhide C7 _).mono ?_
  rintro e w8 ⟨rfl, d7⟩
  replace Q0 := dHide ((dUnhide Q0).wr d7 (.inr (Nat.zero_le _)))
  replace Q1 := dHide ((dUnhide Q1).wr d7 (.inr (Nat.zero_le _)))
  replace Q6 := dHide ((dUnhide Q6).wr d7 (.inr (Nat.zero_le _)))
  have D8 := D7.trans ⟨d7.os, d7.tape, d7.output, d7.size, fun j hj hn => d7.block j hj (.inr (Nat.zero_le _))⟩
  have z8 : w.heap.size < w8.heap.size := Nat.lt_of_lt_of_le z7 d7.size
  have X8 : Bx w8 w.heap.size [.slice da gd dc, .int .i64 f1, .slice sa gs sc, .slice la 0 lc, .slice ea 0 ec, .int .i64 f5, .slice wa 0 wc, .slice na 0 nc, .slice ra gr rc, .slice ta 0 tc, .bool f10] := fun i u hu => (World.cell?_of_block (a := ⟨w.heap.size, i, none⟩) (d7.block w.heap.size z7 (.inr (by omega)))).trans (X7 i u hu)
  clear k9
  clear C7 X7 z7 D7 d7
  have O := dHide (dUnhide END w8 (by omega) (dUnhide Q0) (dUnhide Q1) (dUnhide Q6).now)
  have D8 := dHide D8
  clear X8 HSP END Q0 Q1 Q6 u0 u1 u2 u3 u4 u5 u6 u7
  go_wp2
  go_ret
  exact ⟨rfl, dUnhide O, dUnhide D8⟩
end Go.Proofs.Ytaamipmlalplbaa
