/- Worlds as models (printed by tools/mkwo.py). -/
import Derived.Test.YtaamipmlalplbaaUsB
import Derived.Test.YtaamipmlalplbaaSitS
import Derived.Test.YtaamipmlalplbaaWsR
import Derived.Test.YtaamipmlalplbaaMsR
import Derived.Test.YtaamipmlalplbaaRsR
import Derived.Test.YtaamipmlalplbaaSeS
namespace Go.Proofs.Ytaamipmlalplbaa
open Go.ChangeShapes Go.WideShapes Go.ChangeAt Go.RowKit
set_option linter.unusedVariables false
set_option linter.unusedSimpArgs false
set_option maxRecDepth 100000

/-- A world. -/
structure Wo where
  cfg : List Int × Int
  stores : List St
  lost : List Int
  reg : Rg
  writers : List Wt
  mends : List Mn
  readers : List Rr
  sent : List Se
  torn : Bool
def RdWorld (v : Value) (m : Wo) (W : World) : Prop := ∃ dv sv lv ev wv nv rv tv, v = .agg #[dv, .int .i64 m.cfg.2, sv, lv, ev, .int .i64 m.reg.trim, wv, nv, rv, tv, .bool m.torn] ∧ Ns W dv m.cfg.1 ∧ RdStoreS sv m.stores W ∧ Ns W lv m.lost ∧ RdEraS ev m.reg.eras W ∧ RdWriterS wv m.writers W ∧ RdMendS nv m.mends W ∧ RdReaderS rv m.readers W ∧ RdSentS tv m.sent W
/-- Spans of blocks of which no two meet. -/
def Spd (n : Nat) (l h : Nat → Nat) (lo hi : Nat) : Prop := (∀ i, i < n → lo ≤ l i ∧ h i ≤ hi) ∧ ∀ i j, i < n → j < n → i ≠ j → h i ≤ l j ∨ h j ≤ l i
theorem Spd.chain {n : Nat} {l h : Nat → Nat} {lo hi : Nat} (h0 : lo ≤ l 0) (h1 : ∀ i, i < n + 1 → l i ≤ h i) (h2 : ∀ i, i < n → h i ≤ l (i + 1)) (h3 : h n ≤ hi) : Spd (n + 1) l h lo hi := by
  have up : ∀ j i, i < j → j ≤ n → h i ≤ l j := by
    intro j
    induction j with
    | zero => intro i hi _; omega
    | succ k ih =>
      intro i hi hj
      have a := h2 k (by omega)
      rcases Nat.lt_or_ge i k with e | e
      · have := ih i e (by omega)
        have := h1 k (by omega)
        omega
      · obtain rfl : i = k := by omega
        exact a
  have lo' : ∀ i, i ≤ n → lo ≤ l i := fun i hi => by
    rcases Nat.eq_zero_or_pos i with rfl | e
    · exact h0
    · have := up i 0 e hi
      have := h1 0 (by omega)
      omega
  have hi' : ∀ i, i ≤ n → h i ≤ hi := fun i hi => by
    rcases Nat.lt_or_ge i n with e | e
    · have := up n i e (Nat.le_refl _)
      have := h1 n (by omega)
      omega
    · obtain rfl : i = n := by omega
      exact h3
  refine ⟨fun i hi => ⟨lo' i (by omega), hi' i (by omega)⟩, fun i j hi hj hn => ?_⟩
  rcases Nat.lt_or_gt_of_ne hn with e | e
  · exact .inl (up j i e (by omega))
  · exact .inr (up i j e (by omega))
def OwWorld (lo hi : Nat) (v : Value) (m : Wo) (W : World) : Prop := ∃ dv sv lv ev wv nv rv tv, ∃ l h : Nat → Nat, v = .agg #[dv, .int .i64 m.cfg.2, sv, lv, ev, .int .i64 m.reg.trim, wv, nv, rv, tv, .bool m.torn] ∧ Spd 8 l h lo hi ∧ OwN (l 0) (h 0) dv m.cfg.1 W ∧ OwStoreS (l 1) (h 1) sv m.stores W ∧ OwN (l 2) (h 2) lv m.lost W ∧ OwEraS (l 3) (h 3) ev m.reg.eras W ∧ OwWriterS (l 4) (h 4) wv m.writers W ∧ OwMendS (l 5) (h 5) nv m.mends W ∧ OwReaderS (l 6) (h 6) rv m.readers W ∧ OwSentS (l 7) (h 7) tv m.sent W
def sizWorld (m : Wo) : Nat := sizConfig m.cfg + (sizStoreS m.stores + (sizIntS m.lost + (sizRegister m.reg + (sizWriterS m.writers + (sizMendS m.mends + (sizReaderS m.readers + (sizSentS m.sent)))))))
/-- Texts that are no longer than an int. -/
def txtWo (m : Wo) : Prop := txtSS m.stores ∧ (∀ x ∈ m.writers, txtW x.words) ∧ (∀ x ∈ m.mends, txtE x.seen) ∧ (∀ x ∈ m.readers, txtEv x.out) ∧ txtSe m.sent
theorem OwWorld.rd {lo hi : Nat} {v : Value} {m : Wo} {W : World} (h : OwWorld lo hi v m W) : RdWorld v m W := by
  obtain ⟨dv, sv, lv, ev, wv, nv, rv, tv, _, _, e, -, h0, h1, h2, h3, h4, h5, h6, h7⟩ := h
  exact ⟨dv, sv, lv, ev, wv, nv, rv, tv, e, h0.rd, h1.rd, h2.rd, OwK.rd h3, h4.rd, h5.rd, h6.rd, h7.rd⟩
theorem RdWorld.below {v : Value} {m : Wo} {W W' : World} (h : RdWorld v m W) (b : Below W.heap.size W W') : RdWorld v m W' := by
  obtain ⟨dv, sv, lv, ev, wv, nv, rv, tv, e, h0, h1, h2, h3, h4, h5, h6, h7⟩ := h
  exact ⟨dv, sv, lv, ev, wv, nv, rv, tv, e, h0.below b, h1.below b, h2.below b, RdK.below h3 b, h4.below b, h5.below b, h6.below b, h7.below b⟩
theorem formWorld {v : Value} {m : Wo} {W : World} (h : RdWorld v m W) : ∃ da dc sa sc la lc ea ec wa wc na nc ra rc ta tc, v = .agg #[.slice da m.cfg.1.length dc, .int .i64 m.cfg.2, .slice sa m.stores.length sc, .slice la m.lost.length lc, .slice ea m.reg.eras.length ec, .int .i64 m.reg.trim, .slice wa m.writers.length wc, .slice na m.mends.length nc, .slice ra m.readers.length rc, .slice ta m.sent.length tc, .bool m.torn] ∧ m.cfg.1.length ≤ 9223372036854775807 ∧ m.stores.length ≤ 9223372036854775807 ∧ m.lost.length ≤ 9223372036854775807 ∧ m.reg.eras.length ≤ 9223372036854775807 ∧ m.writers.length ≤ 9223372036854775807 ∧ m.mends.length ≤ 9223372036854775807 ∧ m.readers.length ≤ 9223372036854775807 ∧ m.sent.length ≤ 9223372036854775807 := by
  obtain ⟨dv, sv, lv, ev, wv, nv, rv, tv, rfl, h0, h1, h2, h3, h4, h5, h6, h7⟩ := h
  obtain ⟨zd, da, dc, rfl, -, -⟩ := h0
  obtain ⟨sa, sc, rfl, zs⟩ := formStoreS h1
  obtain ⟨zl, la, lc, rfl, -, -⟩ := h2
  obtain ⟨ea, ec, rfl, ze⟩ := formK h3
  obtain ⟨wa, wc, rfl, zw⟩ := formD h4
  obtain ⟨na, nc, rfl, zn⟩ := formD h5
  obtain ⟨ra, rc, rfl, zr⟩ := formD h6
  obtain ⟨ta, tc, rfl, zt⟩ := formSentS h7
  exact ⟨da, dc, sa, sc, la, lc, ea, ec, wa, wc, na, nc, ra, rc, ta, tc, rfl, zd, zs, zl, ze, zw, zn, zr, zt⟩
theorem partsWorld {v : Value} {m : Wo} {W : World} (h : RdWorld v m W) : ∃ da dc sa sc la lc ea ec wa wc na nc ra rc ta tc, v = .agg #[.slice da m.cfg.1.length dc, .int .i64 m.cfg.2, .slice sa m.stores.length sc, .slice la m.lost.length lc, .slice ea m.reg.eras.length ec, .int .i64 m.reg.trim, .slice wa m.writers.length wc, .slice na m.mends.length nc, .slice ra m.readers.length rc, .slice ta m.sent.length tc, .bool m.torn] ∧ Ns W (.slice da m.cfg.1.length dc) m.cfg.1 ∧ RdStoreS (.slice sa m.stores.length sc) m.stores W ∧ Ns W (.slice la m.lost.length lc) m.lost ∧ RdEraS (.slice ea m.reg.eras.length ec) m.reg.eras W ∧ RdWriterS (.slice wa m.writers.length wc) m.writers W ∧ RdMendS (.slice na m.mends.length nc) m.mends W ∧ RdReaderS (.slice ra m.readers.length rc) m.readers W ∧ RdSentS (.slice ta m.sent.length tc) m.sent W := by
  obtain ⟨dv, sv, lv, ev, wv, nv, rv, tv, rfl, h0, h1, h2, h3, h4, h5, h6, h7⟩ := h
  have g0 := h0
  obtain ⟨zd, da, dc, rfl, -, -⟩ := g0
  have g1 := h1
  obtain ⟨sa, sc, rfl, zs⟩ := formStoreS g1
  have g2 := h2
  obtain ⟨zl, la, lc, rfl, -, -⟩ := g2
  have g3 := h3
  obtain ⟨ea, ec, rfl, ze⟩ := formK g3
  have g4 := h4
  obtain ⟨wa, wc, rfl, zw⟩ := formD g4
  have g5 := h5
  obtain ⟨na, nc, rfl, zn⟩ := formD g5
  have g6 := h6
  obtain ⟨ra, rc, rfl, zr⟩ := formD g6
  have g7 := h7
  obtain ⟨ta, tc, rfl, zt⟩ := formSentS g7
  exact ⟨da, dc, sa, sc, la, lc, ea, ec, wa, wc, na, nc, ra, rc, ta, tc, rfl, h0, h1, h2, h3, h4, h5, h6, h7⟩
theorem OwWorld.sits {lo hi : Nat} {w : World} {v : Value} {m : Wo} (h : OwWorld lo hi v m w) (hf : hi ≤ w.heap.size) : Sits (OwWorld lo hi v m) lo hi w := by
  obtain ⟨dv, sv, lv, ev, wv, nv, rv, tv, l, r, e, sp, h0, h1, h2, h3, h4, h5, h6, h7⟩ := h
  have hi' : ∀ i, i < 8 → r i ≤ w.heap.size := fun i h => Nat.le_trans (sp.1 i h).2 hf
  have t0 := h0.sits (hi' 0 (by omega))
  have t1 := h1.sits (hi' 1 (by omega))
  have t2 := h2.sits (hi' 2 (by omega))
  have t3 := OwK.sits h3 (hi' 3 (by omega))
  have t4 := OwD.sits (Ow := OwWriter) sitsOfWriter h4 (hi' 4 (by omega))
  have t5 := OwD.sits (Ow := OwMend) sitsOfMend h5 (hi' 5 (by omega))
  have t6 := OwD.sits (Ow := OwReader) sitsOfReader h6 (hi' 6 (by omega))
  have t7 := OwG.sits h7 (hi' 7 (by omega))
  exact ⟨hf, fun W hW => ⟨dv, sv, lv, ev, wv, nv, rv, tv, l, r, e, sp, t0.all W fun k k1 k2 => hW k (Nat.le_trans (sp.1 0 (by omega)).1 k1) (Nat.lt_of_lt_of_le k2 (sp.1 0 (by omega)).2), t1.all W fun k k1 k2 => hW k (Nat.le_trans (sp.1 1 (by omega)).1 k1) (Nat.lt_of_lt_of_le k2 (sp.1 1 (by omega)).2), t2.all W fun k k1 k2 => hW k (Nat.le_trans (sp.1 2 (by omega)).1 k1) (Nat.lt_of_lt_of_le k2 (sp.1 2 (by omega)).2), t3.all W fun k k1 k2 => hW k (Nat.le_trans (sp.1 3 (by omega)).1 k1) (Nat.lt_of_lt_of_le k2 (sp.1 3 (by omega)).2), t4.all W fun k k1 k2 => hW k (Nat.le_trans (sp.1 4 (by omega)).1 k1) (Nat.lt_of_lt_of_le k2 (sp.1 4 (by omega)).2), t5.all W fun k k1 k2 => hW k (Nat.le_trans (sp.1 5 (by omega)).1 k1) (Nat.lt_of_lt_of_le k2 (sp.1 5 (by omega)).2), t6.all W fun k k1 k2 => hW k (Nat.le_trans (sp.1 6 (by omega)).1 k1) (Nat.lt_of_lt_of_le k2 (sp.1 6 (by omega)).2), t7.all W fun k k1 k2 => hW k (Nat.le_trans (sp.1 7 (by omega)).1 k1) (Nat.lt_of_lt_of_le k2 (sp.1 7 (by omega)).2)⟩⟩
/-- What lies elsewhere than what is written stays. -/
theorem Sits.put {P : World → Prop} {lo hi b o : Nat} {w : World} (h : Sits P lo hi w) (hb : b < lo ∨ hi ≤ b) (u : Value) : Sits P lo hi (w.setCell ⟨b, o, none⟩ u) :=
  ⟨by simpa using h.fit, fun W hW => h.all W fun k h1 h2 => (hW k h1 h2).trans (Below.heap_setCell _ _ _ k (by simp only; omega))⟩
theorem Sits.snoc {P Q : World → Prop} {lo mid mid' hi : Nat} {w : World} (h : Sits P lo mid w) (k : Sits Q mid' hi w) (h1 : lo ≤ mid') (h2 : mid ≤ hi) : Sits (fun W => P W ∧ Q W) lo hi w :=
  ⟨k.fit, fun W hW => ⟨h.all W fun j j1 j2 => hW j j1 (by omega), k.all W fun j j1 j2 => hW j (by omega) j2⟩⟩
theorem szIntS_w (v : Value) (m : List Int) (left : Int) (l0 : 0 ≤ left) (l1 : left ≤ 1048576) (w : World) (h : Ns w v m) :
    Calls Try.prog 13 #[v, .int .i64 left] w fun e w' => e = .returned (.int .i64 (lft left (sizIntS m))) ∧ Below w.heap.size w w' := szIntS_b v m left l0 l1 w h
end Go.Proofs.Ytaamipmlalplbaa
