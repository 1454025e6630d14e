/- Several texts in one: RdS, RsR, WoA, DpM, WsM, MsM, SeM, WoM, UsH, RsK, SitU, WoN, OpenV, OpenR, JgB, OpenM, OpenW, OpenY. -/
import Derived.Test.YtodfgehicpejgaaGreatDoorGk169
import Derived.Deep.DeepCutAuto
import Derived.Test.YtodfgehicpejgaaGreatDoorGk163
import Derived.Deep.RegionHeld3
import Derived.Laws.MakeOwn
import Derived.Test.YtodfgehicpejgaaGreatDoorGk178
import Derived.Test.YtodfgehicpejgaaGreatDoorGk151
import Derived.Test.YtodfgehicpejgaaGreatDoorGk176
import Derived.Test.YtodfgehicpejgaaGreatDoorGk170
import Derived.Test.YtodfgehicpejgaaGreatDoorGk162
import Derived.Test.YtodfgehicpejgaaGreatDoorGk172
import Derived.Test.YtodfgehicpejgaaGreatDoorGk165
import Derived.Deep.Strs
import Derived.Test.YtodfgehicpejgaaGreatDoorEvD
namespace Go.Proofs.YtodfgehicpejgaaGreatDoor
open Go.ChangeShapes Go.WideShapes Go.ChangeAt Go.RowKit
set_option linter.unusedSimpArgs false
set_option linter.unusedVariables false
set_option maxRecDepth 100000
structure Rr where
 epoch : Int
 off : Int
 out : List Ev
def RdReader (v : Value) (m : Rr) (W : World) : Prop := ∃ sv, v = .agg #[.int .i64 m.epoch, .int .i64 m.off, sv] ∧ RdEventS sv m.out W
def OwReader (lo hi : Nat) (v : Value) (m : Rr) (W : World) : Prop := ∃ sv, v = .agg #[.int .i64 m.epoch, .int .i64 m.off, sv] ∧ OwEventS lo hi sv m.out W
def sizReader (m : Rr) : Nat := sizEventS m.out
theorem OwReader.rd {lo hi : Nat} {v : Value} {m : Rr} {W : World} (h : OwReader lo hi v m W) : RdReader v m W := by
 obtain ⟨sv, h1, h2⟩ := h
 exact ⟨sv, h1, OwEventS.rd h2⟩
theorem RdReader.below {v : Value} {m : Rr} {W W' : World} (h : RdReader v m W) (b : Below W.heap.size W W') : RdReader v m W' := by
 obtain ⟨sv, h1, h2⟩ := h
 exact ⟨sv, h1, RdEventS.below h2 b⟩
theorem formReader {v : Value} {m : Rr} {W : World} (h : RdReader v m W) : ∃ a cap, v = .agg #[.int .i64 m.epoch, .int .i64 m.off, .slice a m.out.length cap] ∧ m.out.length ≤ 9223372036854775807 := by
 obtain ⟨sv, rfl, h⟩ := h
 obtain ⟨a, cap, rfl, h0⟩ := formEventS h
 exact ⟨a, cap, rfl, h0⟩
theorem OwReader.sits {lo hi : Nat} {w : World} {v : Value} {m : Rr} (h : OwReader lo hi v m w) (hf : hi ≤ w.heap.size) : Sits (OwReader lo hi v m) lo hi w := by
 obtain ⟨sv, h1, h2⟩ := h
 have s2 := OwG.sits h2 hf
 exact ⟨hf, fun W hW => ⟨sv, h1, s2.all W hW⟩⟩
def RdReaderS (v : Value) (ms : List Rr) (W : World) : Prop := RdD 3 RdReader v ms W
def OwReaderS (lo hi : Nat) (v : Value) (ms : List Rr) (W : World) : Prop := OwD 3 OwReader lo hi v ms W
def sizReaderS (ms : List Rr) : Nat := sizD sizReader ms
theorem RdReaderS.below {v : Value} {ms : List Rr} {W W' : World} (h : RdReaderS v ms W) (b : Below W.heap.size W W') : RdReaderS v ms W' := RdD.below (Rd := RdReader) (fun h b => RdReader.below h b) h b
theorem OwReaderS.rd {lo hi : Nat} {v : Value} {ms : List Rr} {W : World} (h : OwReaderS lo hi v ms W) : RdReaderS v ms W := OwD.rd (Rd := RdReader) (Ow := OwReader) (fun h => OwReader.rd h) h
theorem sitsOfReader : SitsOf OwReader := fun h hf => OwReader.sits h hf
theorem makeReaderS (n : Nat) (h : n ≤ 1073741824) (w : World) : (Instr.makeSlice 34 (.int .i64 (n : Int)) (.int .i64 (n : Int))).run Tryz.prog w = .ok (.slice (some ⟨w.heap.size, 0, none⟩) n n) (w.alloc (.cells (madeCells (Value.agg #[.int .i64 0, .int .i64 0, .slice none 0 0]).cells (n * 3)) 54)) := by
 obtain ⟨i0, hi, hz0, hz1, hz2⟩ := info_parts (show (Tryz.prog.info? 54).map (fun i => (i.zero, i.size, i.bytes)) = some (some (.agg #[.int .i64 0, .int .i64 0, .slice none 0 0]), 3, 40) from by kernel_rfl)
 have := run_make (P := Tryz.prog) w 34 54 i0 _ Tryz.underlying34 hi hz0 .i64 .i64 (n : Int) (n : Int) (by omega) (by omega) (by rw [hz2]; omega) (by omega)
 rw [hz1] at this
 simpa using this
structure Wo where
 cfg : List Int × Int
 stores : List St
 lost : List Int
 reg : Rg
 writers : List Wt
 mends : List Mn
 readers : List Rr
 sent : List Se
 torn : Bool
def RdWorld (v : Value) (m : Wo) (W : World) : Prop := ∃ dv sv lv ev wv nv rv tv, v = .agg #[dv, .int .i64 m.cfg.2, sv, lv, ev, .int .i64 m.reg.trim, wv, nv, rv, tv, .bool m.torn] ∧ Ns W dv m.cfg.1 ∧ RdStoreS sv m.stores W ∧ Ns W lv m.lost ∧ RdEraS ev m.reg.eras W ∧ RdWriterS wv m.writers W ∧ RdMendS nv m.mends W ∧ RdReaderS rv m.readers W ∧ RdSentS tv m.sent W
def Spd (n : Nat) (l h : Nat → Nat) (lo hi : Nat) : Prop := (∀ i, i < n → lo ≤ l i ∧ h i ≤ hi) ∧ ∀ i j, i < n → j < n → i ≠ j → h i ≤ l j ∨ h j ≤ l i
theorem Spd.chain {n : Nat} {l h : Nat → Nat} {lo hi : Nat} (h0 : lo ≤ l 0) (h1 : ∀ i, i < n + 1 → l i ≤ h i) (h2 : ∀ i, i < n → h i ≤ l (i + 1)) (h3 : h n ≤ hi) : Spd (n + 1) l h lo hi := by
 have up : ∀ j i, i < j → j ≤ n → h i ≤ l j := by
  intro j
  induction j with
  | zero => intro i hi _; omega
  | succ k ih =>
   intro i hi hj
   have a := h2 k (by omega)
   rcases Nat.lt_or_ge i k with e | e
   ·have := ih i e (by omega)
    have := h1 k (by omega)
    omega
   ·obtain rfl : i = k := by omega
    exact a
 have lo' : ∀ i, i ≤ n → lo ≤ l i := fun i hi => by
  rcases Nat.eq_zero_or_pos i with rfl | e
  ·exact h0
  ·have := up i 0 e hi
   have := h1 0 (by omega)
   omega
 have hi' : ∀ i, i ≤ n → h i ≤ hi := fun i hi => by
  rcases Nat.lt_or_ge i n with e | e
  ·have := up n i e (Nat.le_refl _)
   have := h1 n (by omega)
   omega
  ·obtain rfl : i = n := by omega
   exact h3
 refine ⟨fun i hi => ⟨lo' i (by omega), hi' i (by omega)⟩, fun i j hi hj hn => ?_⟩
 rcases Nat.lt_or_gt_of_ne hn with e | e
 ·exact .inl (up j i e (by omega))
 ·exact .inr (up i j e (by omega))
def OwWorld (lo hi : Nat) (v : Value) (m : Wo) (W : World) : Prop := ∃ dv sv lv ev wv nv rv tv, ∃ l h : Nat → Nat, v = .agg #[dv, .int .i64 m.cfg.2, sv, lv, ev, .int .i64 m.reg.trim, wv, nv, rv, tv, .bool m.torn] ∧ Spd 8 l h lo hi ∧ OwN (l 0) (h 0) dv m.cfg.1 W ∧ OwStoreS (l 1) (h 1) sv m.stores W ∧ OwN (l 2) (h 2) lv m.lost W ∧ OwEraS (l 3) (h 3) ev m.reg.eras W ∧ OwWriterS (l 4) (h 4) wv m.writers W ∧ OwMendS (l 5) (h 5) nv m.mends W ∧ OwReaderS (l 6) (h 6) rv m.readers W ∧ OwSentS (l 7) (h 7) tv m.sent W
def sizWorld (m : Wo) : Nat := sizConfig m.cfg + (sizStoreS m.stores + (sizIntS m.lost + (sizRegister m.reg + (sizWriterS m.writers + (sizMendS m.mends + (sizReaderS m.readers + (sizSentS m.sent)))))))
theorem OwWorld.rd {lo hi : Nat} {v : Value} {m : Wo} {W : World} (h : OwWorld lo hi v m W) : RdWorld v m W := by
 obtain ⟨dv, sv, lv, ev, wv, nv, rv, tv, _, _, e, -, h0, h1, h2, h3, h4, h5, h6, h7⟩ := h
 exact ⟨dv, sv, lv, ev, wv, nv, rv, tv, e, h0.rd, h1.rd, h2.rd, OwK.rd h3, h4.rd, h5.rd, h6.rd, h7.rd⟩
theorem RdWorld.below {v : Value} {m : Wo} {W W' : World} (h : RdWorld v m W) (b : Below W.heap.size W W') : RdWorld v m W' := by
 obtain ⟨dv, sv, lv, ev, wv, nv, rv, tv, e, h0, h1, h2, h3, h4, h5, h6, h7⟩ := h
 exact ⟨dv, sv, lv, ev, wv, nv, rv, tv, e, h0.below b, h1.below b, h2.below b, RdK.below h3 b, h4.below b, h5.below b, h6.below b, h7.below b⟩
theorem partsWorld {v : Value} {m : Wo} {W : World} (h : RdWorld v m W) : ∃ da dc sa sc la lc ea ec wa wc na nc ra rc ta tc, v = .agg #[.slice da m.cfg.1.length dc, .int .i64 m.cfg.2, .slice sa m.stores.length sc, .slice la m.lost.length lc, .slice ea m.reg.eras.length ec, .int .i64 m.reg.trim, .slice wa m.writers.length wc, .slice na m.mends.length nc, .slice ra m.readers.length rc, .slice ta m.sent.length tc, .bool m.torn] ∧ Ns W (.slice da m.cfg.1.length dc) m.cfg.1 ∧ RdStoreS (.slice sa m.stores.length sc) m.stores W ∧ Ns W (.slice la m.lost.length lc) m.lost ∧ RdEraS (.slice ea m.reg.eras.length ec) m.reg.eras W ∧ RdWriterS (.slice wa m.writers.length wc) m.writers W ∧ RdMendS (.slice na m.mends.length nc) m.mends W ∧ RdReaderS (.slice ra m.readers.length rc) m.readers W ∧ RdSentS (.slice ta m.sent.length tc) m.sent W := by
 obtain ⟨dv, sv, lv, ev, wv, nv, rv, tv, rfl, h0, h1, h2, h3, h4, h5, h6, h7⟩ := h
 have g0 := h0
 obtain ⟨zd, da, dc, rfl, -, -⟩ := g0
 have g1 := h1
 obtain ⟨sa, sc, rfl, zs⟩ := formStoreS g1
 have g2 := h2
 obtain ⟨zl, la, lc, rfl, -, -⟩ := g2
 have g3 := h3
 obtain ⟨ea, ec, rfl, ze⟩ := formK g3
 have g4 := h4
 obtain ⟨wa, wc, rfl, zw⟩ := formD g4
 have g5 := h5
 obtain ⟨na, nc, rfl, zn⟩ := formD g5
 have g6 := h6
 obtain ⟨ra, rc, rfl, zr⟩ := formD g6
 have g7 := h7
 obtain ⟨ta, tc, rfl, zt⟩ := formSentS g7
 exact ⟨da, dc, sa, sc, la, lc, ea, ec, wa, wc, na, nc, ra, rc, ta, tc, rfl, h0, h1, h2, h3, h4, h5, h6, h7⟩
theorem OwWorld.sits {lo hi : Nat} {w : World} {v : Value} {m : Wo} (h : OwWorld lo hi v m w) (hf : hi ≤ w.heap.size) : Sits (OwWorld lo hi v m) lo hi w := by
 obtain ⟨dv, sv, lv, ev, wv, nv, rv, tv, l, r, e, sp, h0, h1, h2, h3, h4, h5, h6, h7⟩ := h
 have hi' : ∀ i, i < 8 → r i ≤ w.heap.size := fun i h => Nat.le_trans (sp.1 i h).2 hf
 have t0 := h0.sits (hi' 0 (by omega))
 have t1 := h1.sits (hi' 1 (by omega))
 have t2 := h2.sits (hi' 2 (by omega))
 have t3 := OwK.sits h3 (hi' 3 (by omega))
 have t4 := OwD.sits (Ow := OwWriter) sitsOfWriter h4 (hi' 4 (by omega))
 have t5 := OwD.sits (Ow := OwMend) sitsOfMend h5 (hi' 5 (by omega))
 have t6 := OwD.sits (Ow := OwReader) sitsOfReader h6 (hi' 6 (by omega))
 have t7 := OwG.sits h7 (hi' 7 (by omega))
 exact ⟨hf, fun W hW => ⟨dv, sv, lv, ev, wv, nv, rv, tv, l, r, e, sp, t0.all W fun k k1 k2 => hW k (Nat.le_trans (sp.1 0 (by omega)).1 k1) (Nat.lt_of_lt_of_le k2 (sp.1 0 (by omega)).2), t1.all W fun k k1 k2 => hW k (Nat.le_trans (sp.1 1 (by omega)).1 k1) (Nat.lt_of_lt_of_le k2 (sp.1 1 (by omega)).2), t2.all W fun k k1 k2 => hW k (Nat.le_trans (sp.1 2 (by omega)).1 k1) (Nat.lt_of_lt_of_le k2 (sp.1 2 (by omega)).2), t3.all W fun k k1 k2 => hW k (Nat.le_trans (sp.1 3 (by omega)).1 k1) (Nat.lt_of_lt_of_le k2 (sp.1 3 (by omega)).2), t4.all W fun k k1 k2 => hW k (Nat.le_trans (sp.1 4 (by omega)).1 k1) (Nat.lt_of_lt_of_le k2 (sp.1 4 (by omega)).2), t5.all W fun k k1 k2 => hW k (Nat.le_trans (sp.1 5 (by omega)).1 k1) (Nat.lt_of_lt_of_le k2 (sp.1 5 (by omega)).2), t6.all W fun k k1 k2 => hW k (Nat.le_trans (sp.1 6 (by omega)).1 k1) (Nat.lt_of_lt_of_le k2 (sp.1 6 (by omega)).2), t7.all W fun k k1 k2 => hW k (Nat.le_trans (sp.1 7 (by omega)).1 k1) (Nat.lt_of_lt_of_le k2 (sp.1 7 (by omega)).2)⟩⟩
theorem Sits.put {P : World → Prop} {lo hi b o : Nat} {w : World} (h : Sits P lo hi w) (hb : b < lo ∨ hi ≤ b) (u : Value) : Sits P lo hi (w.setCell ⟨b, o, none⟩ u) :=
 ⟨by simpa using h.fit, fun W hW => h.all W fun k h1 h2 => (hW k h1 h2).trans (Below.heap_setCell _ _ _ k (by simp only; omega))⟩
section
variable {n : Nat} {μ : Type} {Ow : Nat → Nat → Value → μ → World → Prop} {lo hi : Nat} {w wr w2 : World} {b off k : Nat} {rs : List (Pd n μ)} {s : Nat → Nat} {f : Nat → Pd n μ}
def MkD (Ow : Nat → Nat → Value → μ → World → Prop) (lo hi : Nat) (w wr : World) (b off : Nat) (rs : List (Pd n μ)) (s : Nat → Nat) (k : Nat) : Prop :=
 ∃ f : Nat → Pd n μ, RowG n Pd.c wr b off rs.length f ∧ (∀ i (h : i < rs.length), k ≤ i → f i = rs[i]) ∧ (∀ i (h : i < rs.length), k ≤ i → Ow (s i) (s (i + 1)) rs[i].val rs[i].m wr) ∧ Wr lo hi w wr ∧ hi ≤ wr.heap.size
structure MkMid (Ow : Nat → Nat → Value → μ → World → Prop) (lo hi : Nat) (w wr : World) (b off : Nat) (rs : List (Pd n μ)) (s : Nat → Nat) (k : Nat) (f : Nat → Pd n μ) : Prop where
 row : RowG n Pd.c wr b off rs.length f
 same : ∀ i (h : i < rs.length), k < i → f i = rs[i]
 own : ∀ i (h : i < rs.length), k < i → Ow (s i) (s (i + 1)) rs[i].val rs[i].m wr
 wrote : Wr lo hi w wr
 fit : hi ≤ wr.heap.size
theorem MkD.start (h : MkD Ow lo hi w wr b off rs s k) (hk : k < rs.length) : ∃ f, MkMid Ow lo hi w wr b off rs s k f ∧ f k = rs[k] ∧ Ow (s k) (s (k + 1)) rs[k].val rs[k].m wr := by
 obtain ⟨f, h1, h2, h3, h4, h5⟩ := h
 exact ⟨f, ⟨h1, fun i hi hk' => h2 i hi (by omega), fun i hi hk' => h3 i hi (by omega), h4, h5⟩, h2 k hk (Nat.le_refl _), h3 k hk (Nat.le_refl _)⟩
theorem MkMid.fin (h : MkMid Ow lo hi w wr b off rs s k f) : MkD Ow lo hi w wr b off rs s (k + 1) :=
 ⟨f, h.row, fun i hi hk => h.same i hi (by omega), fun i hi hk => h.own i hi (by omega), h.wrote, h.fit⟩
theorem MkMid.put (hS : SitsOf Ow) (h : MkMid Ow lo hi w wr b off rs s k f) (hk : k < rs.length) (hb1 : lo ≤ b) (hs0 : b < s 0) (hsp : Spn s rs.length lo hi) (j : Nat) (hj : j < n) (u : Value) (e : Pd n μ) (he : e.c = (f k).c.set j u) : MkMid Ow lo hi w (wr.setCell ⟨b, off + k * n + j, none⟩ u) b off rs s k (putG f k e) := by
 have hbh : b < hi := by have := hsp.hi 0 (Nat.zero_le _); omega
 refine ⟨h.row.put Pd.len hk j hj u e he, fun i hi hki => ?_, fun i hi hki => ?_, h.wrote.set hb1 hbh u, by simpa using h.fit⟩
 ·rw [putG_ne _ _ (by omega)]
  exact h.same i hi hki
 ·have a1 := hsp.mono i 0 (Nat.zero_le _) (by omega)
  have a2 := hsp.hi (i + 1) (by omega)
  have a3 := h.fit
  exact ((hS (h.own i hi hki) (by omega)).put (.inl (by omega)) u).now
theorem MkMid.sub (hS : SitsOf Ow) (h : MkMid Ow lo hi w wr b off rs s k f) (hk : k < rs.length) (hs0 : b < s 0) (hsp : Spn s rs.length lo hi) (hW : Wr (s k) (s (k + 1)) wr w2) : MkMid Ow lo hi w w2 b off rs s k f := by
 have l0 := hsp.lo k (by omega)
 have l1 := hsp.hi (k + 1) (by omega)
 have l2 := hsp.mono k 0 (Nat.zero_le _) (by omega)
 refine ⟨h.row.wr hW (.inl (by omega)), h.same, fun i hi hki => ?_, h.wrote.trans (hW.wider l0 l1), Nat.le_trans h.fit hW.size⟩
 have a1 := hsp.mono i (k + 1) (by omega) (by omega)
 have a2 := hsp.hi (i + 1) (by omega)
 have a3 := h.fit
 exact ((hS (h.own i hi hki) (by omega)).wr hW (.inr (by omega))).now
theorem MkMid.at (h : MkMid Ow lo hi w wr b off rs s k f) (hk : k < rs.length) (j : Nat) (u : Value) (hu : (f k).c[j]? = some u) : wr.cell? ⟨b, off + k * n + j, none⟩ = some u ∧ wr.frozen? ⟨b, off + k * n + j, none⟩ = false := h.row k hk j u hu
theorem OwD.marks {v : Value} {ms : List μ} {a : Option Addr} {m cap : Nat} (h : OwD n Ow lo hi (.slice a m cap) ms w) (hf : hi ≤ w.heap.size) (z : Pd n μ) : (ms = [] ∨ ∃ b off, ∃ rs : List (Pd n μ), ∃ s : Nat → Nat, a = some ⟨b, off, none⟩ ∧ rs.map Pd.m = ms ∧ lo ≤ b ∧ b < s 0 ∧ Spn s rs.length lo hi ∧ MkD Ow lo hi w w b off rs s 0) := by
 obtain ⟨rs, s, h1, h2, h3, h4, h5⟩ := h
 rcases Nat.eq_zero_or_pos rs.length with h0 | h0
 ·left
  rw [← h1, List.length_eq_zero_iff.1 h0]
  rfl
 ·right
  obtain ⟨b, off, rfl, hb1, Z0⟩ := h2.rowG h0 z
  have hs0 : b < s 0 := by
   rcases h3 with h | h
   ·rw [h] at h0; simp at h0
   ·exact h
  refine ⟨b, off, rs, s, rfl, h1, hb1, hs0, h4, _, Z0, fun i hi _ => ?_, fun i hi _ => h5 i hi, Wr.refl _ _ _, hf⟩
  show rs.getD i z = rs[i]
  rw [List.getD_eq_getElem?_getD, List.getElem?_eq_getElem hi]
  rfl
end
variable {H : Type} {enc : TypeId × Value → H} {W : World} {r : Reach} {b0 base : Nat} {held : Bool} {v : Value} {d : DataW H} {p : List MemPlace}
def fitEv (e : Ev) : Prop := (-9223372036854775808 ≤ e.kind ∧ e.kind ≤ 9223372036854775807) ∧ (-9223372036854775808 ≤ e.pl ∧ e.pl ≤ 9223372036854775807) ∧ e.data.size ≤ 9223372036854775807
def okReader (m : Rr) : Prop := okInt m.epoch ∧ okInt m.off ∧ ∀ e ∈ m.out, fitEv e
variable {H : Type} {enc : TypeId × Value → H} {W : World} {r : Reach} {b0 base : Nat} {held : Bool} {v : Value} {d : DataW H} {p : List MemPlace}
def fitEr (e : Er) : Prop := allInt e.nodes ∧ -9223372036854775808 ≤ e.last ∧ e.last ≤ 9223372036854775807
def okRegister (m : Rg) : Prop := (∀ e ∈ m.eras, fitEr e) ∧ -9223372036854775808 ≤ m.trim ∧ m.trim ≤ 9223372036854775807
theorem events1_any (z : Ev) (b : Nat) (ka : Option Addr) (kc : Nat) (ks : List Int) (w : World) (hc : w.cell? ⟨b, 0, none⟩ = some (.slice ka ks.length kc)) (hk : Ns w (.slice ka ks.length kc) ks) :
  Calls Tryz.prog 250 (#[z.val] ++ #[.pointer (some ⟨b, 0, none⟩)]) w fun e w' => e = .returned (.bool (!(decide (z.kind ∈ ks)))) ∧ Below w.heap.size w w' := by
 obtain ⟨y0, y1, y2⟩ := z
 have B0 : Below w.heap.size w (w.alloc (.cells #[.int .i64 y0, .int .i64 y1, .string y2] 143)) := (Below.refl _ _).alloc (Nat.le_refl _) _
 have C := dH (containsI_any _ ks y0 _ (hk.below B0))
 have hc' : (w.alloc (.cells #[.int .i64 y0, .int .i64 y1, .string y2] 143)).cell? ⟨b, 0, none⟩ = some (.slice ka ks.length kc) := (B0.cell (p := ⟨b, 0, none⟩) (dCell_lt hc)).trans hc
 clear hk hc
 generalize ks.length = n at *
 show Calls Tryz.prog 250 #[.agg #[.int .i64 y0, .int .i64 y1, .string y2], .pointer (some ⟨b, 0, none⟩)] w _
 go_enter Tryz.func250, Tryz.ntmps250
 go_wp2_with fail
 refine (dU C).mono ?_
 rintro e w1 ⟨q, rfl⟩
 clear C hc'
 by_cases h : y0 ∈ ks
 ·obtain rfl := q.of_yes h
  have hd : decide (y0 ∈ ks) = true := decide_eq_true h
  clear q h
  go_wp2
  go_ret
  exact ⟨by rw [hd]; rfl, B0⟩
 ·obtain rfl := q.of_no h
  have hd : decide (y0 ∈ ks) = false := decide_eq_false h
  clear q h
  go_wp2
  go_ret
  exact ⟨by rw [hd]; rfl, B0⟩
def evK (ks : List Int) (l : List Ev) : List Ev := l.filter fun z => decide (z.kind ∈ ks)
theorem evK_fl (ks : List Int) (l : List Ev) : flZ (fun z => !(decide (z.kind ∈ ks))) l = evK ks l := by simp [flZ, evK]
set_option maxHeartbeats 4000000 in
theorem events_any (v kv : Value) (m : Rr) (ks : List Int) (w : World) (hv : RdReader v m w) (hk : Ns w kv ks) (hl : m.out.length ≤ 1048576) :
  Calls Tryz.prog 172 #[v, kv] w fun e w' => (∃ u, e = .returned u ∧ RdEventS u (evK ks m.out) w') ∧ Below w.heap.size w w' := by
 obtain ⟨sv, rfl, hs⟩ := hv
 obtain ⟨sa, sc, rfl, -⟩ := formEventS hs
 obtain ⟨-, ka, kc, rfl, -, -⟩ := id hk
 have ba : ∀ (w : World) o, Below w.heap.size w (w.alloc o) := fun w o => (Below.refl _ _).alloc (Nat.le_refl _) o
 have B0 := bT (ba w (.cells #[.int .i64 m.epoch, .int .i64 m.off, .slice sa m.out.length sc] 54)) (ba _ (.cells #[.slice ka ks.length kc] 24))
 have X0 := Bx.new (w.alloc (.cells #[.int .i64 m.epoch, .int .i64 m.off, .slice sa m.out.length sc] 54)) [.slice ka ks.length kc] 24
 have R0 := (Bx.new w [.int .i64 m.epoch, .int .i64 m.off, .slice sa m.out.length sc] 54).below (ba _ (.cells #[.slice ka ks.length kc] 24))
 have hk0 := hk.below B0
 have hs0 := hs.below B0
 rw [show (w.alloc (.cells #[.int .i64 m.epoch, .int .i64 m.off, .slice sa m.out.length sc] 54)).heap.size = w.heap.size + 1 from by simp] at X0
 have r2 := R0 2 _ rfl
 clear hk hs R0
 go_enter Tryz.func172, Tryz.ntmps172
 go_wp2_with fail
 generalize (w.alloc (.cells #[.int .i64 m.epoch, .int .i64 m.off, .slice sa m.out.length sc] 54)).alloc (.cells #[.slice ka ks.length kc] 24) = w0 at *
 refine (cloneV_any _ m.out w0 hs0 hl).mono ?_
 rintro e w1 ⟨⟨u, rfl, O⟩, b1⟩
 have ho := ApR.own elemEvent O
 have hge := ho.geZ
 obtain ⟨-, ua, uc, rfl, -, -⟩ := id ho
 have CD := dH (deleteE_any ua uc m.out 250 #[.pointer (some ⟨w.heap.size + 1, 0, none⟩)] (fun z => !(decide (z.kind ∈ ks))) (fun W => Below w0.heap.size w0 W) w0.heap.size w1 (by intro args w; rfl) ho b1 (fun W W' row hW g hr => hW.grown g hW.size (fun k hk => by
   rcases hr with hr | ⟨h1, hr⟩
   ·rw [hr] at hk; cases hk
   ·rw [hr] at hk
    rcases hge with h | h
    ·exact absurd h h1
    ·cases hk; exact h)) (fun W hW z hz => events1_any z (w.heap.size + 1) ka kc ks W ((hW.cell (p := ⟨w.heap.size + 1, 0, none⟩) (dCell_lt (X0 0 _ rfl))).trans (X0 0 _ rfl)) (hk0.below hW)))
 have hfin : Hid (∀ W row, w1.grownBy W row → (row = none ∨ (m.out ≠ [] ∧ row = some (bO (.slice ua m.out.length uc)))) → Below w.heap.size w W) := fun W row g hr => B0.trans ((b1.grown g b1.size (fun k hk => by
   rcases hr with hr | ⟨h1, hr⟩
   ·rw [hr] at hk; cases hk
   ·rw [hr] at hk
    rcases hge with h | h
    ·exact absurd h h1
    ·cases hk; exact h)).mono B0.size)
 clear O ho hge X0 hk0 hs0 r2 b1
 go_wp2_with fail
 refine (dU CD).mono ?_
 rintro e w2 ⟨rfl, hr, row, g, hrow⟩
 have BB := dU hfin w2 row g hrow
 rw [evK_fl] at hr ⊢
 replace hr := dH hr
 clear CD hfin g hrow
 go_wp2
 go_ret
 exact ⟨⟨_, rfl, dU hr⟩, BB⟩
variable {H : Type} {enc : TypeId × Value → H} {W : World} {r : Reach} {b0 base : Nat} {held : Bool} {v : Value} {d : DataW H} {p : List MemPlace}
def okMend (m : Mn) : Prop := (-9223372036854775808 ≤ m.bye ∧ m.bye ≤ 9223372036854775807) ∧ (-9223372036854775808 ≤ m.epoch ∧ m.epoch ≤ 9223372036854775807) ∧ allInt m.sealed ∧ fitE m.seen ∧ ∀ l ∈ m.wrote, allInt l
variable {H : Type} {enc : TypeId × Value → H} {W : World} {r : Reach} {b0 base : Nat} {held : Bool} {v : Value} {d : DataW H} {p : List MemPlace}
def fitWd (e : Wd) : Prop := allInt e.acks ∧ e.data.size ≤ 9223372036854775807
def okWriter (m : Wt) : Prop := (∀ e ∈ m.words, fitWd e) ∧ -9223372036854775808 ≤ m.epoch ∧ m.epoch ≤ 9223372036854775807
variable {H : Type} {enc : TypeId × Value → H} {W : World} {r : Reach} {b0 base : Nat} {held : Bool} {v : Value} {d : DataW H} {p : List MemPlace}
def okSent (e : Se) : Prop := okInt e.pl ∧ e.data.size ≤ 9223372036854775807
def okWorld (m : Wo) : Prop := okConfig m.cfg ∧ okStoreS m.stores ∧ allInt m.lost ∧ okRegister m.reg ∧ (∀ x ∈ m.writers, okWriter x) ∧ (∀ x ∈ m.mends, okMend x) ∧ (∀ x ∈ m.readers, okReader x) ∧ ∀ x ∈ m.sent, okSent x
end Go.Proofs.YtodfgehicpejgaaGreatDoor
