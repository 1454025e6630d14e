/- Registers drawn: how great they are, and what a draw keeps of them. -/
import Derived.Test.YtjkjmapibcfcdaaGreatGz14
import Derived.Test.YtjkjmapibcfcdaaGreatRgH
import Derived.Test.YtjkjmapibcfcdaaGreatGz18
namespace Go.Proofs.YtjkjmapibcfcdaaGreat
open Go.ChangeShapes Go.WideShapes Go.ChangeAt Go.RowKit
set_option linter.unusedVariables false
set_option linter.unusedSimpArgs false
set_option maxRecDepth 100000

def fitD1 (e : Er) : Prop := e.nodes.length ≤ 40 ∧ (∀ z ∈ e.nodes, -1 ≤ z ∧ z ≤ 9) ∧ -9223372036854775808 ≤ e.last ∧ e.last ≤ 9223372036854775807
def fitD (n : Nat) (m : Rg) : Prop := m.eras.length ≤ n ∧ (∀ e ∈ m.eras, fitD1 e) ∧ -9223372036854775808 ≤ m.trim ∧ m.trim ≤ 9223372036854775807
theorem fitD.ok {n : Nat} {m : Rg} (h : fitD n m) : okRegister m := ⟨fun e he => by
 obtain ⟨-, h2, h3⟩ := h.2.1 e he
 exact ⟨fun z hz => by have := h2 z hz; omega, h3⟩, h.2.2⟩
theorem sumN_fit {ms : List Er} (h : ∀ e ∈ ms, fitD1 e) : sumN ms ≤ 40 * ms.length := by
 induction ms with
 | nil => simp [sumN]
 | cons e ms ih =>
  have h1 := (h e (List.mem_cons_self ..)).1
  have h2 := ih fun y hy => h y (List.mem_cons_of_mem _ hy)
  have : sumN (e :: ms) = e.nodes.length + sumN ms := by simp [sumN]
  rw [this, List.length_cons]
  omega
theorem fitD.siz {n : Nat} {m : Rg} (h : fitD n m) (hn : n ≤ 100) : sizRegister m ≤ 1048576 := by
 have h1 := sumN_fit h.2.1
 have h2 := h.1
 unfold sizRegister sizEraS
 omega
theorem fitD.more {n n' : Nat} {m : Rg} (h : fitD n m) (hn : n ≤ n') : fitD n' m := ⟨Nat.le_trans h.1 hn, h.2⟩
theorem fitD_zero (n : Nat) : fitD n zeroRg := ⟨Nat.zero_le _, (fun e he => by cases he), by decide, by decide⟩
theorem fitD.opened {n : Nat} {m : Rg} {ds xs : List Int} {cop : Int} (h : fitD n m) (hx : xs.length ≤ 40) (hz : ∀ z ∈ xs, -1 ≤ z ∧ z ≤ 9) : fitD (n + 1) (openM ds cop m xs).1 := by
 by_cases hp : regP ds cop m
 ·by_cases ho : openP ds cop m xs
  ·rw [openM_yes hp ho]
   refine ⟨by simp only [List.length_append, List.length_singleton]; have := h.1; omega, fun e he => ?_, h.2.2⟩
   rcases List.mem_append.1 he with he | he
   ·exact h.2.1 e he
   ·obtain rfl : e = ⟨xs, false, 0⟩ := by simpa using he
    exact ⟨hx, hz, by simp only; omega, by simp only; omega⟩
  ·rw [openM_no hp ho]; exact h.more (by omega)
 ·rw [openM_bad hp]; exact fitD_zero _
theorem fitD.closed {n : Nat} {m : Rg} {ds : List Int} {cop x y : Int} (h : fitD n m) (hy : okInt y) : fitD n (closeM ds cop m x y).1 := by
 by_cases hp : regP ds cop m
 ·by_cases ho : closeP m x y
  ·rw [closeM_yes hp ho]
   refine ⟨by simp only [closeE, List.length_set]; exact h.1, fun e he => ?_, h.2.2⟩
   simp only [closeE] at he
   rcases List.mem_or_eq_of_mem_set he with he | he
   ·exact h.2.1 e he
   ·rw [he]
    refine ⟨?_, ?_, hy⟩
    ·simp only
     by_cases hk : firstO m.eras - 1 < m.eras.length
     ·rw [getD_lt _ hk]; exact (h.2.1 _ (List.getElem_mem hk)).1
     ·rw [List.getD_eq_getElem?_getD, List.getElem?_eq_none (by omega)]; simp
    ·simp only
     by_cases hk : firstO m.eras - 1 < m.eras.length
     ·rw [getD_lt _ hk]; exact (h.2.1 _ (List.getElem_mem hk)).2.1
     ·rw [List.getD_eq_getElem?_getD, List.getElem?_eq_none (by omega)]; intro z hz; cases hz
  ·rw [closeM_no hp ho]; exact h
 ·rw [closeM_bad hp]; exact fitD_zero _
theorem fitD.trimmed {n : Nat} {m : Rg} {ds : List Int} {cop x : Int} (h : fitD n m) (hx : okInt x) : fitD n (trimR ds cop m x).1 := by
 by_cases hp : regP ds cop m
 ·by_cases ho : plIn m.eras.length x
  ·rw [trimR_yes hp ho]
   refine ⟨h.1, h.2.1, ?_⟩
   have h1 := h.2.2
   obtain ⟨h2, h3⟩ := hx
   simp only
   omega
  ·rw [trimR_no hp ho]; exact h
 ·rw [trimR_bad hp]; exact fitD_zero _
theorem OwK.drawn {bk lo hi : Nat} {v : Value} {ms : List Er} {W W' : World} (h : OwEraS lo hi v ms W) (hf : hi ≤ W.heap.size) (hd : Drawn bk W W') (hb : bk < lo) : OwEraS lo hi v ms W' :=
 (OwK.sits h hf).all W' fun k h1 h2 => hd.block k (by omega) (by omega)
theorem OwK.belowE {lo hi : Nat} {v : Value} {ms : List Er} {W W' : World} (h : OwEraS lo hi v ms W) (hf : hi ≤ W.heap.size) (hb : Below W.heap.size W W') : OwEraS lo hi v ms W' :=
 (OwK.sits h hf).all W' fun k h1 h2 => hb.block k (by omega)
theorem OwK.setE {lo hi b o : Nat} {v : Value} {ms : List Er} {W : World} (h : OwEraS lo hi v ms W) (hf : hi ≤ W.heap.size) (hb : b < lo ∨ hi ≤ b) (u : Value) : OwEraS lo hi v ms (W.setCell ⟨b, o, none⟩ u) :=
 ((OwK.sits h hf).setFar hb u).now
structure DB (W : World) (b lo hi : Nat) (m : Rg) (a : Option Addr) (c : Nat) : Prop where
 box : BxZ W 0 b [.slice a m.eras.length c, .int .i64 m.trim]
 own : OwEraS lo hi (.slice a m.eras.length c) m.eras W
 full : Full W lo (.slice a m.eras.length c)
 fit : hi ≤ W.heap.size
 apart : b < lo ∨ hi ≤ b
variable {W W' : World} {b lo hi bk : Nat} {m : Rg} {a : Option Addr} {c : Nat}
theorem DB.below (h : DB W b lo hi m a c) (hb : Below W.heap.size W W') : DB W' b lo hi m a c :=
 ⟨h.box.below hb, OwK.belowE h.own h.fit hb, h.full.below hb, by have := h.fit; have := hb.size; omega, h.apart⟩
theorem DB.drawn (h : DB W b lo hi m a c) (hd : Drawn bk W W') (h1 : bk < lo) (h2 : b ≠ bk) : DB W' b lo hi m a c :=
 ⟨h.box.drawn hd h2, OwK.drawn h.own h.fit hd h1, h.full.drawn hd h1, by have := h.fit; have := hd.size; omega, h.apart⟩
theorem DB.set (h : DB W b lo hi m a c) {b' o : Nat} (h1 : b ≠ b') (h2 : b' < lo ∨ hi ≤ b') (u : Value) : DB (W.setCell ⟨b', o, none⟩ u) b lo hi m a c :=
 ⟨h.box.far h1 u, OwK.setE h.own h.fit h2 u, h.full.set _ _ _, by rw [World.size_setCell]; exact h.fit, h.apart⟩
theorem DB.rd (h : DB W b lo hi m a c) : RdRegister (.agg #[.slice a m.eras.length c, .int .i64 m.trim]) m W := ⟨_, rfl, h.own.rd⟩
theorem DB.lt (h : DB W b lo hi m a c) : b < W.heap.size := dCell_lt (h.box.2 0 _ rfl).1
theorem DB.weak {hi' : Nat} (h : DB W b lo hi m a c) (h1 : hi ≤ hi') (h2 : hi' ≤ W.heap.size) (hb : b < lo) : DB W b lo hi' m a c := ⟨h.box, OwK.wide h.own (Nat.le_refl _) h1, h.full, h2, .inl hb⟩
theorem OwRegister.shape {v : Value} (h : OwRegister lo hi v m W) : ∃ a c, v = .agg #[.slice a m.eras.length c, .int .i64 m.trim] ∧ OwEraS lo hi (.slice a m.eras.length c) m.eras W := by
 obtain ⟨sv, rfl, h⟩ := h
 have h' := h
 obtain ⟨rs, h1, h2, -⟩ := h'
 obtain ⟨-, a, c, e, -⟩ := h2.rw
 have : rs.length = m.eras.length := by rw [← h1, List.length_map]
 rw [this] at e
 subst e
 exact ⟨a, c, rfl, h⟩
theorem FullR.row {base : Nat} {v t : Value} (h : FullR W base (.agg #[v, t])) : Full W base v := by
 obtain ⟨sv, t', e, h⟩ := h
 cases e
 exact h
theorem DB.made (h : OwEraS lo hi (.slice a m.eras.length c) m.eras W) (hF : Full W lo (.slice a m.eras.length c)) (hf : hi ≤ W.heap.size) : DB (W.alloc (.cells #[.slice a m.eras.length c, .int .i64 m.trim] 42)) W.heap.size lo hi m a c :=
 have hb : Below W.heap.size W (W.alloc (.cells #[.slice a m.eras.length c, .int .i64 m.trim] 42)) := (Below.refl _ _).alloc (Nat.le_refl _) _
 ⟨(BxZ.new (B := 0) W [.slice a m.eras.length c, .int .i64 m.trim] 42 (Nat.zero_le _)), OwK.belowE h hf hb, hF.below hb, by have := hb.size; omega, .inr hf⟩
theorem DB.put {x y : Value} {B : Nat} (h : OwEraS lo hi (.slice a m.eras.length c) m.eras W) (hF : Full W lo (.slice a m.eras.length c)) (hf : hi ≤ W.heap.size) (X : BxZ W B b [x, y]) (hb : b < lo ∨ hi ≤ b) :
  DB ((W.setCell ⟨b, 0, none⟩ (.slice a m.eras.length c)).setCell ⟨b, 1, none⟩ (.int .i64 m.trim)) b lo hi m a c := by
 have hf1 : hi ≤ (W.setCell ⟨b, 0, none⟩ (.slice a m.eras.length c)).heap.size := by rw [World.size_setCell]; exact hf
 refine ⟨⟨Nat.zero_le _, ((X.put 0 (.slice a m.eras.length c)).put 1 (.int .i64 m.trim)).2⟩, OwK.setE (OwK.setE h hf hb _) hf1 hb _, (hF.set _ _ _).set _ _ _, by rw [World.size_setCell]; exact hf1, hb⟩
theorem Ns.setFar7 {v : Value} {xs : List Int} (h : Ns W v xs) {b' o : Nat} (hb : xs = [] ∨ bO v ≠ b') (u : Value) : Ns (W.setCell ⟨b', o, none⟩ u) v xs := by
 obtain ⟨h0, a, cap, rfl, hcap, h⟩ := h
 refine ⟨h0, a, cap, rfl, hcap, ?_⟩
 rcases hb with h' | hb
 ·exact .inl h'
 ·rcases h with h | ⟨b, off, rfl, hc⟩
  ·exact .inl h
  ·exact .inr ⟨b, off, rfl, fun i hi => sO (hc i hi) (.inl hb)⟩
structure D7 (w : World) (bk : Nat) (ca : Option Addr) (cc : Nat) (ds : List Int) (cop : Int) (W : World) (B n : Nat) (m : Rg) (a : Option Addr) (c : Nat) : Prop where
 cur : Cur W bk
 drawn : Drawn bk w W
 cfg : Bx W w.heap.size [.slice ca ds.length cc, .int .i64 cop]
 ns : Ns W (.slice ca ds.length cc) ds
 res : BxZ W w.heap.size (w.heap.size + 1) [.slice none 0 0, .int .i64 0]
 reg : DB W (w.heap.size + 1 + 1) (w.heap.size + 3) B m a c
 fit : fitD n m
variable {w : World} {ca : Option Addr} {cc : Nat} {ds : List Int} {cop : Int} {B n bo : Nat}
theorem D7.move (h : D7 w bk ca cc ds cop W B n m a c) (hk : bk < w.heap.size) (hne : ds = [] ∨ bO (.slice ca ds.length cc) ≠ bk) (hc : Cur W' bk) (hd : Drawn bk W W') : D7 w bk ca cc ds cop W' B n m a c :=
 ⟨hc, h.drawn.trans hd, h.cfg.drawn hd (by omega), h.ns.drawn hd hne, h.res.drawn hd (by omega), h.reg.drawn hd (by omega) (by omega), h.fit⟩
theorem D7.below (h : D7 w bk ca cc ds cop W B n m a c) (hb : Below W.heap.size W W') : D7 w bk ca cc ds cop W' B n m a c :=
 ⟨h.cur.below hb, h.drawn.trans (Drawn.of_below hb), h.cfg.below hb, h.ns.below hb, h.res.below hb, h.reg.below hb, h.fit⟩
theorem D7.set (h : D7 w bk ca cc ds cop W B n m a c) (hk : bk < w.heap.size) (hw : ds = [] ∨ bO (.slice ca ds.length cc) < w.heap.size) (h1 : B ≤ bo) (h2 : w.heap.size + 3 ≤ bo) (o : Nat) (u : Value) : D7 w bk ca cc ds cop (W.setCell ⟨bo, o, none⟩ u) B n m a c :=
 ⟨h.cur.setNew4 (by omega) _ _, h.drawn.setNew (by omega) _ _, h.cfg.farB (by omega) _, Ns.setFar7 h.ns (by rcases hw with h | h; exact .inl h; exact .inr (by omega)) _, h.res.far (by omega) _, h.reg.set (by omega) (.inr h1) _, h.fit⟩
theorem D7.cells (h : D7 w bk ca cc ds cop W B n m a c) : W.cell? ⟨w.heap.size, 0, none⟩ = some (.slice ca ds.length cc) ∧ W.cell? ⟨w.heap.size, 1, none⟩ = some (.int .i64 cop) ∧ W.cell? ⟨w.heap.size + 1 + 1, 0, none⟩ = some (.slice a m.eras.length c) ∧ W.cell? ⟨w.heap.size + 1 + 1, 1, none⟩ = some (.int .i64 m.trim) :=
 ⟨h.cfg 0 _ rfl, h.cfg 1 _ rfl, (h.reg.box.2 0 _ rfl).1, (h.reg.box.2 1 _ rfl).1⟩
theorem D7.weak {B' n' : Nat} (h : D7 w bk ca cc ds cop W B n m a c) (h1 : B ≤ B') (h2 : B' ≤ W.heap.size) (hn : n ≤ n') : D7 w bk ca cc ds cop W B' n' m a c :=
 ⟨h.cur, h.drawn, h.cfg, h.ns, h.res, h.reg.weak h1 h2 (by omega), h.fit.more hn⟩
end Go.Proofs.YtjkjmapibcfcdaaGreat
