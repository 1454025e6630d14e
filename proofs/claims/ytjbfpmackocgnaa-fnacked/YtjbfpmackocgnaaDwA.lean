/- Writers drawn: how great they are, and what a draw keeps of them. -/
import Derived.Test.YtjbfpmackocgnaaWrR
import Derived.Test.YtjbfpmackocgnaaOpenW
import Derived.Test.YtjbfpmackocgnaaDrawP
import Derived.Test.YtjbfpmackocgnaaDrwE
import Derived.Test.YtjbfpmackocgnaaBoxR
namespace Go.Proofs.Ytjbfpmackocgnaa
open Go.ChangeShapes Go.WideShapes Go.ChangeAt Go.RowKit
set_option linter.unusedVariables false
set_option linter.unusedSimpArgs false
set_option maxRecDepth 100000

/-- A word that was drawn. -/
def fitW1 (n : Nat) (e : Wd) : Prop := e.data.size ≤ 41 ∧ e.acks.length ≤ n ∧ allInt e.acks
/-- A writer that was drawn. -/
def fitW (n : Nat) (m : Wt) : Prop := m.words.length ≤ n ∧ (∀ e ∈ m.words, fitW1 n e) ∧ -9223372036854775808 ≤ m.epoch ∧ m.epoch ≤ 9223372036854775807
theorem fitW.ok {n : Nat} {m : Wt} (h : fitW n m) : okWriter m := ⟨fun e he => by
  obtain ⟨h1, h2, h3⟩ := h.2.1 e he
  exact ⟨h3, by omega⟩, h.2.2⟩
theorem sumW_fit {n : Nat} {ms : List Wd} (h : ∀ e ∈ ms, fitW1 n e) : sumW ms ≤ n * ms.length ∧ sumX ms ≤ 41 * ms.length := by
  induction ms with
  | nil => simp [sumW, sumX]
  | cons e ms ih =>
    have h1 := h e (List.mem_cons_self ..)
    have h2 := ih fun y hy => h y (List.mem_cons_of_mem _ hy)
    have e1 : sumW (e :: ms) = e.acks.length + sumW ms := by simp [sumW]
    have e2 : sumX (e :: ms) = e.data.size + sumX ms := by simp [sumX]
    rw [e1, e2, List.length_cons, Nat.mul_add]
    have := h1.1
    have := h1.2.1
    omega
theorem fitW.siz {n : Nat} {m : Wt} (h : fitW n m) (hn : n ≤ 100) : sizWriter m ≤ 1048576 := by
  have h1 := sumW_fit h.2.1
  have h2 := h.1
  have h3 : n * m.words.length ≤ 100 * 100 := Nat.mul_le_mul hn (by omega)
  unfold sizWriter sizWordS
  omega
theorem fitW.more {n n' : Nat} {m : Wt} (h : fitW n m) (hn : n ≤ n') : fitW n' m := ⟨Nat.le_trans h.1 hn, fun e he => ⟨(h.2.1 e he).1, Nat.le_trans (h.2.1 e he).2.1 hn, (h.2.1 e he).2.2⟩, h.2.2⟩
theorem fitW_zero (n : Nat) : fitW n zeroWt := ⟨Nat.zero_le _, (fun e he => by cases he), by decide, by decide⟩
theorem fitW.added {n : Nat} {m : Wt} {ds : List Int} {cop : Int} {d : ByteArray} (h : fitW n m) (hd : d.size ≤ 41) : fitW (n + 1) (addM ds cop m d).1 := by
  by_cases hp : wrP ds cop m
  · by_cases ho : wrP ds cop (addW m d)
    · rw [addM_yes hp ho]
      have h' := h.more (Nat.le_succ n)
      refine ⟨by simp only [addW, List.length_append, List.length_singleton]; have := h.1; omega, fun e he => ?_, h.2.2⟩
      simp only [addW] at he
      rcases List.mem_append.1 he with he | he
      · exact h'.2.1 e he
      · obtain rfl : e = ⟨d, [], false⟩ := by simpa using he
        exact ⟨hd, Nat.zero_le _, fun z hz => by cases hz⟩
    · rw [addM_no hp ho]; exact h.more (by omega)
  · rw [addM_bad hp]; exact fitW_zero _
theorem fitW.acked {n : Nat} {m : Wt} {ds : List Int} {cop off x : Int} (h : fitW n m) (hx : okInt x) : fitW (n + 1) (ackM ds cop m off x).1 := by
  by_cases hp : wrP ds cop m
  · by_cases ho : ackP ds m.words off x
    · rw [ackM_yes hp ho]
      have h' := h.more (Nat.le_succ n)
      refine ⟨by simp only [ackL, List.length_set]; exact h'.1, fun e he => ?_, h.2.2⟩
      simp only [ackL] at he
      rcases List.mem_or_eq_of_mem_set he with he | he
      · exact h'.2.1 e he
      · rw [he]
        have hk : off.toNat - 1 < m.words.length := by have := ho.1; omega
        have q := h.2.1 _ (List.getElem_mem hk)
        unfold ackW atW
        rw [getD_lt _ hk]
        refine ⟨q.1, ?_, fun z hz => ?_⟩
        · have := putL_len x m.words[off.toNat - 1].acks
          have := q.2.1
          simp only
          omega
        · rcases mem_putL.1 hz with rfl | hz
          · exact hx
          · exact q.2.2 z hz
    · rw [ackM_no hp ho]; exact h.more (by omega)
  · rw [ackM_bad hp]; exact fitW_zero _
theorem ApR.same {α : Type} {T : TypeId} {sz : Nat} {cl : α → List Value} {w w' : World} {base : Nat} {v : Value} {ms : List α} (h : ApR T sz cl w base v ms) (heq : ∀ b, touch v = some b → w'.heap[b]? = w.heap[b]?) : ApR T sz cl w' base v ms := by
  rcases h with h | h
  · exact .inl h
  · rcases h.2 with ⟨rfl, h0⟩ | ⟨g, cap, cur, rfl, hb, hg, hnc, hcm, hcs, htk⟩
    · exact .inr ⟨h.1, .inl ⟨rfl, h0⟩⟩
    · by_cases hc : cap = 0
      · have e0 : ms = [] := List.length_eq_zero_iff.1 (by omega)
        subst e0
        subst hc
        exact .inl ⟨rfl, _, rfl⟩
      · exact .inr ⟨h.1, .inr ⟨g, cap, cur, rfl, hb, (heq g (by simp [touch, hc])).trans hg, hnc, hcm, hcs, htk⟩⟩
theorem OwnN.same {w w' : World} {base : Nat} {v : Value} {xs : List Int} (h : OwnN w base v xs) (heq : xs = [] ∨ w'.heap[blockOf v]? = w.heap[blockOf v]?) : OwnN w' base v xs := by
  obtain ⟨h0, a, cap, rfl, hcap, h⟩ := h
  refine ⟨h0, a, cap, rfl, hcap, ?_⟩
  rcases heq with hn | hn
  · exact .inl hn
  · rcases h with h | ⟨b, off, rfl, hb, hc⟩
    · exact .inl h
    · exact .inr ⟨b, off, rfl, hb, fun i hi => ⟨(World.cell?_of_block (a := ⟨b, off + i, none⟩) hn).trans (hc i hi).1, (World.frozen?_of_block (a := ⟨b, off + i, none⟩) hn).trans (hc i hi).2⟩⟩
/-- Words that may be appended to, in the blocks lo .. hi - 1. -/
def WIn (lo hi : Nat) (v : Value) (ms : List Wd) (W : World) : Prop := ∃ rs : List (Nst Wd), rs.map Nst.m = ms ∧ WPs W lo v rs ∧ (∀ b, touch v = some b → b < hi) ∧ ∀ p ∈ rs, p.m.acks = [] ∨ blockOf (Sv Wd.acks p) < hi
theorem WAp.in_ {W : World} {lo : Nat} {v : Value} {ms : List Wd} (h : WAp W lo v ms) : WIn lo W.heap.size v ms W := by
  have ht := fun b (hb : touch v = some b) => (h.touched hb).2
  obtain ⟨rs, h1, h2⟩ := h
  exact ⟨rs, h1, h2, ht, fun p hp => (h2.2.1 p hp).bs.lt⟩
theorem WIn.ap {W : World} {lo hi : Nat} {v : Value} {ms : List Wd} (h : WIn lo hi v ms W) : WAp W lo v ms := by
  obtain ⟨rs, h1, h2, -⟩ := h
  exact ⟨rs, h1, h2⟩
theorem WIn.same {W W' : World} {lo hi : Nat} {v : Value} {ms : List Wd} (h : WIn lo hi v ms W) (heq : ∀ k, lo ≤ k → k < hi → W'.heap[k]? = W.heap[k]?) : WIn lo hi v ms W' := by
  have ht := fun b (hb : touch v = some b) => (h.ap.touched hb).1
  obtain ⟨rs, h1, ⟨h2, h3, h4⟩, h5, h6⟩ := h
  refine ⟨rs, h1, ⟨h2.same fun b hb => heq b (ht b hb) (h5 b hb), fun p hp => (h3 p hp).same ?_, h4⟩, h5, h6⟩
  rcases h6 p hp with h | h
  · exact .inl h
  · rcases (h3 p hp).ge with h' | h'
    · exact .inl h'
    · exact .inr (heq _ h' h)
theorem WIn.wide {W : World} {lo hi lo' hi' : Nat} {v : Value} {ms : List Wd} (h : WIn lo hi v ms W) (h1 : lo' ≤ lo) (h2 : hi ≤ hi') : WIn lo' hi' v ms W := by
  obtain ⟨rs, e1, e2, e3, e4⟩ := h
  exact ⟨rs, e1, e2.mono h1, fun b hb => Nat.lt_of_lt_of_le (e3 b hb) h2, fun p hp => (e4 p hp).imp id fun h => Nat.lt_of_lt_of_le h h2⟩
theorem WIn.rd {W : World} {lo hi : Nat} {v : Value} {ms : List Wd} (h : WIn lo hi v ms W) : RdWordS v ms W := OwK.rd h.ap.ow
theorem WIn.shape {W : World} {lo hi : Nat} {v : Value} {ms : List Wd} (h : WIn lo hi v ms W) : ∃ a c, v = .slice a ms.length c := h.ap.slice
/-- A writer that a box at b holds, its words in the blocks lo .. hi - 1, apart from the box. -/
structure DV (W : World) (b lo hi : Nat) (m : Wt) (a : Option Addr) (c : Nat) : Prop where
  box : BxZ W 0 b [.int .i64 m.epoch, .slice a m.words.length c]
  own : WIn lo hi (.slice a m.words.length c) m.words W
  fit : hi ≤ W.heap.size
  apart : b < lo ∨ hi ≤ b
variable {W W' : World} {b lo hi bk : Nat} {m : Wt} {a : Option Addr} {c : Nat}
theorem DV.below (h : DV W b lo hi m a c) (hb : Below W.heap.size W W') : DV W' b lo hi m a c :=
  ⟨h.box.below hb, h.own.same fun k h1 h2 => hb.block k (by have := h.fit; omega), by have := h.fit; have := hb.size; omega, h.apart⟩
theorem DV.drawn (h : DV W b lo hi m a c) (hd : Drawn bk W W') (h1 : bk < lo) (h2 : b ≠ bk) : DV W' b lo hi m a c :=
  ⟨h.box.drawn hd h2, h.own.same fun k h3 h4 => hd.block k (by have := h.fit; omega) (by omega), by have := h.fit; have := hd.size; omega, h.apart⟩
theorem DV.set (h : DV W b lo hi m a c) {b' o : Nat} (h1 : b ≠ b') (h2 : b' < lo ∨ hi ≤ b') (u : Value) : DV (W.setCell ⟨b', o, none⟩ u) b lo hi m a c :=
  ⟨h.box.far h1 u, h.own.same fun k h3 h4 => Below.heap_setCell _ _ _ k (by simp only; omega), by rw [World.size_setCell]; exact h.fit, h.apart⟩
theorem DV.rd (h : DV W b lo hi m a c) : RdWriter (.agg #[.int .i64 m.epoch, .slice a m.words.length c]) m W := ⟨_, rfl, h.own.rd⟩
theorem DV.lt (h : DV W b lo hi m a c) : b < W.heap.size := dCell_lt (h.box.2 0 _ rfl).1
theorem DV.weak {hi' : Nat} (h : DV W b lo hi m a c) (h1 : hi ≤ hi') (h2 : hi' ≤ W.heap.size) (hb : b < lo) : DV W b lo hi' m a c := ⟨h.box, h.own.wide (Nat.le_refl _) h1, h2, .inl hb⟩
/-- A box that is made for it behind it. -/
theorem DV.made (h : WIn lo hi (.slice a m.words.length c) m.words W) (hf : hi ≤ W.heap.size) : DV (W.alloc (.cells #[.int .i64 m.epoch, .slice a m.words.length c] 29)) W.heap.size lo hi m a c :=
  have hb : Below W.heap.size W (W.alloc (.cells #[.int .i64 m.epoch, .slice a m.words.length c] 29)) := (Below.refl _ _).alloc (Nat.le_refl _) _
  ⟨(BxZ.new (B := 0) W [.int .i64 m.epoch, .slice a m.words.length c] 29 (Nat.zero_le _)), h.same fun k h1 h2 => hb.block k (by omega), by have := hb.size; omega, .inr hf⟩
/-- A box that takes it. -/
theorem DV.put {x y : Value} {B : Nat} (h : WIn lo hi (.slice a m.words.length c) m.words W) (hf : hi ≤ W.heap.size) (X : BxZ W B b [x, y]) (hb : b < lo ∨ hi ≤ b) :
    DV ((W.setCell ⟨b, 0, none⟩ (.int .i64 m.epoch)).setCell ⟨b, 1, none⟩ (.slice a m.words.length c)) b lo hi m a c := by
  refine ⟨⟨Nat.zero_le _, ((X.put 0 (.int .i64 m.epoch)).put 1 (.slice a m.words.length c)).2⟩, h.same fun k h1 h2 => ?_, by rw [World.size_setCell, World.size_setCell]; exact hf, hb⟩
  rw [Below.heap_setCell _ _ _ k (by simp only; omega), Below.heap_setCell _ _ _ k (by simp only; omega)]
theorem Ns.setFar8 {v : Value} {xs : List Int} (h : Ns W v xs) {b' o : Nat} (hb : xs = [] ∨ blockOf v ≠ b') (u : Value) : Ns (W.setCell ⟨b', o, none⟩ u) v xs := by
  obtain ⟨h0, a, cap, rfl, hcap, h⟩ := h
  refine ⟨h0, a, cap, rfl, hcap, ?_⟩
  rcases hb with h' | hb
  · exact .inl h'
  · rcases h with h | ⟨b, off, rfl, hc⟩
    · exact .inl h
    · exact .inr ⟨b, off, rfl, fun i hi => set_other (hc i hi) (.inl hb)⟩
/-- What a loop of draws holds: the cursor, the configuration's box, the answer's box, and the writer's at bt, with its words in new memory below B. -/
structure D8 (w : World) (bk bt : Nat) (ca : Option Addr) (cc : Nat) (ds : List Int) (cop : Int) (W : World) (B n : Nat) (m : Wt) (a : Option Addr) (c : Nat) : Prop where
  cur : Cur W bk
  drawn : Drawn bk w W
  cfg : Bx W w.heap.size [.slice ca ds.length cc, .int .i64 cop]
  ns : Ns W (.slice ca ds.length cc) ds
  res : BxZ W w.heap.size (w.heap.size + 1) [.int .i64 0, .slice none 0 0]
  wri : DV W bt (bt + 1) B m a c
  fit : fitW n m
variable {w : World} {ca : Option Addr} {cc : Nat} {ds : List Int} {cop : Int} {B n bo bt : Nat}
theorem D8.move (h : D8 w bk bt ca cc ds cop W B n m a c) (hk : bk < w.heap.size) (ht : w.heap.size + 2 ≤ bt) (hne : ds = [] ∨ blockOf (.slice ca ds.length cc) ≠ bk) (hc : Cur W' bk) (hd : Drawn bk W W') : D8 w bk bt ca cc ds cop W' B n m a c :=
  ⟨hc, h.drawn.trans hd, h.cfg.drawn hd (by omega), h.ns.drawn hd hne, h.res.drawn hd (by omega), h.wri.drawn hd (by omega) (by omega), h.fit⟩
theorem D8.below (h : D8 w bk bt ca cc ds cop W B n m a c) (hb : Below W.heap.size W W') : D8 w bk bt ca cc ds cop W' B n m a c :=
  ⟨h.cur.below hb, h.drawn.trans (Drawn.of_below hb), h.cfg.below hb, h.ns.below hb, h.res.below hb, h.wri.below hb, h.fit⟩
theorem D8.set (h : D8 w bk bt ca cc ds cop W B n m a c) (hk : bk < w.heap.size) (ht : w.heap.size + 2 ≤ bt) (hw : ds = [] ∨ blockOf (.slice ca ds.length cc) < w.heap.size) (h1 : B ≤ bo) (h2 : bt + 1 ≤ bo) (o : Nat) (u : Value) : D8 w bk bt ca cc ds cop (W.setCell ⟨bo, o, none⟩ u) B n m a c :=
  ⟨h.cur.setNew4 (by omega) _ _, h.drawn.setNew (by omega) _ _, h.cfg.farB (by omega) _, Ns.setFar8 h.ns (by rcases hw with h | h; exact .inl h; exact .inr (by omega)) _, h.res.far (by omega) _, h.wri.set (by omega) (.inr h1) _, h.fit⟩
theorem D8.cells (h : D8 w bk bt ca cc ds cop W B n m a c) : W.cell? ⟨w.heap.size, 0, none⟩ = some (.slice ca ds.length cc) ∧ W.cell? ⟨w.heap.size, 1, none⟩ = some (.int .i64 cop) ∧ W.cell? ⟨bt, 0, none⟩ = some (.int .i64 m.epoch) ∧ W.cell? ⟨bt, 1, none⟩ = some (.slice a m.words.length c) :=
  ⟨h.cfg 0 _ rfl, h.cfg 1 _ rfl, (h.wri.box.2 0 _ rfl).1, (h.wri.box.2 1 _ rfl).1⟩
theorem D8.weak {B' n' : Nat} (h : D8 w bk bt ca cc ds cop W B n m a c) (h1 : B ≤ B') (h2 : B' ≤ W.heap.size) (hn : n ≤ n') : D8 w bk bt ca cc ds cop W B' n' m a c :=
  ⟨h.cur, h.drawn, h.cfg, h.ns, h.res, h.wri.weak h1 h2 (by omega), h.fit.more hn⟩
theorem D8.lt (h : D8 w bk bt ca cc ds cop W B n m a c) : bt < W.heap.size := h.wri.lt
variable {lo' hi' : Nat} {m' : Wt} {a' : Option Addr} {c' : Nat}
theorem D8.take {n' : Nat} (h : D8 w bk bt ca cc ds cop W B n m a c) (hk : bk < w.heap.size) (ht : w.heap.size + 2 ≤ bt) (hw : ds = [] ∨ blockOf (.slice ca ds.length cc) < w.heap.size) (N : DV W bo lo' hi' m' a' c') (hl : bt + 1 ≤ lo') (hf : fitW n' m') :
    D8 w bk bt ca cc ds cop ((W.setCell ⟨bt, 0, none⟩ (.int .i64 m'.epoch)).setCell ⟨bt, 1, none⟩ (.slice a' m'.words.length c')) W.heap.size n' m' a' c' :=
  ⟨(h.cur.setNew4 (by omega) _ _).setNew4 (by omega) _ _, (h.drawn.setNew (by omega) _ _).setNew (by omega) _ _, (h.cfg.farB (by omega) _).farB (by omega) _,
    Ns.setFar8 (Ns.setFar8 h.ns (by rcases hw with h | h; exact .inl h; exact .inr (by omega)) _) (by rcases hw with h | h; exact .inl h; exact .inr (by omega)) _, (h.res.far (by omega) _).far (by omega) _,
    DV.put (N.own.wide hl N.fit) (Nat.le_refl _) h.wri.box (.inl (by omega)), hf⟩
end Go.Proofs.Ytjbfpmackocgnaa
