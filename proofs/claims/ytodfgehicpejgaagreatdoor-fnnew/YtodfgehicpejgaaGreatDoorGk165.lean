/- Several texts in one: NsP, DomI, SitC, RgA, WrA. -/
import Derived.Test.YtodfgehicpejgaaGreatDoorGk136
import Derived.Test.YtodfgehicpejgaaGreatDoorGk181
import Derived.Laws.MakeOwn
import Derived.Test.YtodfgehicpejgaaGreatDoorGk177
import Derived.Test.YtodfgehicpejgaaGreatDoorGk172
namespace Go.Proofs.YtodfgehicpejgaaGreatDoor
open Go.ChangeShapes Go.WideShapes Go.ChangeAt Go.RowKit
set_option linter.unusedSimpArgs false
set_option linter.unusedVariables false
structure Nst (α : Type) where
 a : Option Addr
 c : Nat
 m : α
section
variable {α : Type}
def Sv (sub : α → List Int) (p : Nst α) : Value := .slice p.a (sub p.m).length p.c
def RdK (sz : Nat) (sub : α → List Int) (cl : Nst α → List Value) (v : Value) (ms : List α) (W : World) : Prop :=
 ∃ rs : List (Nst α), rs.map Nst.m = ms ∧ Rw sz cl W v rs ∧ ∀ p ∈ rs, Ns W (Sv sub p) (sub p.m)
def Apart (sub : α → List Int) (v : Value) (rs : List (Nst α)) : Prop :=
 (∀ i j (hi : i < rs.length) (hj : j < rs.length), i ≠ j → sub rs[i].m = [] ∨ sub rs[j].m = [] ∨ bO (Sv sub rs[i]) ≠ bO (Sv sub rs[j])) ∧ ∀ i (hi : i < rs.length), sub rs[i].m = [] ∨ bO (Sv sub rs[i]) ≠ bO v
def OwK (sz : Nat) (sub : α → List Int) (cl : Nst α → List Value) (lo hi : Nat) (v : Value) (ms : List α) (W : World) : Prop :=
 ∃ rs : List (Nst α), rs.map Nst.m = ms ∧ OwnRw sz cl W lo v rs ∧ (rs = [] ∨ bO v < hi) ∧ (∀ p ∈ rs, OwN lo hi (Sv sub p) (sub p.m) W) ∧ Apart sub v rs
variable {sz : Nat} {sub : α → List Int} {cl : Nst α → List Value} {v : Value} {ms : List α} {W W' : World} {lo hi : Nat}
theorem RdK.below (h : RdK sz sub cl v ms W) (b : Below W.heap.size W W') : RdK sz sub cl v ms W' := by
 obtain ⟨rs, h1, h2, h3⟩ := h
 exact ⟨rs, h1, h2.below b, fun p hp => (h3 p hp).below b⟩
theorem OwK.rd (h : OwK sz sub cl lo hi v ms W) : RdK sz sub cl v ms W := by
 obtain ⟨rs, h1, h2, -, h3, -⟩ := h
 exact ⟨rs, h1, h2.rw, fun p hp => (h3 p hp).rd⟩
theorem formK (h : RdK sz sub cl v ms W) : ∃ a cap, v = .slice a ms.length cap ∧ ms.length ≤ 9223372036854775807 := by
 obtain ⟨rs, rfl, ⟨h0, a, cap, rfl, -, -⟩, -⟩ := h
 exact ⟨a, cap, by simp, by simpa using h0⟩
theorem OwnRw.sitsR {rs : List (Nst α)} (h : OwnRw sz cl W lo v rs) (hl : rs = [] ∨ bO v < hi) (hW : ∀ k, lo ≤ k → k < hi → W'.heap[k]? = W.heap[k]?) : OwnRw sz cl W' lo v rs := by
 obtain ⟨h0, a, cap, rfl, hcap, h⟩ := h
 refine ⟨h0, a, cap, rfl, hcap, ?_⟩
 rcases hl with hl | hl
 ·exact .inl hl
 ·rcases h with h | ⟨b, off, rfl, hb, hc⟩
  ·exact .inl h
  ·have e := hW b hb hl
   exact .inr ⟨b, off, rfl, hb, fun i hi j u hu => ⟨(World.cell?_of_block (a := ⟨b, off + i * sz + j, none⟩) e).trans (hc i hi j u hu).1, (World.frozen?_of_block (a := ⟨b, off + i * sz + j, none⟩) e).trans (hc i hi j u hu).2⟩⟩
theorem OwK.sits (h : OwK sz sub cl lo hi v ms W) (hf : hi ≤ W.heap.size) : Sits (OwK sz sub cl lo hi v ms) lo hi W := by
 obtain ⟨rs, h1, h2, h3, h4, h5⟩ := h
 refine ⟨hf, fun w' hW => ⟨rs, h1, h2.sitsR h3 hW, h3, fun p hp => ((h4 p hp).sits hf).all w' hW, h5⟩⟩
theorem OwK.wide {lo' hi' : Nat} (h : OwK sz sub cl lo hi v ms W) (h1 : lo' ≤ lo) (h2 : hi ≤ hi') : OwK sz sub cl lo' hi' v ms W := by
 obtain ⟨rs, e1, e2, e3, e4, e5⟩ := h
 refine ⟨rs, e1, e2.mono h1, ?_, fun p hp => ⟨(e4 p hp).1.mono h1, ?_⟩, e5⟩
 ·rcases e3 with h | h
  ·exact .inl h
  ·exact .inr (by omega)
 ·rcases (e4 p hp).2 with h | h
  ·exact .inl h
  ·exact .inr (by omega)
theorem OwnRw.ltG {rs : List (Nst α)} (hcl : ∀ p, (cl p).length = sz) (hs : 0 < sz) (h : OwnRw sz cl W lo v rs) : rs = [] ∨ bO v < W.heap.size := by
 obtain ⟨-, a, cap, rfl, -, h⟩ := h
 rcases h with h | ⟨b, off, rfl, hb, hc⟩
 ·exact .inl h
 ·rcases Nat.eq_zero_or_pos rs.length with h1 | h1
  ·exact .inl (List.length_eq_zero_iff.1 h1)
  ·obtain ⟨u, hu⟩ : ∃ u, (cl rs[0])[0]? = some u := ⟨_, List.getElem?_eq_getElem (by rw [hcl rs[0]]; exact hs)⟩
   exact .inr (dCell_lt (hc 0 h1 0 u hu).1)
theorem OwnRw.geG {rs : List (Nst α)} (h : OwnRw sz cl W lo v rs) : rs = [] ∨ lo ≤ bO v := by
 obtain ⟨-, a, cap, rfl, -, h⟩ := h
 rcases h with h | ⟨b, off, rfl, hb, hc⟩
 ·exact .inl h
 ·exact .inr hb
theorem Rw.el {a : Option Addr} {n cap : Nat} {rs : List (Nst α)} (h : Rw sz cl W (.slice a n cap) rs) {k : Nat} (hk : k < rs.length) : ∃ b off, a = some ⟨b, off, none⟩ ∧ ∀ i (hi : i < rs.length) j u, (cl rs[i])[j]? = some u → W.cell? ⟨b, off + i * sz + j, none⟩ = some u := by
 obtain ⟨-, a', cap', e, -, h⟩ := h
 cases e
 obtain ⟨b, off, rfl, hc⟩ := orR_of_lt h hk
 exact ⟨b, off, rfl, hc⟩
end
section
variable {β : Type} {sz : Nat} {cl : β → List Value} {w w' : World} {b off n k : Nat} {f : Nat → β}
def RowG (sz : Nat) (cl : β → List Value) (w : World) (b off n : Nat) (f : Nat → β) : Prop := ∀ i, i < n → ∀ j u, (cl (f i))[j]? = some u → w.cell? ⟨b, off + i * sz + j, none⟩ = some u ∧ w.frozen? ⟨b, off + i * sz + j, none⟩ = false
def putG (f : Nat → β) (k : Nat) (e : β) : Nat → β := fun i => if i = k then e else f i
theorem putG_same (f : Nat → β) (k : Nat) (e : β) : putG f k e k = e := if_pos rfl
theorem putG_ne (f : Nat → β) {k i : Nat} (e : β) (h : i ≠ k) : putG f k e i = f i := if_neg h
theorem putG_twice (f : Nat → β) (k : Nat) (e e' : β) : putG (putG f k e) k e' = putG f k e' := by
 funext i
 unfold putG
 split <;> rfl
theorem RowG.below (h : RowG sz cl w b off n f) (hb : Below w.heap.size w w') : RowG sz cl w' b off n f := fun i hi j u hu =>
 ⟨(hb.cell (p := ⟨b, off + i * sz + j, none⟩) (dCell_lt (h i hi j u hu).1)).trans (h i hi j u hu).1, (hb.frozen (p := ⟨b, off + i * sz + j, none⟩) (dCell_lt (h i hi j u hu).1)).trans (h i hi j u hu).2⟩
theorem RowG.wr {lo hi : Nat} (h : RowG sz cl w b off n f) (hw : Wr lo hi w w') (hne : b < lo ∨ hi ≤ b) : RowG sz cl w' b off n f := fun i hi j u hu => by
 have e := hw.block b (dCell_lt (h i hi j u hu).1) hne
 exact ⟨(World.cell?_of_block (a := ⟨b, off + i * sz + j, none⟩) e).trans (h i hi j u hu).1, (World.frozen?_of_block (a := ⟨b, off + i * sz + j, none⟩) e).trans (h i hi j u hu).2⟩
theorem RowG.put (h : RowG sz cl w b off n f) (hcl : ∀ p, (cl p).length = sz) (hk : k < n) (j : Nat) (hj : j < sz) (u : Value) (e : β) (he : cl e = (cl (f k)).set j u) : RowG sz cl (w.setCell ⟨b, off + k * sz + j, none⟩ u) b off n (putG f k e) := fun i hi j' u' hu => by
 have hf : ∀ a, (w.setCell ⟨b, off + k * sz + j, none⟩ u).frozen? a = w.frozen? a := fun a => World.frozen?_setCell _ _ _ _
 have hj' : j' < sz := by
  rcases Nat.lt_or_ge j' sz with h' | h'
  ·exact h'
  ·rw [List.getElem?_eq_none (by rw [hcl]; exact h')] at hu
   cases hu
 have old : ∀ i' (hi' : i' < n) j'', j'' < sz → ∃ x, (cl (f i'))[j'']? = some x := fun i' hi' j'' hj'' => ⟨_, List.getElem?_eq_getElem (by rw [hcl]; exact hj'')⟩
 rw [hf]
 by_cases e1 : i = k
 ·subst e1
  rw [putG_same, he] at hu
  by_cases e2 : j' = j
  ·subst e2
   rw [List.getElem?_set_self (by rw [hcl]; exact hj)] at hu
   cases hu
   obtain ⟨x, hx⟩ := old i hi j' hj
   exact ⟨World.cell?_setCell_same _ _ _ (h i hi j' x hx).1, (h i hi j' x hx).2⟩
  ·rw [List.getElem?_set_ne (by omega)] at hu
   exact ⟨sO (h i hi j' u' hu).1 (by omega), (h i hi j' u' hu).2⟩
 ·rw [putG_ne _ _ e1] at hu
  refine ⟨sO (h i hi j' u' hu).1 (.inr ?_), (h i hi j' u' hu).2⟩
  intro e3
  have e4 : i * sz + j' = k * sz + j := by omega
  have hs : 0 < sz := by omega
  have d1 : (i * sz + j') / sz = i := by rw [Nat.mul_comm, Nat.mul_add_div hs, Nat.div_eq_of_lt hj', Nat.add_zero]
  have d2 : (k * sz + j) / sz = k := by rw [Nat.mul_comm, Nat.mul_add_div hs, Nat.div_eq_of_lt hj, Nat.add_zero]
  rw [e4, d2] at d1
  exact e1 d1.symm
theorem RowG.own {base cap : Nat} {es : List β} (h : RowG sz cl w b off n f) (hn : n = es.length) (hf : ∀ i (hi : i < es.length), f i = es[i]) (hb : base ≤ b) (hl : es.length ≤ 9223372036854775807) (hc : es.length ≤ cap ∧ cap ≤ 9223372036854775807) : OwnRw sz cl w base (.slice (some ⟨b, off, none⟩) es.length cap) es := by
 refine ⟨hl, some ⟨b, off, none⟩, cap, rfl, hc, .inr ⟨b, off, rfl, hb, fun i hi j u hu => ?_⟩⟩
 subst hn
 exact h i hi j u (by rw [hf i hi]; exact hu)
theorem OwnRw.rowG {base n cap : Nat} {a : Option Addr} {es : List β} (h : OwnRw sz cl w base (.slice a n cap) es) (hp : 0 < es.length) (z : β) : ∃ b off, a = some ⟨b, off, none⟩ ∧ base ≤ b ∧ RowG sz cl w b off es.length (fun i => es.getD i z) := by
 obtain ⟨-, a', cap', e, -, h⟩ := h
 cases e
 obtain ⟨b, off, rfl, hb, hc⟩ := orR_of_lt h hp
 refine ⟨b, off, rfl, hb, fun i hi j u hu => hc i hi j u ?_⟩
 dsimp only at hu
 rw [List.getD_eq_getElem?_getD, List.getElem?_eq_getElem hi] at hu
 exact hu
theorem madeG_at (zc : Array Value) (n i j : Nat) (u : Value) (hz : zc.size = sz) (hi : i < n) (hu : zc[j]? = some u) : (madeCells zc (n * sz))[i * sz + j]? = some u := by
 have hj : j < sz := by
  rcases Nat.lt_or_ge j sz with h | h
  ·exact h
  ·rw [Array.getElem?_eq_none (by omega)] at hu
   cases hu
 have h1 : i * sz + j < n * sz := by
  have : (i + 1) * sz ≤ n * sz := Nat.mul_le_mul_right _ hi
  rw [Nat.add_mul] at this
  omega
 have h2 : (i * sz + j) % sz = j := by rw [Nat.mul_comm, Nat.mul_add_mod, Nat.mod_eq_of_lt hj]
 have h3 : j < zc.size := by omega
 have hx : zc[j] = u := by rw [Array.getElem?_eq_getElem h3] at hu; exact Option.some.inj hu
 subst hz
 simp [madeCells, h1, h2, hx, h3]
theorem RowG.made (w : World) (zc : Array Value) (n : Nat) (T : TypeId) (z : β) (hz : zc.size = sz) (hc : ∀ (j : Nat) (u : Value), (cl z)[j]? = some u → zc[j]? = some u) : RowG sz cl (w.alloc (.cells (madeCells zc (n * sz)) T)) w.heap.size 0 n (fun _ => z) := fun i hi j u hu => by
 have := MapKept.heap_alloc w (.cells (madeCells zc (n * sz)) T)
 refine ⟨?_, ?_⟩
 ·simp only [World.cell?, this.1]
  rw [Nat.zero_add]
  exact madeG_at zc n i j u hz hi (hc j u hu)
 ·simp only [World.frozen?, this.1]
  simp
end
def TwoZ (w : World) (B b : Nat) (c0 c1 : Value) : Prop := B ≤ b ∧ Two w b c0 c1 ∧ w.frozen? ⟨b, 0, none⟩ = false ∧ w.frozen? ⟨b, 1, none⟩ = false
theorem TwoZ.kept {w w' : World} {B b : Nat} {c0 c1 : Value} (h : TwoZ w B b c0 c1) (hb : Below w.heap.size w w') : TwoZ w' B b c0 c1 := by
 obtain ⟨h0, h1, f0, f1⟩ := h
 have lt := dCell_lt h1.1
 exact ⟨h0, h1.kept hb, (hb.frozen (p := ⟨b, 0, none⟩) lt).trans f0, (hb.frozen (p := ⟨b, 1, none⟩) lt).trans f1⟩
theorem TwoZ.drawn {w w' : World} {bk B b : Nat} {c0 c1 : Value} (h : TwoZ w B b c0 c1) (hd : Drawn bk w w') (hb : b ≠ bk) : TwoZ w' B b c0 c1 := by
 obtain ⟨h0, ⟨k0, k1⟩, f0, f1⟩ := h
 have lt := dCell_lt k0
 exact ⟨h0, ⟨hd.cell k0 hb, hd.cell k1 hb⟩, (hd.frozen hb lt).trans f0, (hd.frozen hb lt).trans f1⟩
theorem TwoZ.fresh (w : World) (c0 c1 : Value) (T : TypeId) : TwoZ (w.alloc (.cells #[c0, c1] T)) w.heap.size w.heap.size c0 c1 := ⟨Nat.le_refl _, Two.new w _ _ _, by simp, by simp⟩
theorem TwoZ.put0 {w : World} {B b : Nat} {c0 c1 : Value} (h : TwoZ w B b c0 c1) (v : Value) : TwoZ (w.setCell ⟨b, 0, none⟩ v) B b v c1 := by
 obtain ⟨h0, ⟨k0, k1⟩, f0, f1⟩ := h
 exact ⟨h0, ⟨World.cell?_setCell_same _ _ _ k0, sO k1 (by omega)⟩, (World.frozen?_setCell _ _ _ _).trans f0, (World.frozen?_setCell _ _ _ _).trans f1⟩
theorem TwoZ.put1 {w : World} {B b : Nat} {c0 c1 : Value} (h : TwoZ w B b c0 c1) (v : Value) : TwoZ (w.setCell ⟨b, 1, none⟩ v) B b c0 v := by
 obtain ⟨h0, ⟨k0, k1⟩, f0, f1⟩ := h
 exact ⟨h0, ⟨sO k0 (by omega), World.cell?_setCell_same _ _ _ k1⟩, (World.frozen?_setCell _ _ _ _).trans f0, (World.frozen?_setCell _ _ _ _).trans f1⟩
theorem TwoZ.far {w : World} {B b b' o : Nat} {c0 c1 : Value} (h : TwoZ w B b c0 c1) (hb : b ≠ b') (v : Value) : TwoZ (w.setCell ⟨b', o, none⟩ v) B b c0 c1 := by
 obtain ⟨h0, ⟨k0, k1⟩, f0, f1⟩ := h
 exact ⟨h0, ⟨sO k0 (by omega), sO k1 (by omega)⟩, (World.frozen?_setCell _ _ _ _).trans f0, (World.frozen?_setCell _ _ _ _).trans f1⟩
def RdIntS (v : Value) (m : List Int) (W : World) : Prop := Ns W v m
def OwIntS (lo hi : Nat) (v : Value) (m : List Int) (W : World) : Prop := OwN lo hi v m W
def sizIntS (m : List Int) : Nat := m.length
theorem OwIntS.rd {lo hi : Nat} {v : Value} {m : List Int} {W : World} (h : OwIntS lo hi v m W) : RdIntS v m W := OwN.rd h
theorem RdIntS.below {v : Value} {m : List Int} {W W' : World} (h : RdIntS v m W) (b : Below W.heap.size W W') : RdIntS v m W' := Ns.below h b
def RdConfig (v : Value) (m : List Int × Int) (W : World) : Prop := ∃ sv, v = .agg #[sv, .int .i64 m.2] ∧ Ns W sv m.1
def OwConfig (lo hi : Nat) (v : Value) (m : List Int × Int) (W : World) : Prop := ∃ sv, v = .agg #[sv, .int .i64 m.2] ∧ OwN lo hi sv m.1 W
def sizConfig (m : List Int × Int) : Nat := m.1.length
theorem OwConfig.rd {lo hi : Nat} {v : Value} {m : List Int × Int} {W : World} (h : OwConfig lo hi v m W) : RdConfig v m W := by
 obtain ⟨sv, h1, h2⟩ := h; exact ⟨sv, h1, h2.rd⟩
theorem RdConfig.below {v : Value} {m : List Int × Int} {W W' : World} (h : RdConfig v m W) (b : Below W.heap.size W W') : RdConfig v m W' := by
 obtain ⟨sv, h1, h2⟩ := h; exact ⟨sv, h1, h2.below b⟩
theorem formConfig {v : Value} {m : List Int × Int} {W : World} (h : RdConfig v m W) : ∃ a cap, v = .agg #[.slice a m.1.length cap, .int .i64 m.2] ∧ m.1.length ≤ 9223372036854775807 := by
 obtain ⟨sv, rfl, h0, a, cap, rfl, -, -⟩ := h
 exact ⟨a, cap, rfl, h0⟩
def okConfig (m : List Int × Int) : Prop := allInt m.1 ∧ -9223372036854775808 ≤ m.2 ∧ m.2 ≤ 9223372036854775807
structure Er where
 nodes : List Int
 closed : Bool
 last : Int
structure Rg where
 eras : List Er
 trim : Int
def erCl (p : Nst Er) : List Value := [Sv Er.nodes p, .bool p.m.closed, .int .i64 p.m.last]
theorem erCl_len (p : Nst Er) : (erCl p).length = 3 := rfl
theorem elemR : Elem (α := Nst Er) 137 29 (.agg #[.slice none 0 0, .bool false, .int .i64 0]) 3 40 erCl where
 under := Tryz.underlying29
 info := by kernel_rfl
 zcells := by kernel_rfl
 pos := by decide
 len := erCl_len
 one := fun a u hu => by
  simp only [erCl, List.mem_cons, List.not_mem_nil, or_false] at hu
  rcases hu with rfl | rfl | rfl <;> rfl
def ErAt (w : World) (b o : Nat) (p : Nst Er) : Prop := w.cell? ⟨b, o, none⟩ = some (.slice p.a p.m.nodes.length p.c) ∧ w.cell? ⟨b, o + 1, none⟩ = some (.bool p.m.closed) ∧ w.cell? ⟨b, o + 2, none⟩ = some (.int .i64 p.m.last)
theorem ErAt.below {w w' : World} {b o : Nat} {p : Nst Er} (h : ErAt w b o p) (hb : Below w.heap.size w w') : ErAt w' b o p :=
 ⟨(hb.cell (p := ⟨b, o, none⟩) (dCell_lt h.1)).trans h.1, (hb.cell (p := ⟨b, o + 1, none⟩) (dCell_lt h.2.1)).trans h.2.1, (hb.cell (p := ⟨b, o + 2, none⟩) (dCell_lt h.2.2)).trans h.2.2⟩
theorem Rw.era {w : World} {a : Option Addr} {n cap : Nat} {rs : List (Nst Er)} (h : Rw 3 erCl w (.slice a n cap) rs) {k : Nat} (hk : k < rs.length) : ∃ b off, a = some ⟨b, off, none⟩ ∧ ∀ i (hi : i < rs.length), ErAt w b (off + i * 3) rs[i] := by
 obtain ⟨b, off, e, hc⟩ := h.el hk
 exact ⟨b, off, e, fun i hi => ⟨hc i hi 0 _ rfl, hc i hi 1 _ rfl, hc i hi 2 _ rfl⟩⟩
def sumN (ms : List Er) : Nat := (ms.map fun e => e.nodes.length).sum
theorem sumN_take (ms : List Er) (k : Nat) (h : k < ms.length) : sumN (ms.take (k + 1)) = sumN (ms.take k) + ms[k].nodes.length := by
 unfold sumN
 rw [List.take_succ_eq_append_getElem h, List.map_append, List.sum_append, List.map_cons, List.map_nil, List.sum_cons, List.sum_nil, Nat.add_zero]
theorem sumN_le (ms : List Er) (k : Nat) : sumN (ms.take k) ≤ sumN ms := by
 unfold sumN
 conv => rhs; rw [← List.take_append_drop k ms, List.map_append, List.sum_append]
 exact Nat.le_add_right _ _
theorem sumN_mem {ms : List Er} {k : Nat} (h : k < ms.length) : ms[k].nodes.length ≤ sumN ms := by
 have h1 := sumN_take ms k h
 have h2 := sumN_le ms (k + 1)
 omega
def RdEraS (v : Value) (ms : List Er) (W : World) : Prop := RdK 3 Er.nodes erCl v ms W
def OwEraS (lo hi : Nat) (v : Value) (ms : List Er) (W : World) : Prop := OwK 3 Er.nodes erCl lo hi v ms W
def RdRegister (v : Value) (m : Rg) (W : World) : Prop := ∃ sv, v = .agg #[sv, .int .i64 m.trim] ∧ RdEraS sv m.eras W
def OwRegister (lo hi : Nat) (v : Value) (m : Rg) (W : World) : Prop := ∃ sv, v = .agg #[sv, .int .i64 m.trim] ∧ OwEraS lo hi sv m.eras W
def sizEraS (m : List Er) : Nat := m.length + sumN m
def sizRegister (m : Rg) : Nat := sizEraS m.eras
def cntEraS (m : List Er) : Nat := sumN m + 2 * m.length
def mkEr (k : Nat) (e : Er) : Er := ⟨marksN k e.nodes.length, ((k + e.nodes.length) % 3 == 0), ((k + e.nodes.length + 1 : Nat) : Int)⟩
theorem OwRegister.rd {lo hi : Nat} {v : Value} {m : Rg} {W : World} (h : OwRegister lo hi v m W) : RdRegister v m W := by
 obtain ⟨sv, h1, h2⟩ := h
 exact ⟨sv, h1, OwK.rd h2⟩
theorem RdRegister.below {v : Value} {m : Rg} {W W' : World} (h : RdRegister v m W) (b : Below W.heap.size W W') : RdRegister v m W' := by
 obtain ⟨sv, h1, h2⟩ := h
 exact ⟨sv, h1, RdK.below h2 b⟩
theorem formRegister {v : Value} {m : Rg} {W : World} (h : RdRegister v m W) : ∃ a cap, v = .agg #[.slice a m.eras.length cap, .int .i64 m.trim] ∧ m.eras.length ≤ 9223372036854775807 := by
 obtain ⟨sv, rfl, h⟩ := h
 obtain ⟨a, cap, rfl, h0⟩ := formK h
 exact ⟨a, cap, rfl, h0⟩
theorem OwRegister.sits {lo hi : Nat} {w : World} {v : Value} {m : Rg} (h : OwRegister lo hi v m w) (hf : hi ≤ w.heap.size) : Sits (OwRegister lo hi v m) lo hi w := by
 obtain ⟨sv, h1, h2⟩ := h
 have s2 := OwK.sits h2 hf
 exact ⟨hf, fun W hW => ⟨sv, h1, s2.all W hW⟩⟩
def markU (k : Nat) : ByteArray := if k = 0 then ⟨#[109, 48]⟩ else markT k
structure Wd where
 data : ByteArray
 acks : List Int
 done : Bool
structure Wt where
 epoch : Int
 words : List Wd
def wdCl (p : Nst Wd) : List Value := [.string p.m.data, Sv Wd.acks p, .bool p.m.done]
theorem wdCl_len (p : Nst Wd) : (wdCl p).length = 3 := rfl
def WdAt (w : World) (b o : Nat) (p : Nst Wd) : Prop := w.cell? ⟨b, o, none⟩ = some (.string p.m.data) ∧ w.cell? ⟨b, o + 1, none⟩ = some (.slice p.a p.m.acks.length p.c) ∧ w.cell? ⟨b, o + 2, none⟩ = some (.bool p.m.done)
theorem WdAt.below {w w' : World} {b o : Nat} {p : Nst Wd} (h : WdAt w b o p) (hb : Below w.heap.size w w') : WdAt w' b o p :=
 ⟨(hb.cell (p := ⟨b, o, none⟩) (dCell_lt h.1)).trans h.1, (hb.cell (p := ⟨b, o + 1, none⟩) (dCell_lt h.2.1)).trans h.2.1, (hb.cell (p := ⟨b, o + 2, none⟩) (dCell_lt h.2.2)).trans h.2.2⟩
theorem Rw.word {w : World} {a : Option Addr} {n cap : Nat} {rs : List (Nst Wd)} (h : Rw 3 wdCl w (.slice a n cap) rs) {k : Nat} (hk : k < rs.length) : ∃ b off, a = some ⟨b, off, none⟩ ∧ ∀ i (hi : i < rs.length), WdAt w b (off + i * 3) rs[i] := by
 obtain ⟨b, off, e, hc⟩ := h.el hk
 exact ⟨b, off, e, fun i hi => ⟨hc i hi 0 _ rfl, hc i hi 1 _ rfl, hc i hi 2 _ rfl⟩⟩
def sumW (ms : List Wd) : Nat := (ms.map fun e => e.acks.length).sum
theorem sumW_take (ms : List Wd) (k : Nat) (h : k < ms.length) : sumW (ms.take (k + 1)) = sumW (ms.take k) + ms[k].acks.length := by
 unfold sumW
 rw [List.take_succ_eq_append_getElem h, List.map_append, List.sum_append, List.map_cons, List.map_nil, List.sum_cons, List.sum_nil, Nat.add_zero]
theorem sumW_le (ms : List Wd) (k : Nat) : sumW (ms.take k) ≤ sumW ms := by
 unfold sumW
 conv => rhs; rw [← List.take_append_drop k ms, List.map_append, List.sum_append]
 exact Nat.le_add_right _ _
theorem sumW_mem {ms : List Wd} {k : Nat} (h : k < ms.length) : ms[k].acks.length ≤ sumW ms := by
 have h1 := sumW_take ms k h
 have h2 := sumW_le ms (k + 1)
 omega
def sumX (ms : List Wd) : Nat := (ms.map fun e => e.data.size).sum
def RdWordS (v : Value) (ms : List Wd) (W : World) : Prop := RdK 3 Wd.acks wdCl v ms W
def OwWordS (lo hi : Nat) (v : Value) (ms : List Wd) (W : World) : Prop := OwK 3 Wd.acks wdCl lo hi v ms W
def RdWriter (v : Value) (m : Wt) (W : World) : Prop := ∃ sv, v = .agg #[.int .i64 m.epoch, sv] ∧ RdWordS sv m.words W
def OwWriter (lo hi : Nat) (v : Value) (m : Wt) (W : World) : Prop := ∃ sv, v = .agg #[.int .i64 m.epoch, sv] ∧ OwWordS lo hi sv m.words W
def sizWordS (m : List Wd) : Nat := m.length + sumX m + sumW m
def sizWriter (m : Wt) : Nat := sizWordS m.words
def cntWordS (m : List Wd) : Nat := sumW m + 2 * m.length
def mkWd (k : Nat) (e : Wd) : Wd := ⟨markU k, marksN (k + 1) e.acks.length, ((k + 1 + e.acks.length) % 3 == 0)⟩
theorem OwWriter.rd {lo hi : Nat} {v : Value} {m : Wt} {W : World} (h : OwWriter lo hi v m W) : RdWriter v m W := by
 obtain ⟨sv, h1, h2⟩ := h
 exact ⟨sv, h1, OwK.rd h2⟩
theorem RdWriter.below {v : Value} {m : Wt} {W W' : World} (h : RdWriter v m W) (b : Below W.heap.size W W') : RdWriter v m W' := by
 obtain ⟨sv, h1, h2⟩ := h
 exact ⟨sv, h1, RdK.below h2 b⟩
theorem formWriter {v : Value} {m : Wt} {W : World} (h : RdWriter v m W) : ∃ a cap, v = .agg #[.int .i64 m.epoch, .slice a m.words.length cap] ∧ m.words.length ≤ 9223372036854775807 := by
 obtain ⟨sv, rfl, h⟩ := h
 obtain ⟨a, cap, rfl, h0⟩ := formK h
 exact ⟨a, cap, rfl, h0⟩
theorem OwWriter.sits {lo hi : Nat} {w : World} {v : Value} {m : Wt} (h : OwWriter lo hi v m w) (hf : hi ≤ w.heap.size) : Sits (OwWriter lo hi v m) lo hi w := by
 obtain ⟨sv, h1, h2⟩ := h
 have s2 := OwK.sits h2 hf
 exact ⟨hf, fun W hW => ⟨sv, h1, s2.all W hW⟩⟩
end Go.Proofs.YtodfgehicpejgaaGreatDoor
