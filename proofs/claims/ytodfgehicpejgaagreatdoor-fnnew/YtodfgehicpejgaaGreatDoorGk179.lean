/- Several texts in one: BytesP, FourP, RowB, BytesX, RwP, AppB, DoorN. -/
import Derived.Test.YtodfgehicpejgaaGreatDoorGk185
import Derived.Laws.AppendOwn
import Derived.Laws.OwnMore
import Derived.OwnWalk
import Derived.Test.YtodfgehicpejgaaGreatDoorRows
import Derived.Handy
import Derived.LaidMore
import Derived.Stop.LaidTwo
import Derived.Stop.Joined
import Derived.ChangeReads
namespace Go.Proofs.YtodfgehicpejgaaGreatDoor
open Go.ChangeShapes Go.WideShapes Go.ChangeAt Go.RowKit
set_option linter.unusedVariables false
def Bs (w : World) (v : Value) (bs : List UInt8) : Prop :=
 bs.length ≤ 9223372036854775807 ∧ ∃ a cap, v = .slice a bs.length cap ∧ (bs.length ≤ cap ∧ cap ≤ 9223372036854775807) ∧ (bs = [] ∨ ∃ b off, a = some ⟨b, off, none⟩ ∧ ∀ i (h : i < bs.length), w.cell? ⟨b, off + i, none⟩ = some (.int .u8 (bs[i].toNat : Int)))
def OwnB (w : World) (base : Nat) (v : Value) (bs : List UInt8) : Prop :=
 bs.length ≤ 9223372036854775807 ∧ ∃ a cap, v = .slice a bs.length cap ∧ (bs.length ≤ cap ∧ cap ≤ 9223372036854775807) ∧ (bs = [] ∨ ∃ b off, a = some ⟨b, off, none⟩ ∧ base ≤ b ∧ ∀ i (h : i < bs.length), w.cell? ⟨b, off + i, none⟩ = some (.int .u8 (bs[i].toNat : Int)) ∧ w.frozen? ⟨b, off + i, none⟩ = false)
theorem OwnB.bs {w : World} {base : Nat} {v : Value} {bs : List UInt8} (h : OwnB w base v bs) : Bs w v bs := by
 obtain ⟨h0, a, cap, rfl, hcap, h⟩ := h
 refine ⟨h0, a, cap, rfl, hcap, ?_⟩
 rcases h with h | ⟨b, off, rfl, -, hc⟩
 ·exact .inl h
 ·exact .inr ⟨b, off, rfl, fun i hi => (hc i hi).1⟩
theorem Bs.below {w w' : World} {v : Value} {bs : List UInt8} (h : Bs w v bs) (hb : Below w.heap.size w w') : Bs w' v bs := by
 obtain ⟨h0, a, cap, rfl, hcap, h⟩ := h
 refine ⟨h0, a, cap, rfl, hcap, ?_⟩
 rcases h with h | ⟨b, off, rfl, hc⟩
 ·exact .inl h
 ·exact .inr ⟨b, off, rfl, fun i hi => (hb.cell (p := ⟨b, off + i, none⟩) (dCell_lt (hc i hi))).trans (hc i hi)⟩
theorem OwnB.below {w w' : World} {base : Nat} {v : Value} {bs : List UInt8} (h : OwnB w base v bs) (hb : Below w.heap.size w w') : OwnB w' base v bs := by
 obtain ⟨h0, a, cap, rfl, hcap, h⟩ := h
 refine ⟨h0, a, cap, rfl, hcap, ?_⟩
 rcases h with h | ⟨b, off, rfl, hbb, hc⟩
 ·exact .inl h
 ·exact .inr ⟨b, off, rfl, hbb, fun i hi => ⟨(hb.cell (p := ⟨b, off + i, none⟩) (dCell_lt (hc i hi).1)).trans (hc i hi).1, (hb.frozen (p := ⟨b, off + i, none⟩) (dCell_lt (hc i hi).1)).trans (hc i hi).2⟩⟩
theorem OwnB.mono {w : World} {base base' : Nat} {v : Value} {bs : List UInt8} (h : OwnB w base v bs) (hb : base' ≤ base) : OwnB w base' v bs := by
 obtain ⟨h0, a, cap, rfl, hcap, h⟩ := h
 refine ⟨h0, a, cap, rfl, hcap, ?_⟩
 rcases h with h | ⟨b, off, rfl, hbb, hc⟩
 ·exact .inl h
 ·exact .inr ⟨b, off, rfl, by omega, hc⟩
def bO : Value → Nat
 | .slice (some a) _ _ => a.block
 | _ => 0
theorem Bs.drawn {bk : Nat} {w w' : World} {v : Value} {bs : List UInt8} (h : Bs w v bs) (hd : Drawn bk w w') (hne : bs = [] ∨ bO v ≠ bk) : Bs w' v bs := by
 obtain ⟨h0, a, cap, rfl, hcap, h⟩ := h
 refine ⟨h0, a, cap, rfl, hcap, ?_⟩
 rcases h with h | ⟨b, off, rfl, hc⟩
 ·exact .inl h
 ·rcases hne with h | hne
  ·exact .inl h
  ·exact .inr ⟨b, off, rfl, fun i hi => hd.cell (hc i hi) hne⟩
theorem four_set {w : World} {b : Nat} {u0 u1 u2 u3 : Value} (v0 v1 v2 v3 : Value) (c0 : w.cell? ⟨b, 0, none⟩ = some u0) (c1 : w.cell? ⟨b, 1, none⟩ = some u1) (c2 : w.cell? ⟨b, 2, none⟩ = some u2) (c3 : w.cell? ⟨b, 3, none⟩ = some u3) :
    ((((w.setCell ⟨b, 0, none⟩ v0).setCell ⟨b, 1, none⟩ v1).setCell ⟨b, 2, none⟩ v2).setCell ⟨b, 3, none⟩ v3).cell? ⟨b, 0, none⟩ = some v0 ∧
    ((((w.setCell ⟨b, 0, none⟩ v0).setCell ⟨b, 1, none⟩ v1).setCell ⟨b, 2, none⟩ v2).setCell ⟨b, 3, none⟩ v3).cell? ⟨b, 1, none⟩ = some v1 ∧
    ((((w.setCell ⟨b, 0, none⟩ v0).setCell ⟨b, 1, none⟩ v1).setCell ⟨b, 2, none⟩ v2).setCell ⟨b, 3, none⟩ v3).cell? ⟨b, 2, none⟩ = some v2 ∧
    ((((w.setCell ⟨b, 0, none⟩ v0).setCell ⟨b, 1, none⟩ v1).setCell ⟨b, 2, none⟩ v2).setCell ⟨b, 3, none⟩ v3).cell? ⟨b, 3, none⟩ = some v3 :=
  ⟨sO (sO (sO (World.cell?_setCell_same _ _ _ c0) (by omega)) (by omega)) (by omega),
   sO (sO (World.cell?_setCell_same _ _ _ (sO c1 (by omega))) (by omega)) (by omega),
   sO (World.cell?_setCell_same _ _ _ (sO (sO c2 (by omega)) (by omega))) (by omega),
   World.cell?_setCell_same _ _ _ (sO (sO (sO c3 (by omega)) (by omega)) (by omega))⟩
def Four (w : World) (b : Nat) (c0 c1 c2 c3 : Value) : Prop := w.cell? ⟨b, 0, none⟩ = some c0 ∧ w.cell? ⟨b, 1, none⟩ = some c1 ∧ w.cell? ⟨b, 2, none⟩ = some c2 ∧ w.cell? ⟨b, 3, none⟩ = some c3
theorem Four.kept {w w' : World} {b : Nat} {c0 c1 c2 c3 : Value} (h : Four w b c0 c1 c2 c3) (hb : Below w.heap.size w w') : Four w' b c0 c1 c2 c3 := by
  obtain ⟨h0, h1, h2, h3⟩ := h
  have lt := dCell_lt h0
  exact ⟨(hb.cell (p := ⟨b, 0, none⟩) lt).trans h0, (hb.cell (p := ⟨b, 1, none⟩) lt).trans h1, (hb.cell (p := ⟨b, 2, none⟩) lt).trans h2, (hb.cell (p := ⟨b, 3, none⟩) lt).trans h3⟩
theorem Four.new (w : World) (c0 c1 c2 c3 : Value) (T : TypeId) : Four (w.alloc (.cells #[c0, c1, c2, c3] T)) w.heap.size c0 c1 c2 c3 := ⟨by simp, by simp, by simp, by simp⟩
theorem bT {w0 w w' : World} (h : Below w0.heap.size w0 w) (k : Below w.heap.size w w') : Below w0.heap.size w0 w' := h.trans (k.mono h.size)
def FourZ (w : World) (B b : Nat) (c0 c1 c2 c3 : Value) : Prop := B ≤ b ∧ Four w b c0 c1 c2 c3 ∧ w.frozen? ⟨b, 0, none⟩ = false ∧ w.frozen? ⟨b, 1, none⟩ = false ∧ w.frozen? ⟨b, 2, none⟩ = false ∧ w.frozen? ⟨b, 3, none⟩ = false
theorem FourZ.kept {w w' : World} {B b : Nat} {c0 c1 c2 c3 : Value} (h : FourZ w B b c0 c1 c2 c3) (hb : Below w.heap.size w w') : FourZ w' B b c0 c1 c2 c3 := by
  obtain ⟨h0, h1, f0, f1, f2, f3⟩ := h
  have lt := dCell_lt h1.1
  exact ⟨h0, h1.kept hb, (hb.frozen (p := ⟨b, 0, none⟩) lt).trans f0, (hb.frozen (p := ⟨b, 1, none⟩) lt).trans f1, (hb.frozen (p := ⟨b, 2, none⟩) lt).trans f2, (hb.frozen (p := ⟨b, 3, none⟩) lt).trans f3⟩
theorem FourZ.new {w w' : World} {B : Nat} {c0 c1 c2 c3 : Value} {T : TypeId} (h : B ≤ w.heap.size) (hb : Below (w.alloc (.cells #[c0, c1, c2, c3] T)).heap.size (w.alloc (.cells #[c0, c1, c2, c3] T)) w') : FourZ w' B w.heap.size c0 c1 c2 c3 := by
  refine FourZ.kept (w := w.alloc (.cells #[c0, c1, c2, c3] T)) ⟨h, Four.new w _ _ _ _ _, ?_, ?_, ?_, ?_⟩ hb
  all_goals simp
theorem FourZ.set {w : World} {B b : Nat} {c0 c1 c2 c3 : Value} (h : FourZ w B b c0 c1 c2 c3) (v0 v1 v2 v3 : Value) :
    Four ((((w.setCell ⟨b, 0, none⟩ v0).setCell ⟨b, 1, none⟩ v1).setCell ⟨b, 2, none⟩ v2).setCell ⟨b, 3, none⟩ v3) b v0 v1 v2 v3 := four_set v0 v1 v2 v3 h.2.1.1 h.2.1.2.1 h.2.1.2.2.1 h.2.1.2.2.2
theorem FourZ.below {w0 w : World} {b : Nat} {c0 c1 c2 c3 : Value} (h : FourZ w w0.heap.size b c0 c1 c2 c3) (hb : Below w0.heap.size w0 w) (v0 v1 v2 v3 : Value) :
    Below w0.heap.size w0 ((((w.setCell ⟨b, 0, none⟩ v0).setCell ⟨b, 1, none⟩ v1).setCell ⟨b, 2, none⟩ v2).setCell ⟨b, 3, none⟩ v3) :=
  (((hb.setCell (p := ⟨b, 0, none⟩) h.1 _).setCell (p := ⟨b, 1, none⟩) h.1 _).setCell (p := ⟨b, 2, none⟩) h.1 _).setCell (p := ⟨b, 3, none⟩) h.1 _
theorem Four.drawn {w w' : World} {bk b : Nat} {c0 c1 c2 c3 : Value} (h : Four w b c0 c1 c2 c3) (hd : Drawn bk w w') (hb : b ≠ bk) : Four w' b c0 c1 c2 c3 :=
  ⟨hd.cell h.1 hb, hd.cell h.2.1 hb, hd.cell h.2.2.1 hb, hd.cell h.2.2.2 hb⟩
theorem FourZ.drawn {w w' : World} {bk B b : Nat} {c0 c1 c2 c3 : Value} (h : FourZ w B b c0 c1 c2 c3) (hd : Drawn bk w w') (hb : b ≠ bk) : FourZ w' B b c0 c1 c2 c3 := by
  obtain ⟨h0, h1, f0, f1, f2, f3⟩ := h
  have lt := dCell_lt h1.1
  exact ⟨h0, h1.drawn hd hb, (hd.frozen hb lt).trans f0, (hd.frozen hb lt).trans f1, (hd.frozen hb lt).trans f2, (hd.frozen hb lt).trans f3⟩
theorem FourZ.fresh (w : World) (c0 c1 c2 c3 : Value) (T : TypeId) : FourZ (w.alloc (.cells #[c0, c1, c2, c3] T)) w.heap.size w.heap.size c0 c1 c2 c3 := FourZ.new (Nat.le_refl _) (Below.refl _ _)
theorem FourZ.put0 {w : World} {B b : Nat} {c0 c1 c2 c3 : Value} (h : FourZ w B b c0 c1 c2 c3) (v : Value) : FourZ (w.setCell ⟨b, 0, none⟩ v) B b v c1 c2 c3 := by
  obtain ⟨h0, ⟨k0, k1, k2, k3⟩, f0, f1, f2, f3⟩ := h
  exact ⟨h0, ⟨World.cell?_setCell_same _ _ _ k0, sO k1 (by omega), sO k2 (by omega), sO k3 (by omega)⟩, (World.frozen?_setCell _ _ _ _).trans f0, (World.frozen?_setCell _ _ _ _).trans f1, (World.frozen?_setCell _ _ _ _).trans f2, (World.frozen?_setCell _ _ _ _).trans f3⟩
theorem FourZ.put1 {w : World} {B b : Nat} {c0 c1 c2 c3 : Value} (h : FourZ w B b c0 c1 c2 c3) (v : Value) : FourZ (w.setCell ⟨b, 1, none⟩ v) B b c0 v c2 c3 := by
  obtain ⟨h0, ⟨k0, k1, k2, k3⟩, f0, f1, f2, f3⟩ := h
  exact ⟨h0, ⟨sO k0 (by omega), World.cell?_setCell_same _ _ _ k1, sO k2 (by omega), sO k3 (by omega)⟩, (World.frozen?_setCell _ _ _ _).trans f0, (World.frozen?_setCell _ _ _ _).trans f1, (World.frozen?_setCell _ _ _ _).trans f2, (World.frozen?_setCell _ _ _ _).trans f3⟩
theorem FourZ.far {w : World} {B b b' o : Nat} {c0 c1 c2 c3 : Value} (h : FourZ w B b c0 c1 c2 c3) (hb : b ≠ b') (v : Value) : FourZ (w.setCell ⟨b', o, none⟩ v) B b c0 c1 c2 c3 := by
  obtain ⟨h0, ⟨k0, k1, k2, k3⟩, f0, f1, f2, f3⟩ := h
  exact ⟨h0, ⟨sO k0 (by omega), sO k1 (by omega), sO k2 (by omega), sO k3 (by omega)⟩, (World.frozen?_setCell _ _ _ _).trans f0, (World.frozen?_setCell _ _ _ _).trans f1, (World.frozen?_setCell _ _ _ _).trans f2, (World.frozen?_setCell _ _ _ _).trans f3⟩
theorem Drawn.setNew {bk : Nat} {w W : World} (h : Drawn bk w W) {b : Nat} (hb : w.heap.size ≤ b) (o : Nat) (u : Value) : Drawn bk w (W.setCell ⟨b, o, none⟩ u) :=
  ⟨h.os, h.tape, h.output, by simpa using h.size, fun k hk hn => (Below.heap_setCell W ⟨b, o, none⟩ u k (by simp only; omega)).trans (h.block k hk hn)⟩
theorem grown_set (W : World) (b o : Nat) (u : Value) : W.grownBy (W.setCell ⟨b, o, none⟩ u) (some b) :=
  ⟨rfl, rfl, rfl, by simp, fun k hk hn => Below.heap_setCell W ⟨b, o, none⟩ u k (by rintro rfl; exact hn rfl)⟩
def IsRow (k : IntKind) (w : World) (a : Option Addr) (len cap : Nat) (zs : List Int) : Prop :=
 (a = none ∧ len = 0 ∧ cap = 0 ∧ zs = []) ∨
 ∃ x, a = some x ∧ len ≤ cap ∧ cap ≤ maxLen ∧ zs.length = cap ∧ (∀ i, i < zs.length → w.cell? (x.add i) = some (.int k (zs.getD i 0))) ∧ ∀ n ∈ zs, (Lit.int k n).wf = true
theorem OwnB.base {w : World} {base : Nat} {v : Value} {bs : List UInt8} (h : OwnB w base v bs) (hne : bs ≠ []) : base ≤ bO v := by
 obtain ⟨-, a, cap, rfl, -, h⟩ := h
 rcases h with h | ⟨b, off, rfl, hb, -⟩
 ·exact absurd h hne
 ·exact hb
theorem Bs.lt {w : World} {v : Value} {bs : List UInt8} (h : Bs w v bs) (hne : bs ≠ []) : bO v < w.heap.size := by
 obtain ⟨-, a, cap, rfl, -, h⟩ := h
 rcases h with h | ⟨b, off, rfl, hc⟩
 ·exact absurd h hne
 ·have hl : 0 < bs.length := List.length_pos_iff.2 hne
  exact dCell_lt (hc 0 hl)
theorem Bs.apart {w w1 w2 : World} {v u : Value} {bs cs ds : List UInt8} {base : Nat} (h : Bs w1 v bs) (hv : Bs w v cs) (hl : cs.length = bs.length) (hu : OwnB w1 base u ds) (hb : w.heap.size ≤ base) (hd : Drawn (bO u) w1 w2) (hds : ds.length = bs.length) : Bs w2 v bs := by
 rcases List.eq_nil_or_concat bs with h0 | h0
 ·exact h.drawn hd (.inl h0)
 ·have hne : bs ≠ [] := by
   obtain ⟨l, a, rfl⟩ := h0
   simp
  have hpos : 0 < bs.length := List.length_pos_iff.2 hne
  have hcs : cs ≠ [] := by rintro rfl; simp at hl; omega
  have hds' : ds ≠ [] := by rintro rfl; simp at hds; omega
  have h1 := hv.lt hcs
  have h2 := hu.base hds'
  exact h.drawn hd (.inr (by omega))
theorem bs_of_row {w : World} {a : Option Addr} {len cap : Nat} {zs : List Int} (h : IsRow .u8 w a len cap zs) : ∃ bs : List UInt8, bs.length = len ∧ Bs w (.slice a len cap) bs := by
 rcases h with ⟨rfl, rfl, rfl, rfl⟩ | ⟨x, rfl, h1, h2, h3, h4, h5⟩
 ·exact ⟨[], rfl, by simp, none, 0, rfl, by simp, .inl rfl⟩
 ·have hm : maxLen = 9223372036854775807 := rfl
  refine ⟨(zs.take len).map fun z => UInt8.ofNat z.toNat, by simp; omega, ?_⟩
  have hl : ((zs.take len).map fun z => UInt8.ofNat z.toNat).length = len := by simp; omega
  refine ⟨by omega, some x, cap, by rw [hl], by rw [hl]; omega, ?_⟩
  rcases Nat.eq_zero_or_pos len with h0 | h0
  ·exact .inl (by subst h0; simp)
  ·obtain ⟨b, off, rfl, hc⟩ := ints_at h4 (by omega)
   refine .inr ⟨b, off, rfl, fun i hi => ?_⟩
   have hi' : i < zs.length := by omega
   have hcell := hc i hi'
   have hg : zs.getD i 0 = zs[i] := by simp [List.getD, hi']
   rw [hg] at hcell
   obtain ⟨l, u⟩ := bounds_u8 (h5 zs[i] (List.getElem_mem hi'))
   rw [hcell]
   simp
   omega
section
variable {α : Type}
def Rw (sz : Nat) (cl : α → List Value) (w : World) (v : Value) (ms : List α) : Prop :=
 ms.length ≤ 9223372036854775807 ∧ ∃ a cap, v = .slice a ms.length cap ∧ (ms.length ≤ cap ∧ cap ≤ 9223372036854775807) ∧ (ms = [] ∨ ∃ b off, a = some ⟨b, off, none⟩ ∧ ∀ i (h : i < ms.length) j u, (cl ms[i])[j]? = some u → w.cell? ⟨b, off + i * sz + j, none⟩ = some u)
def OwnRw (sz : Nat) (cl : α → List Value) (w : World) (base : Nat) (v : Value) (ms : List α) : Prop :=
 ms.length ≤ 9223372036854775807 ∧ ∃ a cap, v = .slice a ms.length cap ∧ (ms.length ≤ cap ∧ cap ≤ 9223372036854775807) ∧ (ms = [] ∨ ∃ b off, a = some ⟨b, off, none⟩ ∧ base ≤ b ∧ ∀ i (h : i < ms.length) j u, (cl ms[i])[j]? = some u → w.cell? ⟨b, off + i * sz + j, none⟩ = some u ∧ w.frozen? ⟨b, off + i * sz + j, none⟩ = false)
variable {sz : Nat} {cl : α → List Value} {w w' : World} {base base' : Nat} {v : Value} {ms : List α}
theorem orR_of_lt {P : Prop} {k : Nat} (h : ms = [] ∨ P) (hk : k < ms.length) : P := by
 rcases h with rfl | h
 ·simp at hk
 ·exact h
theorem OwnRw.rw (h : OwnRw sz cl w base v ms) : Rw sz cl w v ms := by
 obtain ⟨h0, a, cap, rfl, hcap, h⟩ := h
 refine ⟨h0, a, cap, rfl, hcap, ?_⟩
 rcases h with h | ⟨b, off, rfl, -, hc⟩
 ·exact .inl h
 ·exact .inr ⟨b, off, rfl, fun i hi j u hu => (hc i hi j u hu).1⟩
theorem Rw.below (h : Rw sz cl w v ms) (hb : Below w.heap.size w w') : Rw sz cl w' v ms := by
 obtain ⟨h0, a, cap, rfl, hcap, h⟩ := h
 refine ⟨h0, a, cap, rfl, hcap, ?_⟩
 rcases h with h | ⟨b, off, rfl, hc⟩
 ·exact .inl h
 ·exact .inr ⟨b, off, rfl, fun i hi j u hu => (hb.cell (p := ⟨b, off + i * sz + j, none⟩) (dCell_lt (hc i hi j u hu))).trans (hc i hi j u hu)⟩
theorem OwnRw.below (h : OwnRw sz cl w base v ms) (hb : Below w.heap.size w w') : OwnRw sz cl w' base v ms := by
 obtain ⟨h0, a, cap, rfl, hcap, h⟩ := h
 refine ⟨h0, a, cap, rfl, hcap, ?_⟩
 rcases h with h | ⟨b, off, rfl, hbb, hc⟩
 ·exact .inl h
 ·exact .inr ⟨b, off, rfl, hbb, fun i hi j u hu => ⟨(hb.cell (p := ⟨b, off + i * sz + j, none⟩) (dCell_lt (hc i hi j u hu).1)).trans (hc i hi j u hu).1, (hb.frozen (p := ⟨b, off + i * sz + j, none⟩) (dCell_lt (hc i hi j u hu).1)).trans (hc i hi j u hu).2⟩⟩
theorem OwnRw.mono (h : OwnRw sz cl w base v ms) (hb : base' ≤ base) : OwnRw sz cl w base' v ms := by
 obtain ⟨h0, a, cap, rfl, hcap, h⟩ := h
 refine ⟨h0, a, cap, rfl, hcap, ?_⟩
 rcases h with h | ⟨b, off, rfl, hbb, hc⟩
 ·exact .inl h
 ·exact .inr ⟨b, off, rfl, by omega, hc⟩
theorem Rw.drawn {bk : Nat} (h : Rw sz cl w v ms) (hd : Drawn bk w w') (hne : ms = [] ∨ bO v ≠ bk) : Rw sz cl w' v ms := by
 obtain ⟨h0, a, cap, rfl, hcap, h⟩ := h
 refine ⟨h0, a, cap, rfl, hcap, ?_⟩
 rcases h with h | ⟨b, off, rfl, hc⟩
 ·exact .inl h
 ·rcases hne with h | hne
  ·exact .inl h
  ·exact .inr ⟨b, off, rfl, fun i hi j u hu => hd.cell (hc i hi j u hu) hne⟩
theorem Rw.nil (w : World) (a : Option Addr) (cap : Nat) (h : cap ≤ 9223372036854775807) : Rw sz cl w (.slice a 0 cap) ([] : List α) := ⟨by simp, a, cap, rfl, ⟨Nat.zero_le _, h⟩, .inl rfl⟩
theorem OwnRw.nil (w : World) (base : Nat) (a : Option Addr) (cap : Nat) (h : cap ≤ 9223372036854775807) : OwnRw sz cl w base (.slice a 0 cap) ([] : List α) := ⟨by simp, a, cap, rfl, ⟨Nat.zero_le _, h⟩, .inl rfl⟩
def fcells (cl : α → List Value) (ms : List α) : List Value := ms.flatMap cl
theorem fcells_len (hcl : ∀ a, (cl a).length = sz) (ms : List α) : (fcells cl ms).length = ms.length * sz := by
 induction ms with
 | nil => simp [fcells]
 | cons a l ih =>
  have e : fcells cl (a :: l) = cl a ++ fcells cl l := rfl
  rw [e, List.length_append, ih, hcl, List.length_cons, Nat.add_mul]
  omega
theorem fcells_app (ms ns : List α) : fcells cl (ms ++ ns) = fcells cl ms ++ fcells cl ns := by simp [fcells]
theorem fcells_at (hcl : ∀ a, (cl a).length = sz) : ∀ (ms : List α) (i : Nat) (h : i < ms.length) (j : Nat) (u : Value), (cl ms[i])[j]? = some u → (fcells cl ms)[i * sz + j]? = some u
 | [], i, h, _, _, _ => by simp at h
 | a :: l, i, h, j, u, hu => by
  have e : fcells cl (a :: l) = cl a ++ fcells cl l := rfl
  rw [e]
  cases i with
  | zero =>
   have hj : j < (cl a).length := by
    rcases Nat.lt_or_ge j (cl a).length with h' | h'
    ·exact h'
    ·simp only [List.getElem_cons_zero] at hu
     rw [List.getElem?_eq_none h'] at hu
     cases hu
   rw [Nat.zero_mul, Nat.zero_add, List.getElem?_append_left hj]
   simpa using hu
  | succ n =>
   have hn : n < l.length := by simpa using h
   have ih := fcells_at hcl l n hn j u (by simpa using hu)
   rw [List.getElem?_append_right (by rw [hcl, Nat.add_mul]; omega), hcl]
   have e2 : (n + 1) * sz + j - sz = n * sz + j := by rw [Nat.add_mul]; omega
   rw [e2]
   exact ih
theorem ownRw_of_row {T : TypeId} {n : Nat} (hcl : ∀ a, (cl a).length = sz) (hs : 0 < sz) (h : w.ownsRow base T sz v n (fcells cl ms)) : OwnRw sz cl w base v ms := by
 have hl : ms.length = n := by
  have := h.1
  rw [fcells_len hcl] at this
  exact Nat.eq_of_mul_eq_mul_right hs this
 subst hl
 rcases h.2 with ⟨rfl, hn⟩ | ⟨g, cap, cur, rfl, hb, hg, hnc, hcm, hsz, ht⟩
 ·have : ms = [] := List.length_eq_zero_iff.1 hn
  subst this
  exact ⟨by simp, none, 0, rfl, by simp, .inl rfl⟩
 ·have hm : maxLen = 9223372036854775807 := rfl
  refine ⟨by omega, some ⟨g, 0, none⟩, cap, rfl, by omega, .inr ⟨g, 0, rfl, hb, fun i hi j u hu => ?_⟩⟩
  have hf := fcells_at hcl ms i hi j u hu
  have hj : i * sz + j < (fcells cl ms).length := by
   rcases Nat.lt_or_ge (i * sz + j) (fcells cl ms).length with h' | h'
   ·exact h'
   ·rw [List.getElem?_eq_none h'] at hf
    cases hf
  rw [fcells_len hcl] at hj
  have hcur : cur.toList[i * sz + j]? = some u := by
   have e : (cur.toList.take (ms.length * sz))[i * sz + j]? = (fcells cl ms)[i * sz + j]? := by rw [ht]
   rw [List.getElem?_take, if_pos hj] at e
   rw [e, hf]
  refine ⟨?_, ?_⟩
  ·simp only [World.cell?, hg]
   simpa using hcur
  ·simp [World.frozen?, hg]
end
theorem Drawn.grown {bk : Nat} {w0 w w' : World} {row : Option Nat} (h : Drawn bk w0 w) (hg : w.grownBy w' row) (hr : ∀ k, row = some k → w0.heap.size ≤ k) : Drawn bk w0 w' :=
 ⟨hg.os.trans h.os, hg.tape.trans h.tape, hg.output.trans h.output, Nat.le_trans h.size hg.size, fun k hk hn => (hg.block k (Nat.lt_of_lt_of_le hk h.size) (fun e => by have := hr k e.symm; omega)).trans (h.block k hk hn)⟩
theorem Drawn.row {bk : Nat} {w w' : World} (h : Drawn bk w w') : w.grownBy w' (some bk) := ⟨h.os, h.tape, h.output, h.size, fun k hk hn => h.block k hk (by rintro rfl; exact hn rfl)⟩
theorem Cur.grown {bk : Nat} {w w' : World} {row : Option Nat} (h : Cur w bk) (hg : w.grownBy w' row) (hr : ∀ k, row = some k → bk < k) : Cur w' bk := by
 obtain ⟨a, len, cap, i, hh, hr8, hn, hi, c0, c1, c2, f1, f2⟩ := h
 have lt := dCell_lt c0
 have hblk : w'.heap[bk]? = w.heap[bk]? := hg.block bk lt (fun e => by have := hr bk e.symm; omega)
 have hcell : ∀ o, w'.cell? ⟨bk, o, none⟩ = w.cell? ⟨bk, o, none⟩ := fun o => World.cell?_of_block (w := w) (w' := w') (a := ⟨bk, o, none⟩) hblk
 have hfr : ∀ o, w'.frozen? ⟨bk, o, none⟩ = w.frozen? ⟨bk, o, none⟩ := fun o => World.frozen?_of_block (w := w) (w' := w') (a := ⟨bk, o, none⟩) hblk
 refine ⟨a, len, cap, i, hh, ⟨hr8.1, ?_⟩, hn, hi, (hcell 0).trans c0, (hcell 1).trans c1, (hcell 2).trans c2, (hfr 1).trans f1, (hfr 2).trans f2⟩
 rcases hr8.2 with h0 | ⟨b, off, rfl, hc⟩
 ·exact .inl h0
 ·rcases Nat.eq_zero_or_pos len with h0 | h0
  ·exact .inl h0
  ·refine .inr ⟨b, off, rfl, fun j hj => ?_⟩
   obtain ⟨v, v1, v2, v3⟩ := hc j hj
   refine ⟨v, v1, v2, hg.cell v3 ?_⟩
   intro e
   have h1 := hr b e.symm
   have h2 := hn b off rfl h0
   omega
section
variable {H : Type} {enc : TypeId × Value → H}
theorem andShaped {a : Assume} {C : Checked} {os : Os} {f : FuncId} {fn : Func} {s : ChangeSpec} {conds : List PathCond} {apart fresh handsOn again : Bool} {X : World → Array Value → Prop}
    (hX : ∀ (w w' : World) (args : Array Value), w.heap = w'.heap → X w args → X w' args)
    (own : ownKnob C.prog.godebug = none) (started : os.Started) (noInit : C.prog.inits.idxOf? f = none) (hfn : C.prog.funcs[f]? = some fn)
    (witness : ∃ (w : World) (tape : Tape) (i : Input), w.os = os ∧ (w.forCall tape i).Shaped C.prog ∧ i.vars = [] ∧ Input.okWide C.prog (w.forCall tape i) .any w.heap.size f i ∧
      ((s.pre enc C.prog fn conds apart (w.forCall tape i).memory i.args ∧ X (w.forCall tape i).memory i.args) ∧ sizedMet enc C.prog fn (OpenSpec.ofChange s) apart (w.forCall tape i).memory i.args) ∧ a.holds C.prog (lone (Frame.enter C.prog f i.args .normal) [] (w.forCall tape i)))
    (contract : ∀ (W : World) (base : Nat) (args : Array Value) (ds gs : List (DataW H)) (before : List MemPlace),
      (∀ (j : Nat) t v, fn.params[j]? = some t → args[j]? = some v → Value.okWide C.prog W .any base t v) →
      DataW.Whole enc C.prog fn.params.toList s.vars apart W args.toList ds gs before →
      X W args → W.ShapedOpen C.prog →
      Calls C.prog f args W fun e W' => ∃ v, e = .returned v ∧ s.post enc C.prog fn apart fresh handsOn again W args v W') :
    ReturnsInHanded a C os f .any (fun w args => (s.pre enc C.prog fn conds apart w args ∧ X w args) ∧ sizedMet enc C.prog fn (OpenSpec.ofChange s) apart w args) (s.post enc C.prog fn apart fresh handsOn again) := by
  refine returnsInHanded_of_calls own started noInit witness ?_
  intro w tape i _ hsh _ hok hpre _
  obtain ⟨_, _, _, fn', hfn', _, _, _, _, hval⟩ := hok
  obtain rfl : fn' = fn := Option.some.inj (hfn'.symm.trans hfn)
  obtain ⟨⟨⟨ds, gs, before, hw, _⟩, hx⟩, _⟩ := hpre
  refine (contract (w.forCall tape i) w.heap.size i.args ds gs before hval (DataW.Whole.of_heap (w' := w.forCall tape i) (by rfl) hw) (hX _ _ _ (by rfl) hx) hsh).mono fun e W' ⟨v, he, hp⟩ => ?_
  subst he
  exact ChangeSpec.post_blind hp
end
theorem gNR : Tryz.prog.globalNamed "loop.example/g00178/impl.errNoRegister" = some 0 := by kernel_rfl
theorem gRF : Tryz.prog.globalNamed "loop.example/g00178/impl.errRefused" = some 1 := by kernel_rfl
theorem tNR : (Tryz.prog.globals[0]?).map (·.type) = some 209 := by kernel_rfl
theorem tRF : (Tryz.prog.globals[1]?).map (·.type) = some 209 := by kernel_rfl
theorem cES : Tryz.prog.cellsOf 414 = 1 := by kernel_rfl
theorem cStr7 : Tryz.prog.cellsOf 9 = 1 := by kernel_rfl
theorem star : "*" ++ "errors.errorString" = "*errors.errorString" := by decide
theorem rowES (u : TypeId) (h : Tryz.prog.typeName? 3 u = some "*errors.errorString") : u = 385 :=
  typeName_ptr_named (nm := "errors.errorString") (by rw [star]; kernel_rfl) (by kernel_rfl) (by decide) u (by rw [star]; exact h)
def ErrsS (w : World) (a0 a1 : Addr) : Prop :=
  w.var? Tryz.prog "loop.example/g00178/impl.errNoRegister" = some #[.iface 385 (.pointer (some a0))] ∧ w.var? Tryz.prog "loop.example/g00178/impl.errRefused" = some #[.iface 385 (.pointer (some a1))]
theorem errsS_of {w : World} (hL : laidMetH Tryz.prog [("loop.example/g00178/impl.errNoRegister", Rows.laid_loop_example_g00178_impl_errNoRegister), ("loop.example/g00178/impl.errRefused", Rows.laid_loop_example_g00178_impl_errRefused)] w)
    (hp : ([("loop.example/g00178/impl.errNoRegister", (Rows.laid_loop_example_g00178_impl_errNoRegister : DataW Unit)), ("loop.example/g00178/impl.errRefused", Rows.laid_loop_example_g00178_impl_errRefused)].all fun x => x.2.handleName?.isNone) = true) : ∃ a0 a1, ErrsS w a0 a1 := by
  rw [MakeChecks.laidMetH_plain _ _ _ hp] at hL
  obtain ⟨a0, a1, s0, s1, c0, c1, t0, t1, h0, h1, -⟩ := laid_sentinels2 hL gNR tNR gRF tRF Tryz.underlying209 rowES Tryz.underlying385 Tryz.underlying414 rfl rfl Tryz.underlying9 cES cStr7
  exact ⟨a0, a1, h0, h1⟩
theorem var_below {w w' : World} {n : String} {cs : Array Value} {g : Nat} (hg : Tryz.prog.globalNamed n = some g) (h : w.var? Tryz.prog n = some cs) (hb : Below w.heap.size w w') : w'.var? Tryz.prog n = some cs := by
  unfold World.var? at h ⊢
  simp only [hg, Option.bind_some] at h ⊢
  have hlt : g < w.heap.size := by
    rcases Nat.lt_or_ge g w.heap.size with h' | h'
    · exact h'
    · simp [Array.getElem?_eq_none h'] at h
  rw [hb.block g hlt]
  exact h
theorem errsS_read {H : Type} (enc : TypeId × Value → H) {w : World} {a0 a1 : Addr} (h : ErrsS w a0 a1) (sp : Nat → Bool) :
    DataW.TrodVars enc Tryz.prog w sp ["loop.example/g00178/impl.errRefused", "loop.example/g00178/impl.errNoRegister"] [tok enc (.iface 385 (.pointer (some a1))), tok enc (.iface 385 (.pointer (some a0)))] [.cell 1 0, .cell 0 0] :=
  vars_read2 enc gRF tRF Tryz.underlying209 h.2 trivial gNR tNR Tryz.underlying209 h.1 trivial sp
theorem ErrsS.below {w w' : World} {a0 a1 : Addr} (h : ErrsS w a0 a1) (hb : Below w.heap.size w w') : ErrsS w' a0 a1 :=
  ⟨var_below gNR h.1 hb, var_below gRF h.2 hb⟩
end Go.Proofs.YtodfgehicpejgaaGreatDoor
