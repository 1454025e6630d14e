/- Several texts in one: EvP, StepP, EvS, AwS. -/
import Derived.Test.YtjkjmapibcfcdaaGreatGaA
import Derived.Laws.MakeOwn
import Derived.OwnWalk
import Derived.WalkKit
import Derived.Test.YtjkjmapibcfcdaaGreatGaT
import Derived.Deep.RegionHeld3
import Derived.Test.YtjkjmapibcfcdaaGreatGbE
namespace Go.Proofs.YtjkjmapibcfcdaaGreat
open Go.ChangeShapes Go.WideShapes Go.ChangeAt Go.RowKit
set_option linter.unusedSimpArgs false
set_option linter.unusedVariables false
set_option maxRecDepth 100000
section
variable {α : Type}
def ElZ (cl : α → List Value) (w : World) (b o : Nat) (e : α) : Prop := ∀ j u, (cl e)[j]? = some u → w.cell? ⟨b, o + j, none⟩ = some u ∧ w.frozen? ⟨b, o + j, none⟩ = false
def RwZ (sz : Nat) (cl : α → List Value) (w : World) (b off n : Nat) (f : Nat → α) : Prop := ∀ i, i < n → ElZ cl w b (off + i * sz) (f i)
def putZ (f : Nat → α) (k : Nat) (e : α) : Nat → α := fun i => if i = k then e else f i
variable {sz : Nat} {cl : α → List Value} {w w' : World} {b off n k base : Nat} {f : Nat → α}
theorem putZ_same (f : Nat → α) (k : Nat) (e : α) : putZ f k e k = e := if_pos rfl
theorem putZ_twice (f : Nat → α) (k : Nat) (e e' : α) : putZ (putZ f k e) k e' = putZ f k e' := by
 funext i
 unfold putZ
 split <;> rfl
theorem RwZ.below (h : RwZ sz cl w b off n f) (hb : Below w.heap.size w w') : RwZ sz cl w' b off n f := fun i hi j u hu =>
 ⟨(hb.cell (p := ⟨b, off + i * sz + j, none⟩) (dCell_lt (h i hi j u hu).1)).trans (h i hi j u hu).1, (hb.frozen (p := ⟨b, off + i * sz + j, none⟩) (dCell_lt (h i hi j u hu).1)).trans (h i hi j u hu).2⟩
theorem idx_ne {i k j j' sz : Nat} (h : i ≠ k) (hj : j < sz) (hj' : j' < sz) : i * sz + j' ≠ k * sz + j := by
 rcases Nat.lt_or_gt_of_ne h with h | h
 ·have := Nat.mul_le_mul_right sz (show i + 1 ≤ k from h)
  rw [Nat.add_mul] at this
  omega
 ·have := Nat.mul_le_mul_right sz (show k + 1 ≤ i from h)
  rw [Nat.add_mul] at this
  omega
theorem clG_lt (hcl : ∀ a, (cl a).length = sz) {e : α} {j : Nat} {u : Value} (h : (cl e)[j]? = some u) : j < sz := by
 rcases Nat.lt_or_ge j sz with h' | h'
 ·exact h'
 ·rw [List.getElem?_eq_none (by rw [hcl]; exact h')] at h
  cases h
theorem RwZ.cell (hcl : ∀ a, (cl a).length = sz) (h : RwZ sz cl w b off n f) (hk : k < n) (j : Nat) (hj : j < sz) (u : Value) (e' : α) (he : cl e' = (cl (f k)).set j u) : RwZ sz cl (w.setCell ⟨b, off + k * sz + j, none⟩ u) b off n (putZ f k e') := fun i hi j' u' hu => by
 unfold putZ at hu
 split at hu
 ·rename_i e
  subst e
  rw [he] at hu
  by_cases e : j' = j
  ·subst e
   rw [List.getElem?_set_self (by rw [hcl]; exact hj)] at hu
   cases hu
   obtain ⟨h1, h2⟩ := h i hi j' _ (List.getElem?_eq_getElem (by rw [hcl]; exact hj))
   exact ⟨World.cell?_setCell_same _ _ _ h1, (World.frozen?_setCell _ _ _ _).trans h2⟩
  ·rw [List.getElem?_set_ne (by omega)] at hu
   obtain ⟨h1, h2⟩ := h i hi j' _ hu
   exact ⟨sO h1 (by omega), (World.frozen?_setCell _ _ _ _).trans h2⟩
 ·rename_i e
  have hj' := clG_lt hcl hu
  have := idx_ne e hj hj'
  obtain ⟨h1, h2⟩ := h i hi j' _ hu
  exact ⟨sO h1 (by omega), (World.frozen?_setCell _ _ _ _).trans h2⟩
theorem RwZ.own {cap : Nat} {es : List α} (h : RwZ sz cl w b off n f) (hn : n = es.length) (hf : ∀ i (hi : i < es.length), f i = es[i]) (hb : base ≤ b) (hl : es.length ≤ 9223372036854775807) (hc : es.length ≤ cap ∧ cap ≤ 9223372036854775807) : OwnRw sz cl w base (.slice (some ⟨b, off, none⟩) es.length cap) es := by
 refine ⟨hl, some ⟨b, off, none⟩, cap, rfl, hc, .inr ⟨b, off, rfl, hb, fun i hi j u hu => ?_⟩⟩
 subst hn
 exact h i hi j u (by rw [hf i hi]; exact hu)
theorem OwnRw.rwZ {cap : Nat} {a : Option Addr} {es : List α} (z : α) (h : OwnRw sz cl w base (.slice a n cap) es) (hp : 0 < es.length) : ∃ b off, a = some ⟨b, off, none⟩ ∧ base ≤ b ∧ RwZ sz cl w b off es.length (fun i => es.getD i z) := by
 obtain ⟨-, a', cap', e, -, h⟩ := h
 cases e
 obtain ⟨b, off, rfl, hb, hc⟩ := orR_of_lt h hp
 refine ⟨b, off, rfl, hb, fun i hi j u hu => hc i hi j u ?_⟩
 dsimp only at hu
 rw [List.getD_eq_getElem?_getD, List.getElem?_eq_getElem hi] at hu
 exact hu
theorem Rw.elG {a : Option Addr} {cap : Nat} {es : List α} (h : Rw sz cl w (.slice a n cap) es) (hk : k < es.length) : ∃ b off, a = some ⟨b, off, none⟩ ∧ ∀ i (hi : i < es.length) j u, (cl es[i])[j]? = some u → w.cell? ⟨b, off + i * sz + j, none⟩ = some u := by
 obtain ⟨-, a', cap', e, -, h⟩ := h
 cases e
 exact orR_of_lt h hk
theorem OwnRw.ltZ {v : Value} {m : List α} (hcl : ∀ a, (cl a).length = sz) (hp : 0 < sz) (h : OwnRw sz cl w base v m) : m = [] ∨ bO v < w.heap.size := by
 obtain ⟨-, a, cap, rfl, -, h⟩ := h
 rcases h with h | ⟨b, off, rfl, hb, hc⟩
 ·exact .inl h
 ·rcases Nat.eq_zero_or_pos m.length with h1 | h1
  ·exact .inl (List.length_eq_zero_iff.1 h1)
  ·exact .inr (dCell_lt (hc 0 h1 0 _ (List.getElem?_eq_getElem (by rw [hcl]; exact hp))).1)
theorem OwnRw.geZ {v : Value} {m : List α} (h : OwnRw sz cl w base v m) : m = [] ∨ base ≤ bO v := by
 obtain ⟨-, a, cap, rfl, -, h⟩ := h
 rcases h with h | ⟨b, off, rfl, hb, hc⟩
 ·exact .inl h
 ·exact .inr hb
theorem OwnRw.farZ {b' o : Nat} {v : Value} {m : List α} (h : OwnRw sz cl w base v m) (hb : b' < base) (u : Value) : OwnRw sz cl (w.setCell ⟨b', o, none⟩ u) base v m := by
 obtain ⟨h0, a, cap, rfl, hcap, h⟩ := h
 refine ⟨h0, a, cap, rfl, hcap, ?_⟩
 rcases h with h | ⟨b', off, rfl, hb', hc⟩
 ·exact .inl h
 ·exact .inr ⟨b', off, rfl, hb', fun i hi j u' hu => ⟨sO (hc i hi j u' hu).1 (.inl (by omega)), (World.frozen?_setCell _ _ _ _).trans (hc i hi j u' hu).2⟩⟩
def OwG (sz : Nat) (cl : α → List Value) (lo hi : Nat) (v : Value) (m : List α) (W : World) : Prop := OwnRw sz cl W lo v m ∧ (m = [] ∨ bO v < hi)
theorem OwG.sits {lo hi : Nat} {v : Value} {m : List α} (h : OwG sz cl lo hi v m w) (hf : hi ≤ w.heap.size) : Sits (OwG sz cl lo hi v m) lo hi w := by
 refine ⟨hf, fun W hW => ⟨?_, h.2⟩⟩
 obtain ⟨⟨h0, a, cap, rfl, hcap, h⟩, hl⟩ := h
 refine ⟨h0, a, cap, rfl, hcap, ?_⟩
 rcases hl with hl | hl
 ·exact .inl hl
 ·rcases h with h | ⟨b, off, rfl, hb, hc⟩
  ·exact .inl h
  ·have e := hW b hb hl
   exact .inr ⟨b, off, rfl, hb, fun i hi j u hu => ⟨(World.cell?_of_block (a := ⟨b, off + i * sz + j, none⟩) e).trans (hc i hi j u hu).1, (World.frozen?_of_block (a := ⟨b, off + i * sz + j, none⟩) e).trans (hc i hi j u hu).2⟩⟩
theorem OwG.wide {lo hi lo' hi' : Nat} {v : Value} {m : List α} (h : OwG sz cl lo hi v m w) (h1 : lo' ≤ lo) (h2 : hi ≤ hi') : OwG sz cl lo' hi' v m w := ⟨h.1.mono h1, h.2.elim .inl fun h => .inr (by omega)⟩
theorem RwZ.made {T : TypeId} (z : Value) (e : α) (hz : z.cells.toList = cl e) (hcl : ∀ a, (cl a).length = sz) (w : World) (n : Nat) : RwZ sz cl (w.alloc (.cells (madeCells z.cells (n * sz)) T)) w.heap.size 0 n (fun _ => e) := fun i hi j u hu => by
 have hj := clG_lt hcl hu
 have hm := MapKept.heap_alloc w (.cells (madeCells z.cells (n * sz)) T)
 have hs : z.cells.size = sz := by rw [← Array.length_toList, hz, hcl]
 have hlt : i * sz + j < n * sz := by
  have := Nat.mul_le_mul_right sz (show i + 1 ≤ n from hi)
  rw [Nat.add_mul] at this
  omega
 refine ⟨?_, ?_⟩
 ·simp only [World.cell?, hm.1]
  rw [Nat.zero_add]
  have hu' : z.cells[j]? = some u := by rw [← Array.getElem?_toList, hz]; exact hu
  have h1 : (i * sz + j) % sz = j := by rw [Nat.mul_comm, Nat.mul_add_mod, Nat.mod_eq_of_lt hj]
  simp [madeCells, hlt, hs, h1, hu', getElem!_def]
 ·simp only [World.frozen?, hm.1]
  simp
end
section
variable {T TS : TypeId} {zs : List Value} {w : World} {ops : Array Oper} {o : Oper} {a : Act} {Q : Exit → Act → World → Prop} {K : Act → World → Prop} {F : Prop}
end
theorem touch_base {α : Type} {T TS : TypeId} {z : Value} {sz bytes : Nat} {cl : α → List Value} {w : World} {base b : Nat} {v : Value} {ms : List α} (E : Elem T TS z sz bytes cl) (h : ApR T sz cl w base v ms) (hb : b < base) : touch v ≠ some b := fun e => by have := (h.touched E e).1; omega
structure Ev where
 kind : Int
 pl : Int
 data : ByteArray
def Ev.cl (e : Ev) : List Value := [.int .i64 e.kind, .int .i64 e.pl, .string e.data]
def Ev.val (e : Ev) : Value := .agg #[.int .i64 e.kind, .int .i64 e.pl, .string e.data]
theorem Ev.cl_len (e : Ev) : e.cl.length = 3 := rfl
def zeroEv : Ev := ⟨0, 0, ⟨#[]⟩⟩
theorem elemEvent : Elem (α := Ev) 53 43 (.agg #[.int .i64 0, .int .i64 0, .string ⟨#[]⟩]) 3 32 Ev.cl where
 under := Tryz.underlying43
 info := by kernel_rfl
 zcells := by kernel_rfl
 pos := by decide
 len := fun _ => rfl
 one := fun a u hu => by
  simp only [Ev.cl, List.mem_cons, List.not_mem_nil, or_false] at hu
  rcases hu with rfl | rfl | rfl <;> rfl
def EvAt (w : World) (b o : Nat) (e : Ev) : Prop := w.cell? ⟨b, o, none⟩ = some (.int .i64 e.kind) ∧ w.cell? ⟨b, o + 1, none⟩ = some (.int .i64 e.pl) ∧ w.cell? ⟨b, o + 2, none⟩ = some (.string e.data)
theorem EvAt.below {w w' : World} {b o : Nat} {e : Ev} (h : EvAt w b o e) (hb : Below w.heap.size w w') : EvAt w' b o e := by
 obtain ⟨h0, h1, h2⟩ := h
 exact ⟨(hb.cell (p := ⟨b, o, none⟩) (dCell_lt h0)).trans h0, (hb.cell (p := ⟨b, o + 1, none⟩) (dCell_lt h1)).trans h1, (hb.cell (p := ⟨b, o + 2, none⟩) (dCell_lt h2)).trans h2⟩
theorem Rw.atEv {w : World} {a : Option Addr} {n cap : Nat} {es : List Ev} (h : Rw 3 Ev.cl w (.slice a n cap) es) {k : Nat} (hk : k < es.length) : ∃ b off, a = some ⟨b, off, none⟩ ∧ ∀ i (hi : i < es.length), EvAt w b (off + i * 3) es[i] := by
 obtain ⟨b, off, e, hc⟩ := h.elG hk
 exact ⟨b, off, e, fun i hi => ⟨hc i hi 0 _ rfl, hc i hi 1 _ rfl, hc i hi 2 _ rfl⟩⟩
theorem makeEvent (n : Nat) (h : n ≤ 1073741824) (w : World) : (Instr.makeSlice 43 (.int .i64 (n : Int)) (.int .i64 (n : Int))).run Tryz.prog w = .ok (.slice (some ⟨w.heap.size, 0, none⟩) n n) (w.alloc (.cells (madeCells (Value.agg #[.int .i64 0, .int .i64 0, .string ⟨#[]⟩]).cells (n * 3)) 53)) := by
 obtain ⟨i0, hi, hz0, hz1, hz2⟩ := info_parts (elemEvent).info
 have := run_make (P := Tryz.prog) w 43 53 i0 _ Tryz.underlying43 hi hz0 .i64 .i64 (n : Int) (n : Int) (by omega) (by omega) (by rw [hz2]; omega) (by omega)
 rw [hz1] at this
 simpa using this
theorem madeEvent (w : World) (n : Nat) : RwZ 3 Ev.cl (w.alloc (.cells (madeCells (Value.agg #[.int .i64 0, .int .i64 0, .string ⟨#[]⟩]).cells (n * 3)) 53)) w.heap.size 0 n (fun _ => zeroEv) := RwZ.made _ zeroEv rfl Ev.cl_len w n
def RdEventS (v : Value) (m : List Ev) (W : World) : Prop := Rw 3 Ev.cl W v m
def OwEventS (lo hi : Nat) (v : Value) (m : List Ev) (W : World) : Prop := OwG 3 Ev.cl lo hi v m W
theorem OwEventS.rd {lo hi : Nat} {v : Value} {m : List Ev} {W : World} (h : OwEventS lo hi v m W) : RdEventS v m W := OwnRw.rw h.1
theorem RdEventS.below {v : Value} {m : List Ev} {W W' : World} (h : RdEventS v m W) (b : Below W.heap.size W W') : RdEventS v m W' := Rw.below h b
theorem formEventS {v : Value} {m : List Ev} {W : World} (h : RdEventS v m W) : ∃ a cap, v = .slice a m.length cap ∧ m.length ≤ 9223372036854775807 := by
 obtain ⟨h0, a, cap, rfl, -, -⟩ := h
 exact ⟨a, cap, rfl, h0⟩
structure Aw where
 node : Int
 has : Bool
 ent : Ent
def Aw.cl (e : Aw) : List Value := [.int .i64 e.node, .bool e.has, .int .i64 e.ent.pl, .int .i64 e.ent.wave, .bool e.ent.hole, .string e.ent.data]
def Aw.val (e : Aw) : Value := .agg #[.int .i64 e.node, .bool e.has, .int .i64 e.ent.pl, .int .i64 e.ent.wave, .bool e.ent.hole, .string e.ent.data]
theorem Aw.cl_len (e : Aw) : e.cl.length = 6 := rfl
def zeroAw : Aw := ⟨0, false, ⟨0, 0, false, ⟨#[]⟩⟩⟩
theorem elemAnswer : Elem (α := Aw) 57 46 (.agg #[.int .i64 0, .bool false, .int .i64 0, .int .i64 0, .bool false, .string ⟨#[]⟩]) 6 56 Aw.cl where
 under := Tryz.underlying46
 info := by kernel_rfl
 zcells := by kernel_rfl
 pos := by decide
 len := fun _ => rfl
 one := fun a u hu => by
  simp only [Aw.cl, List.mem_cons, List.not_mem_nil, or_false] at hu
  rcases hu with rfl | rfl | rfl | rfl | rfl | rfl <;> rfl
def AwAt (w : World) (b o : Nat) (e : Aw) : Prop := w.cell? ⟨b, o, none⟩ = some (.int .i64 e.node) ∧ w.cell? ⟨b, o + 1, none⟩ = some (.bool e.has) ∧ w.cell? ⟨b, o + 2, none⟩ = some (.int .i64 e.ent.pl) ∧ w.cell? ⟨b, o + 3, none⟩ = some (.int .i64 e.ent.wave) ∧ w.cell? ⟨b, o + 4, none⟩ = some (.bool e.ent.hole) ∧ w.cell? ⟨b, o + 5, none⟩ = some (.string e.ent.data)
theorem AwAt.below {w w' : World} {b o : Nat} {e : Aw} (h : AwAt w b o e) (hb : Below w.heap.size w w') : AwAt w' b o e := by
 obtain ⟨h0, h1, h2, h3, h4, h5⟩ := h
 exact ⟨(hb.cell (p := ⟨b, o, none⟩) (dCell_lt h0)).trans h0, (hb.cell (p := ⟨b, o + 1, none⟩) (dCell_lt h1)).trans h1, (hb.cell (p := ⟨b, o + 2, none⟩) (dCell_lt h2)).trans h2, (hb.cell (p := ⟨b, o + 3, none⟩) (dCell_lt h3)).trans h3, (hb.cell (p := ⟨b, o + 4, none⟩) (dCell_lt h4)).trans h4, (hb.cell (p := ⟨b, o + 5, none⟩) (dCell_lt h5)).trans h5⟩
theorem Rw.atAw {w : World} {a : Option Addr} {n cap : Nat} {es : List Aw} (h : Rw 6 Aw.cl w (.slice a n cap) es) {k : Nat} (hk : k < es.length) : ∃ b off, a = some ⟨b, off, none⟩ ∧ ∀ i (hi : i < es.length), AwAt w b (off + i * 6) es[i] := by
 obtain ⟨b, off, e, hc⟩ := h.elG hk
 exact ⟨b, off, e, fun i hi => ⟨hc i hi 0 _ rfl, hc i hi 1 _ rfl, hc i hi 2 _ rfl, hc i hi 3 _ rfl, hc i hi 4 _ rfl, hc i hi 5 _ rfl⟩⟩
def RdAnswerS (v : Value) (m : List Aw) (W : World) : Prop := Rw 6 Aw.cl W v m
def OwAnswerS (lo hi : Nat) (v : Value) (m : List Aw) (W : World) : Prop := OwG 6 Aw.cl lo hi v m W
theorem OwAnswerS.rd {lo hi : Nat} {v : Value} {m : List Aw} {W : World} (h : OwAnswerS lo hi v m W) : RdAnswerS v m W := OwnRw.rw h.1
theorem RdAnswerS.below {v : Value} {m : List Aw} {W W' : World} (h : RdAnswerS v m W) (b : Below W.heap.size W W') : RdAnswerS v m W' := Rw.below h b
theorem formAnswerS {v : Value} {m : List Aw} {W : World} (h : RdAnswerS v m W) : ∃ a cap, v = .slice a m.length cap ∧ m.length ≤ 9223372036854775807 := by
 obtain ⟨h0, a, cap, rfl, -, -⟩ := h
 exact ⟨a, cap, rfl, h0⟩
theorem zallAw {w : World} {b off n k : Nat} {f : Nat → Aw} (h : RwZ 6 Aw.cl w b off n f) (hk : k < n) (e : Aw) :
  RwZ 6 Aw.cl ((((((w.setCell ⟨b, off + k * 6, none⟩ (.int .i64 e.node)).setCell ⟨b, off + k * 6 + 1, none⟩ (.bool e.has)).setCell ⟨b, off + k * 6 + 2, none⟩ (.int .i64 e.ent.pl)).setCell ⟨b, off + k * 6 + 3, none⟩ (.int .i64 e.ent.wave)).setCell ⟨b, off + k * 6 + 4, none⟩ (.bool e.ent.hole)).setCell ⟨b, off + k * 6 + 5, none⟩ (.string e.ent.data)) b off n (putZ f k e) := by
 have h1 := h.cell Aw.cl_len hk 0 (by decide) (.int .i64 e.node) ⟨e.node, (f k).has, ⟨(f k).ent.pl, (f k).ent.wave, (f k).ent.hole, (f k).ent.data⟩⟩ (by rfl)
 have h2 := h1.cell Aw.cl_len hk 1 (by decide) (.bool e.has) ⟨e.node, e.has, ⟨(f k).ent.pl, (f k).ent.wave, (f k).ent.hole, (f k).ent.data⟩⟩ (by simp only [putZ_same]; rfl)
 rw [putZ_twice] at h2
 have h3 := h2.cell Aw.cl_len hk 2 (by decide) (.int .i64 e.ent.pl) ⟨e.node, e.has, ⟨e.ent.pl, (f k).ent.wave, (f k).ent.hole, (f k).ent.data⟩⟩ (by simp only [putZ_same]; rfl)
 rw [putZ_twice] at h3
 have h4 := h3.cell Aw.cl_len hk 3 (by decide) (.int .i64 e.ent.wave) ⟨e.node, e.has, ⟨e.ent.pl, e.ent.wave, (f k).ent.hole, (f k).ent.data⟩⟩ (by simp only [putZ_same]; rfl)
 rw [putZ_twice] at h4
 have h5 := h4.cell Aw.cl_len hk 4 (by decide) (.bool e.ent.hole) ⟨e.node, e.has, ⟨e.ent.pl, e.ent.wave, e.ent.hole, (f k).ent.data⟩⟩ (by simp only [putZ_same]; rfl)
 rw [putZ_twice] at h5
 have h6 := h5.cell Aw.cl_len hk 5 (by decide) (.string e.ent.data) ⟨e.node, e.has, ⟨e.ent.pl, e.ent.wave, e.ent.hole, e.ent.data⟩⟩ (by simp only [putZ_same]; rfl)
 rw [putZ_twice] at h6
 exact h6
end Go.Proofs.YtjkjmapibcfcdaaGreat
