/- Several texts in one: IntsEq, IntsTo, IntsMk, SitN, NsP, SitK. -/
import Derived.Test.YthndkkjgjhgdnaaGreatDoorGaA
import Derived.Laws.MakeOwn
import Derived.OwnWalk
namespace Go.Proofs.YthndkkjgjhgdnaaGreatDoor
open Go.ChangeShapes Go.WideShapes Go.ChangeAt Go.RowKit
set_option linter.unusedVariables false

theorem take_stepN (l m : List Int) (k : Nat) (h : k < l.length) (h' : k < m.length) (ht : l.take k = m.take k) (he : l[k] = m[k]) : l.take (k + 1) = m.take (k + 1) := by
  rw [List.take_succ_eq_append_getElem h, List.take_succ_eq_append_getElem h', ht, he]
end Go.Proofs.YthndkkjgjhgdnaaGreatDoor
namespace Go.Proofs.YthndkkjgjhgdnaaGreatDoor
open Go.ChangeShapes Go.WideShapes Go.ChangeAt Go.RowKit
set_option linter.unusedVariables false

theorem infoN : (Tryz.prog.info? 3).map (fun i => (i.zero, i.size, i.bytes)) = some (some (.int .i64 0), 1, 8) := by kernel_rfl
/-- n noughts. -/
def zerosN (n : Nat) : Array Value := madeCells (Value.int .i64 0).cells n
theorem zerosN_size (n : Nat) : (zerosN n).size = n := by simp [zerosN, size_madeCells]
theorem zerosN_at (n i : Nat) (h : i < n) : (zerosN n)[i]? = some (.int .i64 0) := by
  simp [zerosN, madeCells, h, Nat.mod_one, Value.cells]
theorem makeN (n : Nat) (h : n ≤ 1099511627776) (w : World) : (Instr.makeSlice 24 (.int .i64 (n : Int)) (.int .i64 (n : Int))).run Tryz.prog w = .ok (.slice (some ⟨w.heap.size, 0, none⟩) n n) (w.alloc (.cells (zerosN n) 3)) := by
  obtain ⟨i0, hi, hz0, hz1, hz2⟩ := info_parts infoN
  have := run_make (P := Tryz.prog) w 24 3 i0 (.int .i64 0) Tryz.underlying24 hi hz0 .i64 .i64 (n : Int) (n : Int) (by omega) (by omega) (by rw [hz2]; omega) (by omega)
  rw [hz1] at this
  simpa [zerosN] using this
/-- Where toIntS stands: k bytes are copied into block g. -/
def CopyInvN (w wr : World) (g k : Nat) (bs : List Int) : Prop :=
  (∀ i (h : i < bs.length), ∃ c : Int, wr.cell? ⟨g, i, none⟩ = some (.int .i64 c) ∧ (i < k → c = bs[i]) ∧ wr.frozen? ⟨g, i, none⟩ = false) ∧ k ≤ bs.length ∧ Below w.heap.size w wr ∧ w.heap.size ≤ g ∧ g < wr.heap.size
theorem CopyInvN.start {w : World} {bs : List Int} : CopyInvN w (w.alloc (.cells (zerosN bs.length) 3)) w.heap.size 0 bs := by
  refine ⟨fun i hi => ⟨0, ?_, fun h => by omega, ?_⟩, Nat.zero_le _, (Below.refl _ _).alloc (Nat.le_refl _) _, Nat.le_refl _, by simp⟩
  · have := MapKept.heap_alloc w (.cells (zerosN bs.length) 3)
    simp only [World.cell?, this.1]
    exact zerosN_at _ _ hi
  · have := MapKept.heap_alloc w (.cells (zerosN bs.length) 3)
    simp only [World.frozen?, this.1]
    simp
theorem CopyInvN.now {w wr : World} {g k : Nat} {bs : List Int} (h : Hid (CopyInvN w wr g k bs)) (hk : k < bs.length) : (∃ c : Int, wr.cell? ⟨g, k, none⟩ = some (.int .i64 c)) ∧ wr.frozen? ⟨g, k, none⟩ = false := by
  obtain ⟨c, h1, -, h3⟩ := h.1 k hk
  exact ⟨⟨c, h1⟩, h3⟩
theorem CopyInvN.step {w wr : World} {g k : Nat} {bs : List Int} (h : Hid (CopyInvN w wr g k bs)) (hk : k < bs.length) {x : Int} (hx : x = bs[k]) : CopyInvN w (wr.setCell ⟨g, k, none⟩ (.int .i64 x)) g (k + 1) bs := by
  obtain ⟨h1, h2, h3, h4, h5⟩ := h
  refine ⟨fun i hi => ?_, hk, h3.setCell h4 _, h4, by simpa using h5⟩
  obtain ⟨c, c1, c2, c3⟩ := h1 i hi
  by_cases e : i = k
  · subst e
    exact ⟨x, World.cell?_setCell_same _ _ _ c1, fun _ => hx, (World.frozen?_setCell _ _ _ _).trans c3⟩
  · exact ⟨c, set_other c1 (by omega), fun hi' => c2 (by omega), (World.frozen?_setCell _ _ _ _).trans c3⟩
theorem CopyInvN.done {w wr : World} {g : Nat} {bs : List Int} (h : Hid (CopyInvN w wr g bs.length bs)) (h0 : bs.length ≤ 9223372036854775807) : OwnN wr w.heap.size (.slice (some ⟨g, 0, none⟩) bs.length bs.length) bs := by
  obtain ⟨h1, h2, h3, h4, h5⟩ := h
  refine ⟨h0, some ⟨g, 0, none⟩, _, rfl, ⟨Nat.le_refl _, h0⟩, .inr ⟨g, 0, rfl, h4, fun i hi => ?_⟩⟩
  obtain ⟨c, c1, c2, c3⟩ := h1 i hi
  rw [← c2 hi, Nat.zero_add]
  exact ⟨c1, c3⟩
end Go.Proofs.YthndkkjgjhgdnaaGreatDoor
namespace Go.Proofs.YthndkkjgjhgdnaaGreatDoor
open Go.ChangeShapes Go.WideShapes Go.ChangeAt Go.RowKit
set_option linter.unusedVariables false

/-- The marksN from k on, n of them. -/
def marksN (k n : Nat) : List Int := (List.range n).map fun i => ((k + i : Nat) : Int)
theorem marksN_len (k n : Nat) : (marksN k n).length = n := by simp [marksN]
theorem marksN_at (k n i : Nat) (h : i < (marksN k n).length) : (marksN k n)[i] = ((k + i : Nat) : Int) := by simp [marksN]
/-- Where markIntS stands: behind k marksN. -/
def MarkInvN (w wr : World) (b off k0 k : Nat) (bs : List Int) : Prop :=
  (∀ i, i < bs.length → ∃ c : Int, wr.cell? ⟨b, off + i, none⟩ = some (.int .i64 c) ∧ (i < k → c = ((k0 + i : Nat) : Int)) ∧ wr.frozen? ⟨b, off + i, none⟩ = false) ∧ k ≤ bs.length ∧ Drawn b w wr ∧ (k = 0 → wr = w)
theorem MarkInvN.start {w : World} {b off k0 : Nat} {bs : List Int} (hc : Hid (∀ i (h : i < bs.length), w.cell? ⟨b, off + i, none⟩ = some (.int .i64 bs[i]) ∧ w.frozen? ⟨b, off + i, none⟩ = false)) : MarkInvN w w b off k0 0 bs :=
  ⟨fun i hi => ⟨_, (hc i hi).1, fun h => by omega, (hc i hi).2⟩, Nat.zero_le _, Drawn.refl _ _, fun _ => rfl⟩
theorem MarkInvN.now {w wr : World} {b off k0 k : Nat} {bs : List Int} (h : Hid (MarkInvN w wr b off k0 k bs)) (hk : k < bs.length) : (∃ c : Int, wr.cell? ⟨b, off + k, none⟩ = some (.int .i64 c)) ∧ wr.frozen? ⟨b, off + k, none⟩ = false := by
  obtain ⟨c, h1, -, h3⟩ := h.1 k hk
  exact ⟨⟨c, h1⟩, h3⟩
theorem MarkInvN.step {w wr : World} {b off k0 k : Nat} {bs : List Int} (h : Hid (MarkInvN w wr b off k0 k bs)) (hk : k < bs.length) {x : Int} (hx : x = ((k0 + k : Nat) : Int)) : MarkInvN w (wr.setCell ⟨b, off + k, none⟩ (.int .i64 x)) b off k0 (k + 1) bs := by
  obtain ⟨h1, h2, h3, -⟩ := h
  refine ⟨fun i hi => ?_, hk, h3.setCell _ _, fun h => by omega⟩
  obtain ⟨c, c1, c2, c3⟩ := h1 i hi
  by_cases e : i = k
  · subst e
    exact ⟨x, World.cell?_setCell_same _ _ _ c1, fun _ => hx, (World.frozen?_setCell _ _ _ _).trans c3⟩
  · exact ⟨c, set_other c1 (by omega), fun hi' => c2 (by omega), (World.frozen?_setCell _ _ _ _).trans c3⟩
theorem MarkInvN.done {w wr : World} {b off k0 cap base : Nat} {bs : List Int} (h : Hid (MarkInvN w wr b off k0 bs.length bs)) (h0 : bs.length ≤ 9223372036854775807) (hcap : bs.length ≤ cap ∧ cap ≤ 9223372036854775807) (hb : base ≤ b) : OwnN wr base (.slice (some ⟨b, off, none⟩) bs.length cap) (marksN k0 bs.length) := by
  obtain ⟨h1, h2, h3, -⟩ := h
  refine ⟨by rw [marksN_len]; exact h0, some ⟨b, off, none⟩, cap, by rw [marksN_len], by rw [marksN_len]; exact hcap, .inr ⟨b, off, rfl, hb, fun i hi => ?_⟩⟩
  have hi' : i < bs.length := by simpa [marksN_len] using hi
  obtain ⟨c, c1, c2, c3⟩ := h1 i hi'
  rw [marksN_at, ← c2 hi']
  exact ⟨c1, c3⟩
end Go.Proofs.YthndkkjgjhgdnaaGreatDoor
namespace Go.Proofs.YthndkkjgjhgdnaaGreatDoor
open Go.ChangeShapes Go.WideShapes Go.ChangeAt Go.RowKit
set_option linter.unusedVariables false

/-- The slice v reads as xs, lies in a block of lo .. hi - 1, and may be written. -/
def OwN (lo hi : Nat) (v : Value) (xs : List Int) (W : World) : Prop := OwnN W lo v xs ∧ (xs = [] ∨ blockOf v < hi)
theorem OwN.rd {lo hi : Nat} {v : Value} {xs : List Int} {W : World} (h : OwN lo hi v xs W) : Ns W v xs := h.1.bs
theorem Ns.lt {w : World} {v : Value} {xs : List Int} (h : Ns w v xs) : xs = [] ∨ blockOf v < w.heap.size := by
  obtain ⟨-, a, cap, rfl, -, h⟩ := h
  rcases h with h | ⟨b, off, rfl, hc⟩
  · exact .inl h
  · rcases Nat.eq_zero_or_pos xs.length with h1 | h1
    · exact .inl (List.length_eq_zero_iff.1 h1)
    · exact .inr (dCell_lt (hc 0 h1))
theorem OwnN.ge {w : World} {base : Nat} {v : Value} {xs : List Int} (h : OwnN w base v xs) : xs = [] ∨ base ≤ blockOf v := by
  obtain ⟨-, a, cap, rfl, -, h⟩ := h
  rcases h with h | ⟨b, off, rfl, hb, hc⟩
  · exact .inl h
  · exact .inr hb
theorem Ns.sits {w : World} {v : Value} {xs : List Int} (h : Ns w v xs) : Sits (fun W => Ns W v xs) 0 w.heap.size w := by
  refine ⟨Nat.le_refl _, fun W hW => ?_⟩
  obtain ⟨h0, a, cap, rfl, hcap, h⟩ := h
  refine ⟨h0, a, cap, rfl, hcap, ?_⟩
  rcases h with h | ⟨b, off, rfl, hc⟩
  · exact .inl h
  · exact .inr ⟨b, off, rfl, fun i hi => (World.cell?_of_block (a := ⟨b, off + i, none⟩) (hW b (Nat.zero_le _) (dCell_lt (hc i hi)))).trans (hc i hi)⟩
theorem OwN.sits {lo hi : Nat} {w : World} {v : Value} {xs : List Int} (h : OwN lo hi v xs w) (hf : hi ≤ w.heap.size) : Sits (OwN lo hi v xs) lo hi w := by
  refine ⟨hf, fun W hW => ⟨?_, h.2⟩⟩
  obtain ⟨⟨h0, a, cap, rfl, hcap, h⟩, hl⟩ := h
  refine ⟨h0, a, cap, rfl, hcap, ?_⟩
  rcases hl with hl | hl
  · exact .inl hl
  · rcases h with h | ⟨b, off, rfl, hb, hc⟩
    · exact .inl h
    · have e := hW b hb hl
      exact .inr ⟨b, off, rfl, hb, fun i hi => ⟨(World.cell?_of_block (a := ⟨b, off + i, none⟩) e).trans (hc i hi).1, (World.frozen?_of_block (a := ⟨b, off + i, none⟩) e).trans (hc i hi).2⟩⟩
theorem OwnN.sits {w : World} {base : Nat} {v : Value} {xs : List Int} (h : OwnN w base v xs) : Sits (OwN base w.heap.size v xs) base w.heap.size w := OwN.sits ⟨h, h.bs.lt⟩ (Nat.le_refl _)
end Go.Proofs.YthndkkjgjhgdnaaGreatDoor
namespace Go.Proofs.YthndkkjgjhgdnaaGreatDoor
open Go.ChangeShapes Go.WideShapes Go.ChangeAt Go.RowKit
set_option linter.unusedVariables false
set_option linter.unusedSimpArgs false

/-- A model, and where the list lies that it has. -/
structure Nst (α : Type) where
  a : Option Addr
  c : Nat
  m : α
section
variable {α : Type}
/-- The list as a value. -/
def Sv (sub : α → List Int) (p : Nst α) : Value := .slice p.a (sub p.m).length p.c
/-- The slice v reads as ms, each with its list. -/
def RdK (sz : Nat) (sub : α → List Int) (cl : Nst α → List Value) (v : Value) (ms : List α) (W : World) : Prop :=
  ∃ rs : List (Nst α), rs.map Nst.m = ms ∧ Rw sz cl W v rs ∧ ∀ p ∈ rs, Ns W (Sv sub p) (sub p.m)
/-- The lists, and the row itself, lie in different blocks. -/
def Apart (sub : α → List Int) (v : Value) (rs : List (Nst α)) : Prop :=
  (∀ i j (hi : i < rs.length) (hj : j < rs.length), i ≠ j → sub rs[i].m = [] ∨ sub rs[j].m = [] ∨ blockOf (Sv sub rs[i]) ≠ blockOf (Sv sub rs[j])) ∧ ∀ i (hi : i < rs.length), sub rs[i].m = [] ∨ blockOf (Sv sub rs[i]) ≠ blockOf v
/-- .. in blocks lo .. hi - 1, all of which may be written. -/
def OwK (sz : Nat) (sub : α → List Int) (cl : Nst α → List Value) (lo hi : Nat) (v : Value) (ms : List α) (W : World) : Prop :=
  ∃ rs : List (Nst α), rs.map Nst.m = ms ∧ OwnRw sz cl W lo v rs ∧ (rs = [] ∨ blockOf v < hi) ∧ (∀ p ∈ rs, OwN lo hi (Sv sub p) (sub p.m) W) ∧ Apart sub v rs
variable {sz : Nat} {sub : α → List Int} {cl : Nst α → List Value} {v : Value} {ms : List α} {W W' : World} {lo hi : Nat}
theorem RdK.below (h : RdK sz sub cl v ms W) (b : Below W.heap.size W W') : RdK sz sub cl v ms W' := by
  obtain ⟨rs, h1, h2, h3⟩ := h
  exact ⟨rs, h1, h2.below b, fun p hp => (h3 p hp).below b⟩
theorem OwK.rd (h : OwK sz sub cl lo hi v ms W) : RdK sz sub cl v ms W := by
  obtain ⟨rs, h1, h2, -, h3, -⟩ := h
  exact ⟨rs, h1, h2.rw, fun p hp => (h3 p hp).rd⟩
theorem formK (h : RdK sz sub cl v ms W) : ∃ a cap, v = .slice a ms.length cap ∧ ms.length ≤ 9223372036854775807 := by
  obtain ⟨rs, rfl, ⟨h0, a, cap, rfl, -, -⟩, -⟩ := h
  exact ⟨a, cap, by simp, by simpa using h0⟩
theorem OwnRw.sitsR {rs : List (Nst α)} (h : OwnRw sz cl W lo v rs) (hl : rs = [] ∨ blockOf v < hi) (hW : ∀ k, lo ≤ k → k < hi → W'.heap[k]? = W.heap[k]?) : OwnRw sz cl W' lo v rs := by
  obtain ⟨h0, a, cap, rfl, hcap, h⟩ := h
  refine ⟨h0, a, cap, rfl, hcap, ?_⟩
  rcases hl with hl | hl
  · exact .inl hl
  · rcases h with h | ⟨b, off, rfl, hb, hc⟩
    · exact .inl h
    · have e := hW b hb hl
      exact .inr ⟨b, off, rfl, hb, fun i hi j u hu => ⟨(World.cell?_of_block (a := ⟨b, off + i * sz + j, none⟩) e).trans (hc i hi j u hu).1, (World.frozen?_of_block (a := ⟨b, off + i * sz + j, none⟩) e).trans (hc i hi j u hu).2⟩⟩
theorem OwK.sits (h : OwK sz sub cl lo hi v ms W) (hf : hi ≤ W.heap.size) : Sits (OwK sz sub cl lo hi v ms) lo hi W := by
  obtain ⟨rs, h1, h2, h3, h4, h5⟩ := h
  refine ⟨hf, fun w' hW => ⟨rs, h1, h2.sitsR h3 hW, h3, fun p hp => ((h4 p hp).sits hf).all w' hW, h5⟩⟩
theorem OwK.wide {lo' hi' : Nat} (h : OwK sz sub cl lo hi v ms W) (h1 : lo' ≤ lo) (h2 : hi ≤ hi') : OwK sz sub cl lo' hi' v ms W := by
  obtain ⟨rs, e1, e2, e3, e4, e5⟩ := h
  refine ⟨rs, e1, e2.mono h1, ?_, fun p hp => ⟨(e4 p hp).1.mono h1, ?_⟩, e5⟩
  · rcases e3 with h | h
    · exact .inl h
    · exact .inr (by omega)
  · rcases (e4 p hp).2 with h | h
    · exact .inl h
    · exact .inr (by omega)
theorem OwnRw.ltG {rs : List (Nst α)} (hcl : ∀ p, (cl p).length = sz) (hs : 0 < sz) (h : OwnRw sz cl W lo v rs) : rs = [] ∨ blockOf v < W.heap.size := by
  obtain ⟨-, a, cap, rfl, -, h⟩ := h
  rcases h with h | ⟨b, off, rfl, hb, hc⟩
  · exact .inl h
  · rcases Nat.eq_zero_or_pos rs.length with h1 | h1
    · exact .inl (List.length_eq_zero_iff.1 h1)
    · obtain ⟨u, hu⟩ : ∃ u, (cl rs[0])[0]? = some u := ⟨_, List.getElem?_eq_getElem (by rw [hcl rs[0]]; exact hs)⟩
      exact .inr (dCell_lt (hc 0 h1 0 u hu).1)
theorem OwnRw.geG {rs : List (Nst α)} (h : OwnRw sz cl W lo v rs) : rs = [] ∨ lo ≤ blockOf v := by
  obtain ⟨-, a, cap, rfl, -, h⟩ := h
  rcases h with h | ⟨b, off, rfl, hb, hc⟩
  · exact .inl h
  · exact .inr hb
/-- One element of a row that is read. -/
theorem Rw.el {a : Option Addr} {n cap : Nat} {rs : List (Nst α)} (h : Rw sz cl W (.slice a n cap) rs) {k : Nat} (hk : k < rs.length) : ∃ b off, a = some ⟨b, off, none⟩ ∧ ∀ i (hi : i < rs.length) j u, (cl rs[i])[j]? = some u → W.cell? ⟨b, off + i * sz + j, none⟩ = some u := by
  obtain ⟨-, a', cap', e, -, h⟩ := h
  cases e
  obtain ⟨b, off, rfl, hc⟩ := orR_of_lt h hk
  exact ⟨b, off, rfl, hc⟩
end
section
variable {β : Type} {sz : Nat} {cl : β → List Value} {w w' : World} {b off n k : Nat} {f : Nat → β}
/-- The elements f 0 .. f (n - 1) from the cell off on, which may be written. -/
def RowG (sz : Nat) (cl : β → List Value) (w : World) (b off n : Nat) (f : Nat → β) : Prop := ∀ i, i < n → ∀ j u, (cl (f i))[j]? = some u → w.cell? ⟨b, off + i * sz + j, none⟩ = some u ∧ w.frozen? ⟨b, off + i * sz + j, none⟩ = false
/-- One element is another. -/
def putG (f : Nat → β) (k : Nat) (e : β) : Nat → β := fun i => if i = k then e else f i
theorem putG_same (f : Nat → β) (k : Nat) (e : β) : putG f k e k = e := if_pos rfl
theorem putG_ne (f : Nat → β) {k i : Nat} (e : β) (h : i ≠ k) : putG f k e i = f i := if_neg h
theorem putG_twice (f : Nat → β) (k : Nat) (e e' : β) : putG (putG f k e) k e' = putG f k e' := by
  funext i
  unfold putG
  split <;> rfl
theorem RowG.below (h : RowG sz cl w b off n f) (hb : Below w.heap.size w w') : RowG sz cl w' b off n f := fun i hi j u hu =>
  ⟨(hb.cell (p := ⟨b, off + i * sz + j, none⟩) (dCell_lt (h i hi j u hu).1)).trans (h i hi j u hu).1, (hb.frozen (p := ⟨b, off + i * sz + j, none⟩) (dCell_lt (h i hi j u hu).1)).trans (h i hi j u hu).2⟩
theorem RowG.wr {lo hi : Nat} (h : RowG sz cl w b off n f) (hw : Wr lo hi w w') (hne : b < lo ∨ hi ≤ b) : RowG sz cl w' b off n f := fun i hi j u hu => by
  have e := hw.block b (dCell_lt (h i hi j u hu).1) hne
  exact ⟨(World.cell?_of_block (a := ⟨b, off + i * sz + j, none⟩) e).trans (h i hi j u hu).1, (World.frozen?_of_block (a := ⟨b, off + i * sz + j, none⟩) e).trans (h i hi j u hu).2⟩
/-- One cell of one element is written. -/
theorem RowG.put (h : RowG sz cl w b off n f) (hcl : ∀ p, (cl p).length = sz) (hk : k < n) (j : Nat) (hj : j < sz) (u : Value) (e : β) (he : cl e = (cl (f k)).set j u) : RowG sz cl (w.setCell ⟨b, off + k * sz + j, none⟩ u) b off n (putG f k e) := fun i hi j' u' hu => by
  have hf : ∀ a, (w.setCell ⟨b, off + k * sz + j, none⟩ u).frozen? a = w.frozen? a := fun a => World.frozen?_setCell _ _ _ _
  have hj' : j' < sz := by
    rcases Nat.lt_or_ge j' sz with h' | h'
    · exact h'
    · rw [List.getElem?_eq_none (by rw [hcl]; exact h')] at hu
      cases hu
  have old : ∀ i' (hi' : i' < n) j'', j'' < sz → ∃ x, (cl (f i'))[j'']? = some x := fun i' hi' j'' hj'' => ⟨_, List.getElem?_eq_getElem (by rw [hcl]; exact hj'')⟩
  rw [hf]
  by_cases e1 : i = k
  · subst e1
    rw [putG_same, he] at hu
    by_cases e2 : j' = j
    · subst e2
      rw [List.getElem?_set_self (by rw [hcl]; exact hj)] at hu
      cases hu
      obtain ⟨x, hx⟩ := old i hi j' hj
      exact ⟨World.cell?_setCell_same _ _ _ (h i hi j' x hx).1, (h i hi j' x hx).2⟩
    · rw [List.getElem?_set_ne (by omega)] at hu
      exact ⟨set_other (h i hi j' u' hu).1 (by omega), (h i hi j' u' hu).2⟩
  · rw [putG_ne _ _ e1] at hu
    refine ⟨set_other (h i hi j' u' hu).1 (.inr ?_), (h i hi j' u' hu).2⟩
    intro e3
    have e4 : i * sz + j' = k * sz + j := by omega
    have hs : 0 < sz := by omega
    have d1 : (i * sz + j') / sz = i := by rw [Nat.mul_comm, Nat.mul_add_div hs, Nat.div_eq_of_lt hj', Nat.add_zero]
    have d2 : (k * sz + j) / sz = k := by rw [Nat.mul_comm, Nat.mul_add_div hs, Nat.div_eq_of_lt hj, Nat.add_zero]
    rw [e4, d2] at d1
    exact e1 d1.symm
/-- What is written so reads as a list. -/
theorem RowG.own {base cap : Nat} {es : List β} (h : RowG sz cl w b off n f) (hn : n = es.length) (hf : ∀ i (hi : i < es.length), f i = es[i]) (hb : base ≤ b) (hl : es.length ≤ 9223372036854775807) (hc : es.length ≤ cap ∧ cap ≤ 9223372036854775807) : OwnRw sz cl w base (.slice (some ⟨b, off, none⟩) es.length cap) es := by
  refine ⟨hl, some ⟨b, off, none⟩, cap, rfl, hc, .inr ⟨b, off, rfl, hb, fun i hi j u hu => ?_⟩⟩
  subst hn
  exact h i hi j u (by rw [hf i hi]; exact hu)
/-- What is owned may be written so. -/
theorem OwnRw.rowG {base n cap : Nat} {a : Option Addr} {es : List β} (h : OwnRw sz cl w base (.slice a n cap) es) (hp : 0 < es.length) (z : β) : ∃ b off, a = some ⟨b, off, none⟩ ∧ base ≤ b ∧ RowG sz cl w b off es.length (fun i => es.getD i z) := by
  obtain ⟨-, a', cap', e, -, h⟩ := h
  cases e
  obtain ⟨b, off, rfl, hb, hc⟩ := orR_of_lt h hp
  refine ⟨b, off, rfl, hb, fun i hi j u hu => hc i hi j u ?_⟩
  dsimp only at hu
  rw [List.getD_eq_getElem?_getD, List.getElem?_eq_getElem hi] at hu
  exact hu
/-- A row of zero values. -/
theorem madeG_at (zc : Array Value) (n i j : Nat) (u : Value) (hz : zc.size = sz) (hi : i < n) (hu : zc[j]? = some u) : (madeCells zc (n * sz))[i * sz + j]? = some u := by
  have hj : j < sz := by
    rcases Nat.lt_or_ge j sz with h | h
    · exact h
    · rw [Array.getElem?_eq_none (by omega)] at hu
      cases hu
  have h1 : i * sz + j < n * sz := by
    have : (i + 1) * sz ≤ n * sz := Nat.mul_le_mul_right _ hi
    rw [Nat.add_mul] at this
    omega
  have h2 : (i * sz + j) % sz = j := by rw [Nat.mul_comm, Nat.mul_add_mod, Nat.mod_eq_of_lt hj]
  have h3 : j < zc.size := by omega
  have hx : zc[j] = u := by rw [Array.getElem?_eq_getElem h3] at hu; exact Option.some.inj hu
  subst hz
  simp [madeCells, h1, h2, hx, h3]
theorem RowG.made (w : World) (zc : Array Value) (n : Nat) (T : TypeId) (z : β) (hz : zc.size = sz) (hc : ∀ (j : Nat) (u : Value), (cl z)[j]? = some u → zc[j]? = some u) : RowG sz cl (w.alloc (.cells (madeCells zc (n * sz)) T)) w.heap.size 0 n (fun _ => z) := fun i hi j u hu => by
  have := MapKept.heap_alloc w (.cells (madeCells zc (n * sz)) T)
  refine ⟨?_, ?_⟩
  · simp only [World.cell?, this.1]
    rw [Nat.zero_add]
    exact madeG_at zc n i j u hz hi (hc j u hu)
  · simp only [World.frozen?, this.1]
    simp
end
end Go.Proofs.YthndkkjgjhgdnaaGreatDoor
namespace Go.Proofs.YthndkkjgjhgdnaaGreatDoor
open Go.ChangeShapes Go.WideShapes Go.ChangeAt Go.RowKit
set_option linter.unusedVariables false
set_option linter.unusedSimpArgs false
set_option maxRecDepth 100000

/-- What lies apart is owned as a whole. -/
theorem OwK.build {α : Type} {sz : Nat} {sub : α → List Int} {cl : Nst α → List Value} {w : World} {lo hi b off n cap : Nat} {f : Nat → Nst α} (h : RowG sz cl w b off n f) (hb : lo ≤ b) (hbl : n = 0 ∨ b < hi) (hn : n ≤ cap ∧ cap ≤ 9223372036854775807)
    (hs : ∀ i, i < n → OwN lo hi (Sv sub (f i)) (sub (f i).m) w) (hd : ∀ i j, i < n → j < n → i ≠ j → sub (f i).m = [] ∨ sub (f j).m = [] ∨ blockOf (Sv sub (f i)) ≠ blockOf (Sv sub (f j))) (hr : ∀ i, i < n → sub (f i).m = [] ∨ blockOf (Sv sub (f i)) ≠ b) :
    OwK sz sub cl lo hi (.slice (some ⟨b, off, none⟩) n cap) ((List.range n).map fun i => (f i).m) w := by
  have hl : ((List.range n).map f).length = n := by simp
  have hq := h.own (es := (List.range n).map f) (base := lo) (cap := cap) hl.symm (fun i hi => by simp) hb (by omega) (by omega)
  rw [hl] at hq
  refine ⟨(List.range n).map f, by simp, hq, ?_, fun p hp => ?_, fun i j hi hj hij => ?_, fun i hi => ?_⟩
  · rcases hbl with h | h
    · left; subst h; rfl
    · exact .inr h
  · obtain ⟨i, hi, rfl⟩ := List.mem_map.1 hp
    exact hs i (List.mem_range.1 hi)
  · have e1 : ((List.range n).map f)[i] = f i := by simp
    have e2 : ((List.range n).map f)[j] = f j := by simp
    rw [e1, e2]
    exact hd i j (by omega) (by omega) hij
  · have e1 : ((List.range n).map f)[i] = f i := by simp
    rw [e1]
    exact hr i (by omega)
theorem range_map_m {α : Type} {n : Nat} {f : Nat → Nst α} {ms : List α} (hl : n = ms.length) (h : ∀ i (hi : i < ms.length), (f i).m = ms[i]) : ((List.range n).map fun i => (f i).m) = ms := by
  subst hl
  apply List.ext_getElem
  · simp
  · intro i h1 h2
    simp [h i h2]
theorem Bx.farB {w : World} {b b' o : Nat} {vs : List Value} (h : Bx w b vs) (hb : b ≠ b') (u : Value) : Bx (w.setCell ⟨b', o, none⟩ u) b vs := fun i v hv => set_other (h i v hv) (.inl hb)
theorem OwK.far {α : Type} {sz : Nat} {sub : α → List Int} {cl : Nst α → List Value} {lo hi b o : Nat} {v : Value} {ms : List α} {w : World} (h : OwK sz sub cl lo hi v ms w) (hb : b < lo) (u : Value) : OwK sz sub cl lo hi v ms (w.setCell ⟨b, o, none⟩ u) := by
  obtain ⟨rs, e1, e2, e3, e4, e5⟩ := h
  have hW : ∀ k, lo ≤ k → k < hi → (w.setCell ⟨b, o, none⟩ u).heap[k]? = w.heap[k]? := fun k h1 h2 => Below.heap_setCell _ _ _ k (fun e => by simp at e; omega)
  exact ⟨rs, e1, e2.sitsR e3 hW, e3, fun p hp => ⟨(e4 p hp).1.far hb _, (e4 p hp).2⟩, e5⟩
theorem OwN.wr {lo hi lo' hi' : Nat} {v : Value} {m : List Int} {w w' : World} (h : OwN lo hi v m w) (hw : Wr lo' hi' w w') (hne : m = [] ∨ blockOf v < lo' ∨ hi' ≤ blockOf v) : OwN lo hi v m w' := by
  have hlt := h.1.bs.lt
  obtain ⟨⟨h0, a, cap, rfl, hcap, h⟩, hl⟩ := h
  refine ⟨⟨h0, a, cap, rfl, hcap, ?_⟩, hl⟩
  rcases hne with hne | hne
  · exact .inl hne
  · rcases h with h | ⟨b', off, rfl, hb, hc⟩
    · exact .inl h
    · rcases hlt with hlt | hlt
      · exact .inl hlt
      · have e := hw.block b' hlt hne
        exact .inr ⟨b', off, rfl, hb, fun i hi => ⟨(World.cell?_of_block (a := ⟨b', off + i, none⟩) e).trans (hc i hi).1, (World.frozen?_of_block (a := ⟨b', off + i, none⟩) e).trans (hc i hi).2⟩⟩
theorem OwN.narrow {lo hi : Nat} {v : Value} {m : List Int} {w : World} (h : OwN lo hi v m w) (hm : m ≠ []) : OwN (blockOf v) (blockOf v + 1) v m w ∧ lo ≤ blockOf v ∧ blockOf v < hi := by
  have h1 := h.1.ge.resolve_left hm
  have h2 := h.2.resolve_left hm
  refine ⟨⟨?_, .inr (by omega)⟩, h1, h2⟩
  obtain ⟨⟨h0, a, cap, rfl, hcap, h⟩, -⟩ := h
  refine ⟨h0, a, cap, rfl, hcap, ?_⟩
  rcases h with h | ⟨b', off, rfl, hb, hc⟩
  · exact .inl h
  · exact .inr ⟨b', off, rfl, Nat.le_refl _, hc⟩
theorem OwN.wide {lo hi lo' hi' : Nat} {v : Value} {m : List Int} {w : World} (h : OwN lo hi v m w) (h1 : lo' ≤ lo) (h2 : hi ≤ hi') : OwN lo' hi' v m w := ⟨h.1.mono h1, by rcases h.2 with h | h; exact .inl h; exact .inr (by omega)⟩
theorem nil_of_len {l l' : List Int} (h : l.length = l'.length) : l = [] ↔ l' = [] := by
  rw [← List.length_eq_zero_iff, ← List.length_eq_zero_iff, h]
theorem getD_lt {α : Type} {l : List α} {i : Nat} (z : α) (h : i < l.length) : l.getD i z = l[i] := by
  rw [List.getD_eq_getElem?_getD, List.getElem?_eq_getElem h]
  rfl
theorem RowG.congr {β : Type} {sz : Nat} {cl : β → List Value} {w : World} {b off n : Nat} {f f' : Nat → β} (h : RowG sz cl w b off n f) (hf : ∀ i, i < n → f' i = f i) : RowG sz cl w b off n f' := fun i hi j u hu => h i hi j u (by rw [← hf i hi]; exact hu)
theorem Wr.setW {lo hi b o : Nat} {w wr : World} (h : Wr lo hi w wr) (h1 : lo ≤ b) (h2 : b < hi) (u : Value) : Wr lo hi w (wr.setCell ⟨b, o, none⟩ u) :=
  h.trans ⟨rfl, rfl, rfl, by simp, fun k hk hn => Below.heap_setCell _ _ _ k (fun e => by simp at e; omega)⟩
theorem OwN.putW {lo hi b o : Nat} {v : Value} {m : List Int} {w : World} (h : OwN lo hi v m w) (hne : m = [] ∨ blockOf v ≠ b) (u : Value) : OwN lo hi v m (w.setCell ⟨b, o, none⟩ u) :=
  h.wr (lo' := b) (hi' := b + 1) ⟨rfl, rfl, rfl, by simp, fun k hk hn => Below.heap_setCell _ _ _ k (fun e => by simp at e; omega)⟩ (by rcases hne with h | h; exact .inl h; exact .inr (by omega))
theorem mod3_eq (n : Nat) : ((n : Int) % 3 == 0) = (n % 3 == 0) := by
  by_cases h : n % 3 = 0
  · have h' : (n : Int) % 3 = 0 := by omega
    rw [h, h']; rfl
  · have h' : ¬ (n : Int) % 3 = 0 := by omega
    rw [beq_eq_false_iff_ne.2 h, beq_eq_false_iff_ne.2 h']
end Go.Proofs.YthndkkjgjhgdnaaGreatDoor
