/- Rows of elements each of which has a list of ints of its own: read ('RdK'), owned ('OwK'); rows that may be written, element by element ('RowG'). -/
import Derived.Test.YtmgomacmaidmlaaGreatDoorSitN
import Derived.Test.YtmgomacmaidmlaaGreatDoorApP
import Derived.Laws.MakeOwn
namespace Go.Proofs.YtmgomacmaidmlaaGreatDoor
open Go.ChangeShapes Go.WideShapes Go.ChangeAt Go.RowKit
set_option linter.unusedVariables false
set_option linter.unusedSimpArgs false

/-- A model, and where the list lies that it has. -/
structure Nst (α : Type) where
  a : Option Addr
  c : Nat
  m : α
section
variable {α : Type}
/-- The list as a value. -/
def Sv (sub : α → List Int) (p : Nst α) : Value := .slice p.a (sub p.m).length p.c
/-- The slice v reads as ms, each with its list. -/
def RdK (sz : Nat) (sub : α → List Int) (cl : Nst α → List Value) (v : Value) (ms : List α) (W : World) : Prop :=
  ∃ rs : List (Nst α), rs.map Nst.m = ms ∧ Rw sz cl W v rs ∧ ∀ p ∈ rs, Ns W (Sv sub p) (sub p.m)
/-- The lists, and the row itself, lie in different blocks. -/
def Apart (sub : α → List Int) (v : Value) (rs : List (Nst α)) : Prop :=
  (∀ i j (hi : i < rs.length) (hj : j < rs.length), i ≠ j → sub rs[i].m = [] ∨ sub rs[j].m = [] ∨ blockOf (Sv sub rs[i]) ≠ blockOf (Sv sub rs[j])) ∧ ∀ i (hi : i < rs.length), sub rs[i].m = [] ∨ blockOf (Sv sub rs[i]) ≠ blockOf v
/-- .. in blocks lo .. hi - 1, all of which may be written. -/
def OwK (sz : Nat) (sub : α → List Int) (cl : Nst α → List Value) (lo hi : Nat) (v : Value) (ms : List α) (W : World) : Prop :=
  ∃ rs : List (Nst α), rs.map Nst.m = ms ∧ OwnRw sz cl W lo v rs ∧ (rs = [] ∨ blockOf v < hi) ∧ (∀ p ∈ rs, OwN lo hi (Sv sub p) (sub p.m) W) ∧ Apart sub v rs
variable {sz : Nat} {sub : α → List Int} {cl : Nst α → List Value} {v : Value} {ms : List α} {W W' : World} {lo hi : Nat}
theorem RdK.below (h : RdK sz sub cl v ms W) (b : Below W.heap.size W W') : RdK sz sub cl v ms W' := by
  obtain ⟨rs, h1, h2, h3⟩ := h
  exact ⟨rs, h1, h2.below b, fun p hp => (h3 p hp).below b⟩
theorem OwK.rd (h : OwK sz sub cl lo hi v ms W) : RdK sz sub cl v ms W := by
  obtain ⟨rs, h1, h2, -, h3, -⟩ := h
  exact ⟨rs, h1, h2.rw, fun p hp => (h3 p hp).rd⟩
theorem formK (h : RdK sz sub cl v ms W) : ∃ a cap, v = .slice a ms.length cap ∧ ms.length ≤ 9223372036854775807 := by
  obtain ⟨rs, rfl, ⟨h0, a, cap, rfl, -, -⟩, -⟩ := h
  exact ⟨a, cap, by simp, by simpa using h0⟩
theorem OwnRw.sitsR {rs : List (Nst α)} (h : OwnRw sz cl W lo v rs) (hl : rs = [] ∨ blockOf v < hi) (hW : ∀ k, lo ≤ k → k < hi → W'.heap[k]? = W.heap[k]?) : OwnRw sz cl W' lo v rs := by
  obtain ⟨h0, a, cap, rfl, hcap, h⟩ := h
  refine ⟨h0, a, cap, rfl, hcap, ?_⟩
  rcases hl with hl | hl
  · exact .inl hl
  · rcases h with h | ⟨b, off, rfl, hb, hc⟩
    · exact .inl h
    · have e := hW b hb hl
      exact .inr ⟨b, off, rfl, hb, fun i hi j u hu => ⟨(World.cell?_of_block (a := ⟨b, off + i * sz + j, none⟩) e).trans (hc i hi j u hu).1, (World.frozen?_of_block (a := ⟨b, off + i * sz + j, none⟩) e).trans (hc i hi j u hu).2⟩⟩
theorem OwK.sits (h : OwK sz sub cl lo hi v ms W) (hf : hi ≤ W.heap.size) : Sits (OwK sz sub cl lo hi v ms) lo hi W := by
  obtain ⟨rs, h1, h2, h3, h4, h5⟩ := h
  refine ⟨hf, fun w' hW => ⟨rs, h1, h2.sitsR h3 hW, h3, fun p hp => ((h4 p hp).sits hf).all w' hW, h5⟩⟩
theorem OwK.wide {lo' hi' : Nat} (h : OwK sz sub cl lo hi v ms W) (h1 : lo' ≤ lo) (h2 : hi ≤ hi') : OwK sz sub cl lo' hi' v ms W := by
  obtain ⟨rs, e1, e2, e3, e4, e5⟩ := h
  refine ⟨rs, e1, e2.mono h1, ?_, fun p hp => ⟨(e4 p hp).1.mono h1, ?_⟩, e5⟩
  · rcases e3 with h | h
    · exact .inl h
    · exact .inr (by omega)
  · rcases (e4 p hp).2 with h | h
    · exact .inl h
    · exact .inr (by omega)
theorem OwnRw.ltG {rs : List (Nst α)} (hcl : ∀ p, (cl p).length = sz) (hs : 0 < sz) (h : OwnRw sz cl W lo v rs) : rs = [] ∨ blockOf v < W.heap.size := by
  obtain ⟨-, a, cap, rfl, -, h⟩ := h
  rcases h with h | ⟨b, off, rfl, hb, hc⟩
  · exact .inl h
  · rcases Nat.eq_zero_or_pos rs.length with h1 | h1
    · exact .inl (List.length_eq_zero_iff.1 h1)
    · obtain ⟨u, hu⟩ : ∃ u, (cl rs[0])[0]? = some u := ⟨_, List.getElem?_eq_getElem (by rw [hcl rs[0]]; exact hs)⟩
      exact .inr (dCell_lt (hc 0 h1 0 u hu).1)
theorem OwnRw.geG {rs : List (Nst α)} (h : OwnRw sz cl W lo v rs) : rs = [] ∨ lo ≤ blockOf v := by
  obtain ⟨-, a, cap, rfl, -, h⟩ := h
  rcases h with h | ⟨b, off, rfl, hb, hc⟩
  · exact .inl h
  · exact .inr hb
/-- One element of a row that is read. -/
theorem Rw.el {a : Option Addr} {n cap : Nat} {rs : List (Nst α)} (h : Rw sz cl W (.slice a n cap) rs) {k : Nat} (hk : k < rs.length) : ∃ b off, a = some ⟨b, off, none⟩ ∧ ∀ i (hi : i < rs.length) j u, (cl rs[i])[j]? = some u → W.cell? ⟨b, off + i * sz + j, none⟩ = some u := by
  obtain ⟨-, a', cap', e, -, h⟩ := h
  cases e
  obtain ⟨b, off, rfl, hc⟩ := orR_of_lt h hk
  exact ⟨b, off, rfl, hc⟩
end
section
variable {β : Type} {sz : Nat} {cl : β → List Value} {w w' : World} {b off n k : Nat} {f : Nat → β}
/-- The elements f 0 .. f (n - 1) from the cell off on, which may be written. -/
def RowG (sz : Nat) (cl : β → List Value) (w : World) (b off n : Nat) (f : Nat → β) : Prop := ∀ i, i < n → ∀ j u, (cl (f i))[j]? = some u → w.cell? ⟨b, off + i * sz + j, none⟩ = some u ∧ w.frozen? ⟨b, off + i * sz + j, none⟩ = false
/-- One element is another. -/
def putG (f : Nat → β) (k : Nat) (e : β) : Nat → β := fun i => if i = k then e else f i
theorem putG_same (f : Nat → β) (k : Nat) (e : β) : putG f k e k = e := if_pos rfl
theorem putG_ne (f : Nat → β) {k i : Nat} (e : β) (h : i ≠ k) : putG f k e i = f i := if_neg h
theorem putG_twice (f : Nat → β) (k : Nat) (e e' : β) : putG (putG f k e) k e' = putG f k e' := by
  funext i
  unfold putG
  split <;> rfl
theorem RowG.below (h : RowG sz cl w b off n f) (hb : Below w.heap.size w w') : RowG sz cl w' b off n f := fun i hi j u hu =>
  ⟨(hb.cell (p := ⟨b, off + i * sz + j, none⟩) (dCell_lt (h i hi j u hu).1)).trans (h i hi j u hu).1, (hb.frozen (p := ⟨b, off + i * sz + j, none⟩) (dCell_lt (h i hi j u hu).1)).trans (h i hi j u hu).2⟩
theorem RowG.wr {lo hi : Nat} (h : RowG sz cl w b off n f) (hw : Wr lo hi w w') (hne : b < lo ∨ hi ≤ b) : RowG sz cl w' b off n f := fun i hi j u hu => by
  have e := hw.block b (dCell_lt (h i hi j u hu).1) hne
  exact ⟨(World.cell?_of_block (a := ⟨b, off + i * sz + j, none⟩) e).trans (h i hi j u hu).1, (World.frozen?_of_block (a := ⟨b, off + i * sz + j, none⟩) e).trans (h i hi j u hu).2⟩
/-- One cell of one element is written. -/
theorem RowG.put (h : RowG sz cl w b off n f) (hcl : ∀ p, (cl p).length = sz) (hk : k < n) (j : Nat) (hj : j < sz) (u : Value) (e : β) (he : cl e = (cl (f k)).set j u) : RowG sz cl (w.setCell ⟨b, off + k * sz + j, none⟩ u) b off n (putG f k e) := fun i hi j' u' hu => by
  have hf : ∀ a, (w.setCell ⟨b, off + k * sz + j, none⟩ u).frozen? a = w.frozen? a := fun a => World.frozen?_setCell _ _ _ _
  have hj' : j' < sz := by
    rcases Nat.lt_or_ge j' sz with h' | h'
    · exact h'
    · rw [List.getElem?_eq_none (by rw [hcl]; exact h')] at hu
      cases hu
  have old : ∀ i' (hi' : i' < n) j'', j'' < sz → ∃ x, (cl (f i'))[j'']? = some x := fun i' hi' j'' hj'' => ⟨_, List.getElem?_eq_getElem (by rw [hcl]; exact hj'')⟩
  rw [hf]
  by_cases e1 : i = k
  · subst e1
    rw [putG_same, he] at hu
    by_cases e2 : j' = j
    · subst e2
      rw [List.getElem?_set_self (by rw [hcl]; exact hj)] at hu
      cases hu
      obtain ⟨x, hx⟩ := old i hi j' hj
      exact ⟨World.cell?_setCell_same _ _ _ (h i hi j' x hx).1, (h i hi j' x hx).2⟩
    · rw [List.getElem?_set_ne (by omega)] at hu
      exact ⟨set_other (h i hi j' u' hu).1 (by omega), (h i hi j' u' hu).2⟩
  · rw [putG_ne _ _ e1] at hu
    refine ⟨set_other (h i hi j' u' hu).1 (.inr ?_), (h i hi j' u' hu).2⟩
    intro e3
    have e4 : i * sz + j' = k * sz + j := by omega
    have hs : 0 < sz := by omega
    have d1 : (i * sz + j') / sz = i := by rw [Nat.mul_comm, Nat.mul_add_div hs, Nat.div_eq_of_lt hj', Nat.add_zero]
    have d2 : (k * sz + j) / sz = k := by rw [Nat.mul_comm, Nat.mul_add_div hs, Nat.div_eq_of_lt hj, Nat.add_zero]
    rw [e4, d2] at d1
    exact e1 d1.symm
/-- What is written so reads as a list. -/
theorem RowG.own {base cap : Nat} {es : List β} (h : RowG sz cl w b off n f) (hn : n = es.length) (hf : ∀ i (hi : i < es.length), f i = es[i]) (hb : base ≤ b) (hl : es.length ≤ 9223372036854775807) (hc : es.length ≤ cap ∧ cap ≤ 9223372036854775807) : OwnRw sz cl w base (.slice (some ⟨b, off, none⟩) es.length cap) es := by
  refine ⟨hl, some ⟨b, off, none⟩, cap, rfl, hc, .inr ⟨b, off, rfl, hb, fun i hi j u hu => ?_⟩⟩
  subst hn
  exact h i hi j u (by rw [hf i hi]; exact hu)
/-- What is owned may be written so. -/
theorem OwnRw.rowG {base n cap : Nat} {a : Option Addr} {es : List β} (h : OwnRw sz cl w base (.slice a n cap) es) (hp : 0 < es.length) (z : β) : ∃ b off, a = some ⟨b, off, none⟩ ∧ base ≤ b ∧ RowG sz cl w b off es.length (fun i => es.getD i z) := by
  obtain ⟨-, a', cap', e, -, h⟩ := h
  cases e
  obtain ⟨b, off, rfl, hb, hc⟩ := orR_of_lt h hp
  refine ⟨b, off, rfl, hb, fun i hi j u hu => hc i hi j u ?_⟩
  dsimp only at hu
  rw [List.getD_eq_getElem?_getD, List.getElem?_eq_getElem hi] at hu
  exact hu
/-- A row of zero values. -/
theorem madeG_at (zc : Array Value) (n i j : Nat) (u : Value) (hz : zc.size = sz) (hi : i < n) (hu : zc[j]? = some u) : (madeCells zc (n * sz))[i * sz + j]? = some u := by
  have hj : j < sz := by
    rcases Nat.lt_or_ge j sz with h | h
    · exact h
    · rw [Array.getElem?_eq_none (by omega)] at hu
      cases hu
  have h1 : i * sz + j < n * sz := by
    have : (i + 1) * sz ≤ n * sz := Nat.mul_le_mul_right _ hi
    rw [Nat.add_mul] at this
    omega
  have h2 : (i * sz + j) % sz = j := by rw [Nat.mul_comm, Nat.mul_add_mod, Nat.mod_eq_of_lt hj]
  have h3 : j < zc.size := by omega
  have hx : zc[j] = u := by rw [Array.getElem?_eq_getElem h3] at hu; exact Option.some.inj hu
  subst hz
  simp [madeCells, h1, h2, hx, h3]
theorem RowG.made (w : World) (zc : Array Value) (n : Nat) (T : TypeId) (z : β) (hz : zc.size = sz) (hc : ∀ (j : Nat) (u : Value), (cl z)[j]? = some u → zc[j]? = some u) : RowG sz cl (w.alloc (.cells (madeCells zc (n * sz)) T)) w.heap.size 0 n (fun _ => z) := fun i hi j u hu => by
  have := MapKept.heap_alloc w (.cells (madeCells zc (n * sz)) T)
  refine ⟨?_, ?_⟩
  · simp only [World.cell?, this.1]
    rw [Nat.zero_add]
    exact madeG_at zc n i j u hz hi (hc j u hu)
  · simp only [World.frozen?, this.1]
    simp
end
end Go.Proofs.YtmgomacmaidmlaaGreatDoor
