/- Several texts in one: EntA, EntC, EsP, EzP, StA, ImFp. -/
import Derived.Test.YthndkkjgjhgdnaaDoorGbP
import Derived.Test.YthndkkjgjhgdnaaDoorGaA
import Derived.Test.YthndkkjgjhgdnaaDoorGaC
import Derived.Laws.MakeOwn
import Derived.OwnWalk
namespace Go.Proofs.YthndkkjgjhgdnaaDoor
open Go.ChangeShapes Go.WideShapes Go.ChangeAt Go.RowKit
set_option linter.unusedVariables false

/-- An entry. -/
structure Ent where
  pl : Int
  wave : Int
  hole : Bool
  data : ByteArray
/-- An entry as a value. -/
def Ent.val (e : Ent) : Value := .agg #[.int .i64 e.pl, .int .i64 e.wave, .bool e.hole, .string e.data]
/-- Its numbers are ints. -/
def Ent.fits (e : Ent) : Prop := -9223372036854775808 ≤ e.pl ∧ e.pl ≤ 9223372036854775807 ∧ -9223372036854775808 ≤ e.wave ∧ e.wave ≤ 9223372036854775807 ∧ e.data.size ≤ 9223372036854775807
/-- An entry that is right. -/
def entP (e : Ent) : Prop := isPl e.pl ∧ 0 ≤ e.wave ∧ e.wave ≤ 30 ∧ (0 < e.wave → e.pl / 4294967296 < e.wave) ∧ e.data.size ≤ 40 ∧ (e.hole = true → 0 < e.wave ∧ e.data.size = 0)
end Go.Proofs.YthndkkjgjhgdnaaDoor
namespace Go.Proofs.YthndkkjgjhgdnaaDoor
open Go.ChangeShapes Go.WideShapes Go.ChangeAt Go.RowKit
set_option linter.unusedVariables false

/-- The better one. -/
def better (a b : Ent) : Ent := if a.wave < b.wave then b else a
end Go.Proofs.YthndkkjgjhgdnaaDoor
namespace Go.Proofs.YthndkkjgjhgdnaaDoor
open Go.ChangeShapes Go.WideShapes Go.ChangeAt Go.RowKit
set_option linter.unusedVariables false

/-- The cells of an entry. -/
def Ent.cl (e : Ent) : List Value := [.int .i64 e.pl, .int .i64 e.wave, .bool e.hole, .string e.data]
/-- Each is an entry of ints. -/
def fitE (es : List Ent) : Prop := ∀ e ∈ es, e.fits
/-- The four cells of one entry of a slice. -/
def EntAt (w : World) (b o : Nat) (e : Ent) : Prop := w.cell? ⟨b, o, none⟩ = some (.int .i64 e.pl) ∧ w.cell? ⟨b, o + 1, none⟩ = some (.int .i64 e.wave) ∧ w.cell? ⟨b, o + 2, none⟩ = some (.bool e.hole) ∧ w.cell? ⟨b, o + 3, none⟩ = some (.string e.data)
theorem EntAt.below {w w' : World} {b o : Nat} {e : Ent} (h : EntAt w b o e) (hb : Below w.heap.size w w') : EntAt w' b o e :=
  ⟨(hb.cell (p := ⟨b, o, none⟩) (dCell_lt h.1)).trans h.1, (hb.cell (p := ⟨b, o + 1, none⟩) (dCell_lt h.2.1)).trans h.2.1, (hb.cell (p := ⟨b, o + 2, none⟩) (dCell_lt h.2.2.1)).trans h.2.2.1, (hb.cell (p := ⟨b, o + 3, none⟩) (dCell_lt h.2.2.2)).trans h.2.2.2⟩
theorem Rw.ent {w : World} {a : Option Addr} {n cap : Nat} {es : List Ent} (h : Rw 4 Ent.cl w (.slice a n cap) es) {k : Nat} (hk : k < es.length) : ∃ b off, a = some ⟨b, off, none⟩ ∧ ∀ i (hi : i < es.length), EntAt w b (off + i * 4) es[i] := by
  obtain ⟨-, a', cap', e, -, h⟩ := h
  cases e
  obtain ⟨b, off, rfl, hc⟩ := orR_of_lt h hk
  exact ⟨b, off, rfl, fun i hi => ⟨hc i hi 0 _ rfl, hc i hi 1 _ rfl, hc i hi 2 _ rfl, hc i hi 3 _ rfl⟩⟩
/-- A new block of one entry. -/
theorem rw_one (w : World) (e : Ent) (T : TypeId) (c : Nat) (hc : 1 ≤ c ∧ c ≤ 9223372036854775807) : Rw 4 Ent.cl (w.alloc (.cells #[.int .i64 e.pl, .int .i64 e.wave, .bool e.hole, .string e.data] T)) (.slice (some ⟨w.heap.size, 0, none⟩) 1 c) [e] := by
  refine ⟨by simp, _, _, rfl, by simpa using hc, .inr ⟨w.heap.size, 0, rfl, fun i hi j u hu => ?_⟩⟩
  obtain rfl : i = 0 := by simp at hi; omega
  simp only [List.getElem_cons_zero, Ent.cl] at hu
  simpa using hu
end Go.Proofs.YthndkkjgjhgdnaaDoor
namespace Go.Proofs.YthndkkjgjhgdnaaDoor
open Go.ChangeShapes Go.WideShapes Go.ChangeAt Go.RowKit
set_option linter.unusedVariables false

/-- The four cells of an entry, which may be written. -/
def EntZ (w : World) (b o : Nat) (e : Ent) : Prop := ∀ j u, e.cl[j]? = some u → w.cell? ⟨b, o + j, none⟩ = some u ∧ w.frozen? ⟨b, o + j, none⟩ = false
theorem EntZ.at {w : World} {b o : Nat} {e : Ent} (h : EntZ w b o e) : EntAt w b o e := ⟨(h 0 _ rfl).1, (h 1 _ rfl).1, (h 2 _ rfl).1, (h 3 _ rfl).1⟩
theorem EntZ.below {w w' : World} {b o : Nat} {e : Ent} (h : EntZ w b o e) (hb : Below w.heap.size w w') : EntZ w' b o e := fun j u hu =>
  ⟨(hb.cell (p := ⟨b, o + j, none⟩) (dCell_lt (h j u hu).1)).trans (h j u hu).1, (hb.frozen (p := ⟨b, o + j, none⟩) (dCell_lt (h j u hu).1)).trans (h j u hu).2⟩
theorem cl_lt {e : Ent} {j : Nat} {u : Value} (h : e.cl[j]? = some u) : j < 4 := by
  rcases Nat.lt_or_ge j 4 with h' | h'
  · exact h'
  · rw [List.getElem?_eq_none (by simpa [Ent.cl] using h')] at h
    cases h
/-- A cell elsewhere is written. -/
theorem EntZ.far {w : World} {b o b' o' : Nat} {e : Ent} (h : EntZ w b o e) (hn : b' ≠ b ∨ o' < o ∨ o + 4 ≤ o') (u : Value) : EntZ (w.setCell ⟨b', o', none⟩ u) b o e := fun j v hv => by
  have := cl_lt hv
  exact ⟨set_other (h j v hv).1 (by omega), (World.frozen?_setCell _ _ _ _).trans (h j v hv).2⟩
theorem EntZ.pl {w : World} {b o : Nat} {e : Ent} (h : EntZ w b o e) (x : Int) : EntZ (w.setCell ⟨b, o, none⟩ (.int .i64 x)) b o ⟨x, e.wave, e.hole, e.data⟩ := fun j v hv => by
  have hj := cl_lt hv
  have hf : ∀ j u, e.cl[j]? = some u → (w.setCell ⟨b, o, none⟩ (.int .i64 x)).frozen? ⟨b, o + j, none⟩ = false := fun j u hu => (World.frozen?_setCell _ _ _ _).trans (h j u hu).2
  match j, hj with
  | 0, _ => cases hv; exact ⟨World.cell?_setCell_same _ _ _ (h 0 _ rfl).1, hf 0 _ rfl⟩
  | 1, _ => cases hv; exact ⟨set_other (h 1 _ rfl).1 (by omega), hf 1 _ rfl⟩
  | 2, _ => cases hv; exact ⟨set_other (h 2 _ rfl).1 (by omega), hf 2 _ rfl⟩
  | 3, _ => cases hv; exact ⟨set_other (h 3 _ rfl).1 (by omega), hf 3 _ rfl⟩
theorem EntZ.wave {w : World} {b o : Nat} {e : Ent} (h : EntZ w b o e) (x : Int) : EntZ (w.setCell ⟨b, o + 1, none⟩ (.int .i64 x)) b o ⟨e.pl, x, e.hole, e.data⟩ := fun j v hv => by
  have hj := cl_lt hv
  have hf : ∀ j u, e.cl[j]? = some u → (w.setCell ⟨b, o + 1, none⟩ (.int .i64 x)).frozen? ⟨b, o + j, none⟩ = false := fun j u hu => (World.frozen?_setCell _ _ _ _).trans (h j u hu).2
  match j, hj with
  | 0, _ => cases hv; exact ⟨set_other (h 0 _ rfl).1 (by omega), hf 0 _ rfl⟩
  | 1, _ => cases hv; exact ⟨World.cell?_setCell_same _ _ _ (h 1 _ rfl).1, hf 1 _ rfl⟩
  | 2, _ => cases hv; exact ⟨set_other (h 2 _ rfl).1 (by omega), hf 2 _ rfl⟩
  | 3, _ => cases hv; exact ⟨set_other (h 3 _ rfl).1 (by omega), hf 3 _ rfl⟩
theorem EntZ.hole {w : World} {b o : Nat} {e : Ent} (h : EntZ w b o e) (x : Bool) : EntZ (w.setCell ⟨b, o + 2, none⟩ (.bool x)) b o ⟨e.pl, e.wave, x, e.data⟩ := fun j v hv => by
  have hj := cl_lt hv
  have hf : ∀ j u, e.cl[j]? = some u → (w.setCell ⟨b, o + 2, none⟩ (.bool x)).frozen? ⟨b, o + j, none⟩ = false := fun j u hu => (World.frozen?_setCell _ _ _ _).trans (h j u hu).2
  match j, hj with
  | 0, _ => cases hv; exact ⟨set_other (h 0 _ rfl).1 (by omega), hf 0 _ rfl⟩
  | 1, _ => cases hv; exact ⟨set_other (h 1 _ rfl).1 (by omega), hf 1 _ rfl⟩
  | 2, _ => cases hv; exact ⟨World.cell?_setCell_same _ _ _ (h 2 _ rfl).1, hf 2 _ rfl⟩
  | 3, _ => cases hv; exact ⟨set_other (h 3 _ rfl).1 (by omega), hf 3 _ rfl⟩
theorem EntZ.data {w : World} {b o : Nat} {e : Ent} (h : EntZ w b o e) (x : ByteArray) : EntZ (w.setCell ⟨b, o + 3, none⟩ (.string x)) b o ⟨e.pl, e.wave, e.hole, x⟩ := fun j v hv => by
  have hj := cl_lt hv
  have hf : ∀ j u, e.cl[j]? = some u → (w.setCell ⟨b, o + 3, none⟩ (.string x)).frozen? ⟨b, o + j, none⟩ = false := fun j u hu => (World.frozen?_setCell _ _ _ _).trans (h j u hu).2
  match j, hj with
  | 0, _ => cases hv; exact ⟨set_other (h 0 _ rfl).1 (by omega), hf 0 _ rfl⟩
  | 1, _ => cases hv; exact ⟨set_other (h 1 _ rfl).1 (by omega), hf 1 _ rfl⟩
  | 2, _ => cases hv; exact ⟨set_other (h 2 _ rfl).1 (by omega), hf 2 _ rfl⟩
  | 3, _ => cases hv; exact ⟨World.cell?_setCell_same _ _ _ (h 3 _ rfl).1, hf 3 _ rfl⟩
/-- The entries f 0 .. f (n - 1) from the cell off on. -/
def RowZ (w : World) (b off n : Nat) (f : Nat → Ent) : Prop := ∀ i, i < n → EntZ w b (off + i * 4) (f i)
/-- One entry is another. -/
def putF (f : Nat → Ent) (k : Nat) (e : Ent) : Nat → Ent := fun i => if i = k then e else f i
theorem RowZ.below {w w' : World} {b off n : Nat} {f : Nat → Ent} (h : RowZ w b off n f) (hb : Below w.heap.size w w') : RowZ w' b off n f := fun i hi => (h i hi).below hb
theorem RowZ.part {w w' : World} {b off n k : Nat} {f : Nat → Ent} {e : Ent} (h : RowZ w b off n f) (hk : k < n) (he : EntZ w' b (off + k * 4) e) (ho : ∀ i, i < n → i ≠ k → EntZ w' b (off + i * 4) (f i)) : RowZ w' b off n (putF f k e) := fun i hi => by
  unfold putF
  split
  · rename_i e1; subst e1; exact he
  · rename_i e1; exact ho i hi e1
theorem RowZ.pl {w : World} {b off n k : Nat} {f : Nat → Ent} (h : RowZ w b off n f) (hk : k < n) (x : Int) : RowZ (w.setCell ⟨b, off + k * 4, none⟩ (.int .i64 x)) b off n (putF f k ⟨x, (f k).wave, (f k).hole, (f k).data⟩) :=
  h.part hk ((h k hk).pl x) fun i hi hn => (h i hi).far (by omega) _
theorem RowZ.wave {w : World} {b off n k : Nat} {f : Nat → Ent} (h : RowZ w b off n f) (hk : k < n) (x : Int) : RowZ (w.setCell ⟨b, off + k * 4 + 1, none⟩ (.int .i64 x)) b off n (putF f k ⟨(f k).pl, x, (f k).hole, (f k).data⟩) :=
  h.part hk ((h k hk).wave x) fun i hi hn => (h i hi).far (by omega) _
theorem RowZ.hole {w : World} {b off n k : Nat} {f : Nat → Ent} (h : RowZ w b off n f) (hk : k < n) (x : Bool) : RowZ (w.setCell ⟨b, off + k * 4 + 2, none⟩ (.bool x)) b off n (putF f k ⟨(f k).pl, (f k).wave, x, (f k).data⟩) :=
  h.part hk ((h k hk).hole x) fun i hi hn => (h i hi).far (by omega) _
theorem RowZ.data {w : World} {b off n k : Nat} {f : Nat → Ent} (h : RowZ w b off n f) (hk : k < n) (x : ByteArray) : RowZ (w.setCell ⟨b, off + k * 4 + 3, none⟩ (.string x)) b off n (putF f k ⟨(f k).pl, (f k).wave, (f k).hole, x⟩) :=
  h.part hk ((h k hk).data x) fun i hi hn => (h i hi).far (by omega) _
theorem putF_same (f : Nat → Ent) (k : Nat) (e : Ent) : putF f k e k = e := if_pos rfl
theorem putF_twice (f : Nat → Ent) (k : Nat) (e e' : Ent) : putF (putF f k e) k e' = putF f k e' := by
  funext i
  unfold putF
  split <;> rfl
/-- All four cells are written. -/
theorem RowZ.all {w : World} {b off n k : Nat} {f : Nat → Ent} (h : RowZ w b off n f) (hk : k < n) (e : Ent) :
    RowZ ((((w.setCell ⟨b, off + k * 4, none⟩ (.int .i64 e.pl)).setCell ⟨b, off + k * 4 + 1, none⟩ (.int .i64 e.wave)).setCell ⟨b, off + k * 4 + 2, none⟩ (.bool e.hole)).setCell ⟨b, off + k * 4 + 3, none⟩ (.string e.data)) b off n (putF f k e) := by
  have h1 := (((h.pl hk e.pl).wave hk e.wave).hole hk e.hole).data hk e.data
  simpa [putF_same, putF_twice] using h1
/-- Zero entries. -/
def zeroEnt : Ent := ⟨0, 0, false, ⟨#[]⟩⟩
/-- The cells of n entries of nothing. -/
def zerosE (n : Nat) : Array Value := madeCells (Value.agg #[.int .i64 0, .int .i64 0, .bool false, .string ⟨#[]⟩]).cells (n * 4)
theorem zerosE_at (n i j : Nat) (u : Value) (h : i < n) (hu : zeroEnt.cl[j]? = some u) : (zerosE n)[i * 4 + j]? = some u := by
  have hj := cl_lt hu
  have e : (Value.agg #[.int .i64 0, .int .i64 0, .bool false, .string ⟨#[]⟩]).cells = #[.int .i64 0, .int .i64 0, .bool false, .string ⟨#[]⟩] := by kernel_rfl
  unfold zerosE
  rw [e]
  have hm : (i * 4 + j) % 4 = j := by omega
  have hlt : i * 4 + j < n * 4 := by omega
  rw [← hu]
  match j, hj with
  | 0, _ =>
    have h0 : i * 4 < n * 4 := by omega
    have m0 : i * 4 % 4 = 0 := by omega
    simp [madeCells, h0, m0, Ent.cl, zeroEnt]
  | 1, _ => simp [madeCells, hlt, hm, Ent.cl, zeroEnt]
  | 2, _ => simp [madeCells, hlt, hm, Ent.cl, zeroEnt]
  | 3, _ => simp [madeCells, hlt, hm, Ent.cl, zeroEnt]
theorem RowZ.made (w : World) (n : Nat) (T : TypeId) : RowZ (w.alloc (.cells (zerosE n) T)) w.heap.size 0 n (fun _ => zeroEnt) := fun i hi j u hu => by
  have := MapKept.heap_alloc w (.cells (zerosE n) T)
  refine ⟨?_, ?_⟩
  · simp only [World.cell?, this.1]
    rw [Nat.zero_add]
    exact zerosE_at n i j u hi hu
  · simp only [World.frozen?, this.1]
    simp
/-- What is written so reads as a list. -/
theorem RowZ.own {w : World} {b off n base cap : Nat} {f : Nat → Ent} {es : List Ent} (h : RowZ w b off n f) (hn : n = es.length) (hf : ∀ i (hi : i < es.length), f i = es[i]) (hb : base ≤ b) (hl : es.length ≤ 9223372036854775807) (hc : es.length ≤ cap ∧ cap ≤ 9223372036854775807) : OwnRw 4 Ent.cl w base (.slice (some ⟨b, off, none⟩) es.length cap) es := by
  refine ⟨hl, some ⟨b, off, none⟩, cap, rfl, hc, .inr ⟨b, off, rfl, hb, fun i hi j u hu => ?_⟩⟩
  subst hn
  have := h i hi j u (by rw [hf i hi]; exact hu)
  exact this
/-- What is owned may be written so. -/
theorem OwnRw.rowZ {w : World} {base n cap : Nat} {a : Option Addr} {es : List Ent} (h : OwnRw 4 Ent.cl w base (.slice a n cap) es) (hp : 0 < es.length) : ∃ b off, a = some ⟨b, off, none⟩ ∧ base ≤ b ∧ RowZ w b off es.length (fun i => es.getD i zeroEnt) := by
  obtain ⟨-, a', cap', e, -, h⟩ := h
  cases e
  obtain ⟨b, off, rfl, hb, hc⟩ := orR_of_lt h hp
  refine ⟨b, off, rfl, hb, fun i hi j u hu => hc i hi j u ?_⟩
  dsimp only at hu
  rw [List.getD_eq_getElem?_getD, List.getElem?_eq_getElem hi] at hu
  exact hu
end Go.Proofs.YthndkkjgjhgdnaaDoor
namespace Go.Proofs.YthndkkjgjhgdnaaDoor
set_option linter.unusedVariables false

/-- A store. -/
structure St where
  kept : List Ent
  late : List Ent
  lock : Int
/-- At most n entries, each right. -/
def listP (es : List Ent) (n : Nat) : Prop := es.length ≤ n ∧ ∀ e ∈ es, entP e
/-- Ascending by place. -/
def ascE (es : List Ent) : Prop := ∀ i (h : i + 1 < es.length), es[i].pl < es[i + 1].pl
/-- A store that is right. -/
def stP (s : St) : Prop := listP s.kept 200 ∧ listP s.late 20 ∧ ascE s.kept ∧ 0 ≤ s.lock ∧ s.lock ≤ 30
theorem ascE_lt {es : List Ent} (h : ascE es) : ∀ j i (hj : j < es.length) (hij : i < j), es[i].pl < es[j].pl := by
  intro j
  induction j with
  | zero => intro i hj hij; omega
  | succ n ih =>
    intro i hj hij
    have h1 := h n hj
    rcases Nat.lt_or_ge i n with hlt | hge
    · have := ih i (by omega) hlt
      omega
    · obtain rfl : i = n := by omega
      exact h1
theorem ascE_iff (es : List Ent) : ascE es ↔ es.Pairwise (fun a b => a.pl < b.pl) := by
  constructor
  · intro h
    exact List.pairwise_iff_getElem.2 fun i j hi hj hij => ascE_lt h j i hj hij
  · intro h i hi
    exact List.pairwise_iff_getElem.1 h i (i + 1) (by omega) hi (by omega)
/-- What is kept with e. -/
def keepL (e : Ent) : List Ent → List Ent
  | [] => [e]
  | a :: l => if a.pl = e.pl then better a e :: l else if e.pl < a.pl then e :: a :: l else a :: keepL e l
theorem keepL_len (e : Ent) (l : List Ent) : (keepL e l).length ≤ l.length + 1 ∧ l.length ≤ (keepL e l).length := by
  induction l with
  | nil => simp [keepL]
  | cons a l ih =>
    unfold keepL
    split
    · simp
    · split
      · simp
      · simp
        omega
theorem better_pl {a b : Ent} (h : a.pl = b.pl) : (better a b).pl = a.pl := by
  unfold better
  split
  · exact h.symm
  · rfl
theorem better_or (a b : Ent) : better a b = a ∨ better a b = b := by
  unfold better
  split
  · exact .inr rfl
  · exact .inl rfl
theorem mem_keepL {e x : Ent} {l : List Ent} (h : x ∈ keepL e l) : x = e ∨ x ∈ l := by
  induction l with
  | nil => simp [keepL] at h; exact .inl h
  | cons a l ih =>
    unfold keepL at h
    split at h
    · rcases List.mem_cons.1 h with rfl | h
      · rcases better_or a e with h | h
        · exact .inr (by rw [h]; simp)
        · exact .inl h
      · exact .inr (by simp [h])
    · split at h
      · rcases List.mem_cons.1 h with h | h
        · exact .inl h
        · exact .inr h
      · rcases List.mem_cons.1 h with h | h
        · exact .inr (by simp [h])
        · rcases ih h with h | h
          · exact .inl h
          · exact .inr (by simp [h])
theorem pl_keepL {e x : Ent} {l : List Ent} (h : x ∈ keepL e l) : x.pl = e.pl ∨ ∃ y ∈ l, y.pl = x.pl := by
  rcases mem_keepL h with rfl | h
  · exact .inl rfl
  · exact .inr ⟨x, h, rfl⟩
theorem keepL_asc {e : Ent} {l : List Ent} (h : l.Pairwise (fun a b => a.pl < b.pl)) : (keepL e l).Pairwise (fun a b => a.pl < b.pl) := by
  induction l with
  | nil => simp [keepL]
  | cons a l ih =>
    obtain ⟨h1, h2⟩ := List.pairwise_cons.1 h
    unfold keepL
    split
    · rename_i he
      refine List.pairwise_cons.2 ⟨fun b hb => ?_, h2⟩
      rw [better_pl he]
      exact h1 b hb
    · rename_i he
      split
      · rename_i hlt
        refine List.pairwise_cons.2 ⟨fun b hb => ?_, h⟩
        rcases List.mem_cons.1 hb with rfl | hb
        · exact hlt
        · have := h1 b hb
          omega
      · rename_i hlt
        refine List.pairwise_cons.2 ⟨fun b hb => ?_, ih h2⟩
        rcases pl_keepL hb with hb | ⟨y, hy, hb⟩
        · omega
        · rw [← hb]; exact h1 y hy
/-- Whether bit i of a number is set. -/
def bitE (keep : Int) (i : Nat) : Bool := keep / 2 ^ i % 2 == 1
/-- What is kept of late entries: those whose bit is set. -/
def crashL (kept : List Ent) (keep : Int) : List Ent → Nat → List Ent
  | [], _ => kept
  | e :: l, i => crashL (if bitE keep i then keepL e kept else kept) keep l (i + 1)
theorem crashL_snoc (kept : List Ent) (keep : Int) (l : List Ent) (e : Ent) (i : Nat) : crashL kept keep (l ++ [e]) i = (if bitE keep (i + l.length) then keepL e (crashL kept keep l i) else crashL kept keep l i) := by
  induction l generalizing kept i with
  | nil => simp [crashL]
  | cons a l ih =>
    rw [List.cons_append]
    unfold crashL
    rw [ih]
    have e1 : i + 1 + l.length = i + (a :: l).length := by simp; omega
    rw [e1]
theorem crashL_len (keep : Int) : ∀ (l : List Ent) (kept : List Ent) (i : Nat), (crashL kept keep l i).length ≤ kept.length + l.length
  | [], kept, i => by simp [crashL]
  | e :: l, kept, i => by
    unfold crashL
    have := crashL_len keep l (if bitE keep i then keepL e kept else kept) (i + 1)
    have h2 := (keepL_len e kept).1
    have h3 : (if bitE keep i then keepL e kept else kept).length ≤ kept.length + 1 := by split <;> omega
    simp only [List.length_cons]
    omega
theorem crashL_all {P : Ent → Prop} (keep : Int) : ∀ (l : List Ent) (kept : List Ent) (i : Nat), (∀ e ∈ kept, P e) → (∀ e ∈ l, P e) → ∀ e ∈ crashL kept keep l i, P e
  | [], kept, i, h, _ => h
  | a :: l, kept, i, h, hl => by
    unfold crashL
    refine crashL_all keep l _ _ (fun e he => ?_) fun e he => hl e (by simp [he])
    split at he
    · rcases mem_keepL he with rfl | he
      · exact hl e (by simp)
      · exact h e he
    · exact h e he
theorem crashL_asc (keep : Int) : ∀ (l : List Ent) (kept : List Ent) (i : Nat), kept.Pairwise (fun a b => a.pl < b.pl) → (crashL kept keep l i).Pairwise (fun a b => a.pl < b.pl)
  | [], kept, i, h => h
  | a :: l, kept, i, h => by
    unfold crashL
    refine crashL_asc keep l _ _ ?_
    split
    · exact keepL_asc h
    · exact h
/-- Whether an entry that is right is not refused. -/
def takesP (s : St) (e : Ent) : Prop := if e.wave = 0 then s.lock < e.pl / 4294967296 else s.lock < e.wave
/-- What is kept behind a crash. -/
def crashK (s : St) (keep : Int) : List Ent := crashL s.kept keep s.late 0
/-- StoreCrash goes through. -/
def crashP (s : St) (keep : Int) : Prop := 0 ≤ keep ∧ keep ≤ 1048575 ∧ (crashK s keep).length ≤ 200
/-- What is kept of a place. -/
def getL (es : List Ent) (x : Int) : Option Ent := es.find? fun e => e.pl == x
/-- What is kept of an epoch. -/
def eraL (es : List Ent) (x : Int) : List Ent := es.filter fun e => e.pl / 4294967296 == x
/-- What is kept above a place. -/
def trimL (es : List Ent) (x : Int) : List Ent := es.filter fun e => decide (x < e.pl)
end Go.Proofs.YthndkkjgjhgdnaaDoor
namespace Go.Proofs.YthndkkjgjhgdnaaDoor
set_option linter.unusedVariables false

/-- x belongs at i. -/
def posP (es : List Ent) (x : Int) (i : Nat) : Prop := i ≤ es.length ∧ (∀ t (h : t < es.length), t < i → es[t].pl < x) ∧ (∀ t (h : t < es.length), i ≤ t → x ≤ es[t].pl)
theorem posP.tail {a : Ent} {l : List Ent} {x : Int} {i : Nat} (h : posP (a :: l) x (i + 1)) : posP l x i := by
  obtain ⟨h0, h1, h2⟩ := h
  refine ⟨by simpa using h0, fun t ht hi => ?_, fun t ht hi => ?_⟩
  · have := h1 (t + 1) (by simpa using ht) (by omega)
    simpa using this
  · have := h2 (t + 1) (by simpa using ht) (by omega)
    simpa using this
theorem keepL_new {e : Ent} : ∀ {es : List Ent} {i : Nat}, posP es e.pl i → (∀ h : i < es.length, es[i].pl ≠ e.pl) → keepL e es = es.take i ++ e :: es.drop i
  | [], i, h, _ => by simp [keepL]
  | a :: l, 0, h, hn => by
    have h1 := h.2.2 0 (by simp) (Nat.le_refl _)
    have h2 := hn (by simp)
    simp only [List.getElem_cons_zero] at h1 h2
    unfold keepL
    rw [if_neg h2, if_pos (by omega)]
    simp
  | a :: l, i + 1, h, hn => by
    have h1 := h.2.1 0 (by simp) (by omega)
    simp only [List.getElem_cons_zero] at h1
    have ih := keepL_new (e := e) h.tail (fun hi => by have := hn (by simpa using hi); simpa using this)
    unfold keepL
    rw [if_neg (by omega), if_neg (by omega), ih]
    simp
theorem keepL_old {e : Ent} : ∀ {es : List Ent} {i : Nat}, posP es e.pl i → ∀ hi : i < es.length, es[i].pl = e.pl → keepL e es = es.set i (better es[i] e)
  | [], i, h, hi, _ => by simp at hi
  | a :: l, 0, h, hi, he => by
    simp only [List.getElem_cons_zero] at he
    unfold keepL
    rw [if_pos he]
    simp
  | a :: l, i + 1, h, hi, he => by
    have h1 := h.2.1 0 (by simp) (by omega)
    simp only [List.getElem_cons_zero] at h1
    have ih := keepL_old (e := e) h.tail (by simpa using hi) (by simpa using he)
    unfold keepL
    rw [if_neg (by omega), if_neg (by omega), ih]
    simp
theorem trimL_pos {x : Int} : ∀ {es : List Ent} {i : Nat}, posP es (x + 1) i → trimL es x = es.drop i
  | [], i, h => by simp [trimL]
  | a :: l, 0, h => by
    have h1 : ∀ e ∈ a :: l, decide (x < e.pl) = true := fun e he => by
      obtain ⟨t, ht, rfl⟩ := List.getElem_of_mem he
      have := h.2.2 t ht (Nat.zero_le _)
      exact decide_eq_true (by omega)
    unfold trimL
    rw [List.filter_eq_self.2 h1]
    simp
  | a :: l, i + 1, h => by
    have h1 := h.2.1 0 (by simp) (by omega)
    simp only [List.getElem_cons_zero] at h1
    have ih := trimL_pos (x := x) h.tail
    unfold trimL at ih ⊢
    rw [List.filter_cons_of_neg (by simp; omega), ih]
    simp
theorem getL_yes {x : Int} : ∀ {es : List Ent} {i : Nat}, posP es x i → ∀ hi : i < es.length, es[i].pl = x → getL es x = some es[i]
  | [], i, h, hi, _ => by simp at hi
  | a :: l, 0, h, hi, he => by
    simp only [List.getElem_cons_zero] at he
    simp [getL, he]
  | a :: l, i + 1, h, hi, he => by
    have h1 := h.2.1 0 (by simp) (by omega)
    simp only [List.getElem_cons_zero] at h1
    have ih := getL_yes (x := x) h.tail (by simpa using hi) (by simpa using he)
    unfold getL at ih ⊢
    rw [List.find?_cons_of_neg (by simp; omega), ih]
    simp
theorem getL_no {es : List Ent} {x : Int} {i : Nat} (h : posP es x i) (ha : ascE es) (hn : ∀ h : i < es.length, es[i].pl ≠ x) : getL es x = none := by
  unfold getL
  refine List.find?_eq_none.2 fun e he => ?_
  obtain ⟨t, ht, rfl⟩ := List.getElem_of_mem he
  simp only [beq_iff_eq]
  intro e1
  rcases Nat.lt_or_ge t i with h1 | h1
  · have := h.2.1 t ht h1
    omega
  · have hi : i < es.length := by omega
    have h2 := hn hi
    have h3 := h.2.2 i hi (Nat.le_refl _)
    rcases Nat.eq_or_lt_of_le h1 with h4 | h4
    · subst h4
      exact h2 e1
    · have := ascE_lt ha t i ht h4
      omega
/-- The place next to a greatest one: nothing above. -/
theorem take_drop_len (es : List Ent) (e : Ent) (i : Nat) (h : i ≤ es.length) : (es.take i ++ e :: es.drop i).length = es.length + 1 := by simp; omega
end Go.Proofs.YthndkkjgjhgdnaaDoor
