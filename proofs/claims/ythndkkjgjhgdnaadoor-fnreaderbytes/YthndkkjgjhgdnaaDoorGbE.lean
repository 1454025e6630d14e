/- Several texts in one: EntA, EntC, EsP, StA. -/
import Derived.Test.YthndkkjgjhgdnaaDoorGbP
import Derived.Test.YthndkkjgjhgdnaaDoorGaA
import Derived.Test.YthndkkjgjhgdnaaDoorGaC
namespace Go.Proofs.YthndkkjgjhgdnaaDoor
open Go.ChangeShapes Go.WideShapes Go.ChangeAt Go.RowKit
set_option linter.unusedVariables false

/-- An entry. -/
structure Ent where
  pl : Int
  wave : Int
  hole : Bool
  data : ByteArray
/-- An entry as a value. -/
def Ent.val (e : Ent) : Value := .agg #[.int .i64 e.pl, .int .i64 e.wave, .bool e.hole, .string e.data]
/-- Its numbers are ints. -/
def Ent.fits (e : Ent) : Prop := -9223372036854775808 ≤ e.pl ∧ e.pl ≤ 9223372036854775807 ∧ -9223372036854775808 ≤ e.wave ∧ e.wave ≤ 9223372036854775807 ∧ e.data.size ≤ 9223372036854775807
/-- An entry that is right. -/
def entP (e : Ent) : Prop := isPl e.pl ∧ 0 ≤ e.wave ∧ e.wave ≤ 30 ∧ (0 < e.wave → e.pl / 4294967296 < e.wave) ∧ e.data.size ≤ 40 ∧ (e.hole = true → 0 < e.wave ∧ e.data.size = 0)
end Go.Proofs.YthndkkjgjhgdnaaDoor
namespace Go.Proofs.YthndkkjgjhgdnaaDoor
open Go.ChangeShapes Go.WideShapes Go.ChangeAt Go.RowKit
set_option linter.unusedVariables false

/-- The better one. -/
def better (a b : Ent) : Ent := if a.wave < b.wave then b else a
end Go.Proofs.YthndkkjgjhgdnaaDoor
namespace Go.Proofs.YthndkkjgjhgdnaaDoor
open Go.ChangeShapes Go.WideShapes Go.ChangeAt Go.RowKit
set_option linter.unusedVariables false

/-- The cells of an entry. -/
def Ent.cl (e : Ent) : List Value := [.int .i64 e.pl, .int .i64 e.wave, .bool e.hole, .string e.data]
/-- Each is an entry of ints. -/
def fitE (es : List Ent) : Prop := ∀ e ∈ es, e.fits
/-- The four cells of one entry of a slice. -/
def EntAt (w : World) (b o : Nat) (e : Ent) : Prop := w.cell? ⟨b, o, none⟩ = some (.int .i64 e.pl) ∧ w.cell? ⟨b, o + 1, none⟩ = some (.int .i64 e.wave) ∧ w.cell? ⟨b, o + 2, none⟩ = some (.bool e.hole) ∧ w.cell? ⟨b, o + 3, none⟩ = some (.string e.data)
theorem EntAt.below {w w' : World} {b o : Nat} {e : Ent} (h : EntAt w b o e) (hb : Below w.heap.size w w') : EntAt w' b o e :=
  ⟨(hb.cell (p := ⟨b, o, none⟩) (dCell_lt h.1)).trans h.1, (hb.cell (p := ⟨b, o + 1, none⟩) (dCell_lt h.2.1)).trans h.2.1, (hb.cell (p := ⟨b, o + 2, none⟩) (dCell_lt h.2.2.1)).trans h.2.2.1, (hb.cell (p := ⟨b, o + 3, none⟩) (dCell_lt h.2.2.2)).trans h.2.2.2⟩
theorem Rw.ent {w : World} {a : Option Addr} {n cap : Nat} {es : List Ent} (h : Rw 4 Ent.cl w (.slice a n cap) es) {k : Nat} (hk : k < es.length) : ∃ b off, a = some ⟨b, off, none⟩ ∧ ∀ i (hi : i < es.length), EntAt w b (off + i * 4) es[i] := by
  obtain ⟨-, a', cap', e, -, h⟩ := h
  cases e
  obtain ⟨b, off, rfl, hc⟩ := orR_of_lt h hk
  exact ⟨b, off, rfl, fun i hi => ⟨hc i hi 0 _ rfl, hc i hi 1 _ rfl, hc i hi 2 _ rfl, hc i hi 3 _ rfl⟩⟩
/-- A new block of one entry. -/
theorem rw_one (w : World) (e : Ent) (T : TypeId) (c : Nat) (hc : 1 ≤ c ∧ c ≤ 9223372036854775807) : Rw 4 Ent.cl (w.alloc (.cells #[.int .i64 e.pl, .int .i64 e.wave, .bool e.hole, .string e.data] T)) (.slice (some ⟨w.heap.size, 0, none⟩) 1 c) [e] := by
  refine ⟨by simp, _, _, rfl, by simpa using hc, .inr ⟨w.heap.size, 0, rfl, fun i hi j u hu => ?_⟩⟩
  obtain rfl : i = 0 := by simp at hi; omega
  simp only [List.getElem_cons_zero, Ent.cl] at hu
  simpa using hu
end Go.Proofs.YthndkkjgjhgdnaaDoor
namespace Go.Proofs.YthndkkjgjhgdnaaDoor
set_option linter.unusedVariables false

/-- A store. -/
structure St where
  kept : List Ent
  late : List Ent
  lock : Int
/-- At most n entries, each right. -/
def listP (es : List Ent) (n : Nat) : Prop := es.length ≤ n ∧ ∀ e ∈ es, entP e
/-- Ascending by place. -/
def ascE (es : List Ent) : Prop := ∀ i (h : i + 1 < es.length), es[i].pl < es[i + 1].pl
/-- A store that is right. -/
def stP (s : St) : Prop := listP s.kept 200 ∧ listP s.late 20 ∧ ascE s.kept ∧ 0 ≤ s.lock ∧ s.lock ≤ 30
theorem ascE_lt {es : List Ent} (h : ascE es) : ∀ j i (hj : j < es.length) (hij : i < j), es[i].pl < es[j].pl := by
  intro j
  induction j with
  | zero => intro i hj hij; omega
  | succ n ih =>
    intro i hj hij
    have h1 := h n hj
    rcases Nat.lt_or_ge i n with hlt | hge
    · have := ih i (by omega) hlt
      omega
    · obtain rfl : i = n := by omega
      exact h1
theorem ascE_iff (es : List Ent) : ascE es ↔ es.Pairwise (fun a b => a.pl < b.pl) := by
  constructor
  · intro h
    exact List.pairwise_iff_getElem.2 fun i j hi hj hij => ascE_lt h j i hj hij
  · intro h i hi
    exact List.pairwise_iff_getElem.1 h i (i + 1) (by omega) hi (by omega)
/-- What is kept with e. -/
def keepL (e : Ent) : List Ent → List Ent
  | [] => [e]
  | a :: l => if a.pl = e.pl then better a e :: l else if e.pl < a.pl then e :: a :: l else a :: keepL e l
theorem keepL_len (e : Ent) (l : List Ent) : (keepL e l).length ≤ l.length + 1 ∧ l.length ≤ (keepL e l).length := by
  induction l with
  | nil => simp [keepL]
  | cons a l ih =>
    unfold keepL
    split
    · simp
    · split
      · simp
      · simp
        omega
theorem better_pl {a b : Ent} (h : a.pl = b.pl) : (better a b).pl = a.pl := by
  unfold better
  split
  · exact h.symm
  · rfl
theorem better_or (a b : Ent) : better a b = a ∨ better a b = b := by
  unfold better
  split
  · exact .inr rfl
  · exact .inl rfl
theorem mem_keepL {e x : Ent} {l : List Ent} (h : x ∈ keepL e l) : x = e ∨ x ∈ l := by
  induction l with
  | nil => simp [keepL] at h; exact .inl h
  | cons a l ih =>
    unfold keepL at h
    split at h
    · rcases List.mem_cons.1 h with rfl | h
      · rcases better_or a e with h | h
        · exact .inr (by rw [h]; simp)
        · exact .inl h
      · exact .inr (by simp [h])
    · split at h
      · rcases List.mem_cons.1 h with h | h
        · exact .inl h
        · exact .inr h
      · rcases List.mem_cons.1 h with h | h
        · exact .inr (by simp [h])
        · rcases ih h with h | h
          · exact .inl h
          · exact .inr (by simp [h])
theorem pl_keepL {e x : Ent} {l : List Ent} (h : x ∈ keepL e l) : x.pl = e.pl ∨ ∃ y ∈ l, y.pl = x.pl := by
  rcases mem_keepL h with rfl | h
  · exact .inl rfl
  · exact .inr ⟨x, h, rfl⟩
theorem keepL_asc {e : Ent} {l : List Ent} (h : l.Pairwise (fun a b => a.pl < b.pl)) : (keepL e l).Pairwise (fun a b => a.pl < b.pl) := by
  induction l with
  | nil => simp [keepL]
  | cons a l ih =>
    obtain ⟨h1, h2⟩ := List.pairwise_cons.1 h
    unfold keepL
    split
    · rename_i he
      refine List.pairwise_cons.2 ⟨fun b hb => ?_, h2⟩
      rw [better_pl he]
      exact h1 b hb
    · rename_i he
      split
      · rename_i hlt
        refine List.pairwise_cons.2 ⟨fun b hb => ?_, h⟩
        rcases List.mem_cons.1 hb with rfl | hb
        · exact hlt
        · have := h1 b hb
          omega
      · rename_i hlt
        refine List.pairwise_cons.2 ⟨fun b hb => ?_, ih h2⟩
        rcases pl_keepL hb with hb | ⟨y, hy, hb⟩
        · omega
        · rw [← hb]; exact h1 y hy
/-- Whether bit i of a number is set. -/
def bitE (keep : Int) (i : Nat) : Bool := keep / 2 ^ i % 2 == 1
/-- What is kept of late entries: those whose bit is set. -/
def crashL (kept : List Ent) (keep : Int) : List Ent → Nat → List Ent
  | [], _ => kept
  | e :: l, i => crashL (if bitE keep i then keepL e kept else kept) keep l (i + 1)
theorem crashL_snoc (kept : List Ent) (keep : Int) (l : List Ent) (e : Ent) (i : Nat) : crashL kept keep (l ++ [e]) i = (if bitE keep (i + l.length) then keepL e (crashL kept keep l i) else crashL kept keep l i) := by
  induction l generalizing kept i with
  | nil => simp [crashL]
  | cons a l ih =>
    rw [List.cons_append]
    unfold crashL
    rw [ih]
    have e1 : i + 1 + l.length = i + (a :: l).length := by simp; omega
    rw [e1]
theorem crashL_len (keep : Int) : ∀ (l : List Ent) (kept : List Ent) (i : Nat), (crashL kept keep l i).length ≤ kept.length + l.length
  | [], kept, i => by simp [crashL]
  | e :: l, kept, i => by
    unfold crashL
    have := crashL_len keep l (if bitE keep i then keepL e kept else kept) (i + 1)
    have h2 := (keepL_len e kept).1
    have h3 : (if bitE keep i then keepL e kept else kept).length ≤ kept.length + 1 := by split <;> omega
    simp only [List.length_cons]
    omega
theorem crashL_all {P : Ent → Prop} (keep : Int) : ∀ (l : List Ent) (kept : List Ent) (i : Nat), (∀ e ∈ kept, P e) → (∀ e ∈ l, P e) → ∀ e ∈ crashL kept keep l i, P e
  | [], kept, i, h, _ => h
  | a :: l, kept, i, h, hl => by
    unfold crashL
    refine crashL_all keep l _ _ (fun e he => ?_) fun e he => hl e (by simp [he])
    split at he
    · rcases mem_keepL he with rfl | he
      · exact hl e (by simp)
      · exact h e he
    · exact h e he
theorem crashL_asc (keep : Int) : ∀ (l : List Ent) (kept : List Ent) (i : Nat), kept.Pairwise (fun a b => a.pl < b.pl) → (crashL kept keep l i).Pairwise (fun a b => a.pl < b.pl)
  | [], kept, i, h => h
  | a :: l, kept, i, h => by
    unfold crashL
    refine crashL_asc keep l _ _ ?_
    split
    · exact keepL_asc h
    · exact h
/-- Whether an entry that is right is not refused. -/
def takesP (s : St) (e : Ent) : Prop := if e.wave = 0 then s.lock < e.pl / 4294967296 else s.lock < e.wave
/-- What is kept behind a crash. -/
def crashK (s : St) (keep : Int) : List Ent := crashL s.kept keep s.late 0
/-- StoreCrash goes through. -/
def crashP (s : St) (keep : Int) : Prop := 0 ≤ keep ∧ keep ≤ 1048575 ∧ (crashK s keep).length ≤ 200
/-- What is kept of a place. -/
def getL (es : List Ent) (x : Int) : Option Ent := es.find? fun e => e.pl == x
/-- What is kept of an epoch. -/
def eraL (es : List Ent) (x : Int) : List Ent := es.filter fun e => e.pl / 4294967296 == x
/-- What is kept above a place. -/
def trimL (es : List Ent) (x : Int) : List Ent := es.filter fun e => decide (x < e.pl)
end Go.Proofs.YthndkkjgjhgdnaaDoor
