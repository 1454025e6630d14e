/- Several texts in one: BthP, NxA. -/
import Derived.Test.YthndkkjgjhgdnaaDoorGaC
import Derived.Test.YthndkkjgjhgdnaaDoorRdS
import Derived.Test.YthndkkjgjhgdnaaDoorGk6
import Derived.Test.YthndkkjgjhgdnaaDoorAwS
import Derived.Test.YthndkkjgjhgdnaaDoorRgC
namespace Go.Proofs.YthndkkjgjhgdnaaDoor
open Go.ChangeShapes Go.WideShapes Go.ChangeAt Go.RowKit
set_option linter.unusedVariables false
set_option linter.unusedSimpArgs false
set_option maxRecDepth 100000

/-- Those of a list that are in another one, too. -/
def bothL (xs set : List Int) : List Int := lessL xs (lessL xs set)
theorem bothL_len (xs set : List Int) : (bothL xs set).length ≤ xs.length := lessL_len _ _
end Go.Proofs.YthndkkjgjhgdnaaDoor
namespace Go.Proofs.YthndkkjgjhgdnaaDoor
open Go.ChangeShapes Go.WideShapes Go.ChangeAt Go.RowKit
set_option linter.unusedVariables false
set_option linter.unusedSimpArgs false
set_option maxRecDepth 100000

/-- An answer that counts at a place. -/
def goodA (set : List Int) (place : Int) (a : Aw) : Prop := a.has = true ∧ a.node ∈ set ∧ entP a.ent ∧ a.ent.pl = place
open Classical in
/-- The entries of those that count. -/
noncomputable def goodL (set : List Int) (place : Int) (l : List Aw) : List Ent := (l.filter fun a => decide (goodA set place a)).map Aw.ent
/-- The best of some. -/
def bestO : List Ent → Option Ent
  | [] => none
  | e :: l => some (l.foldl better e)
/-- What is told of it. -/
def evO (place : Int) : Option Ent → Ev
  | none => ⟨3, place, ⟨#[]⟩⟩
  | some b => if b.hole then ⟨2, place, ⟨#[]⟩⟩ else ⟨1, place, b.data⟩
/-- An event is told. -/
def tellR (r : Rr) (e : Ev) (ep off : Int) : Rr := ⟨ep, off, r.out ++ [e]⟩
/-- All is right. -/
def nxP (ds : List Int) (cop : Int) (g : Rg) (r : Rr) (list : List Aw) : Prop := regP ds cop g ∧ rrP r ∧ nodesP ds cop (list.map Aw.node)
/-- The number of a reader's place. -/
def rrPl (r : Rr) : Int := 4294967296 * r.epoch + r.off
/-- The era of a reader. -/
def rrEr (g : Rg) (r : Rr) : Er := g.eras.getD (r.epoch - 1).toNat ⟨[], false, 0⟩
/-- A reader that is at its end, or beyond the register. -/
def nxW (g : Rg) (r : Rr) : Prop := (g.eras.length : Int) < r.epoch ∨ r.out.length = 120
open Classical in
/-- What a reader comes to where it is in the register and has room. -/
noncomputable def stepM (ds : List Int) (cop : Int) (g : Rg) (sure : Int) (r : Rr) (list : List Aw) : Rr × Int :=
  if rrPl r ≤ g.trim then (tellR r ⟨5, g.trim, ⟨#[]⟩⟩ (g.trim / 4294967296) (g.trim % 4294967296 + 1), 0)
  else if (rrEr g r).closed = true ∧ (rrEr g r).last < r.off then (tellR r ⟨4, r.epoch + 1, ⟨#[]⟩⟩ (r.epoch + 1) 1, 0)
  else if ((rrEr g r).closed = false ∧ sure < r.off) ∨ 60 < r.off then (r, 2)
  else if ¬ enoughP ds cop (rrEr g r).nodes (bothL (list.map Aw.node) (rrEr g r).nodes) then (r, 3)
  else (tellR r (evO (rrPl r) (bestO (goodL (rrEr g r).nodes (rrPl r) list))) r.epoch (r.off + 1), 0)
open Classical in
/-- ReaderNext. -/
noncomputable def nextM (ds : List Int) (cop : Int) (g : Rg) (sure : Int) (r : Rr) (list : List Aw) : Rr × Int :=
  if nxP ds cop g r list then (if nxW g r then (r, 2) else stepM ds cop g sure r list) else (⟨0, 0, []⟩, 1)
section
variable {ds : List Int} {cop sure : Int} {g : Rg} {r : Rr} {list : List Aw}
theorem nextM_bad (h : ¬ nxP ds cop g r list) : nextM ds cop g sure r list = (⟨0, 0, []⟩, 1) := if_neg h
theorem nextM_wait (h : nxP ds cop g r list) (hw : nxW g r) : nextM ds cop g sure r list = (r, 2) := (if_pos h).trans (if_pos hw)
theorem nextM_step (h : nxP ds cop g r list) (hw : ¬ nxW g r) : nextM ds cop g sure r list = stepM ds cop g sure r list := (if_pos h).trans (if_neg hw)
theorem stepM_trim (h : rrPl r ≤ g.trim) : stepM ds cop g sure r list = (tellR r ⟨5, g.trim, ⟨#[]⟩⟩ (g.trim / 4294967296) (g.trim % 4294967296 + 1), 0) := if_pos h
theorem stepM_era (h : ¬ rrPl r ≤ g.trim) (h2 : (rrEr g r).closed = true ∧ (rrEr g r).last < r.off) : stepM ds cop g sure r list = (tellR r ⟨4, r.epoch + 1, ⟨#[]⟩⟩ (r.epoch + 1) 1, 0) := (if_neg h).trans (if_pos h2)
theorem stepM_wait (h : ¬ rrPl r ≤ g.trim) (h2 : ¬ ((rrEr g r).closed = true ∧ (rrEr g r).last < r.off)) (h3 : ((rrEr g r).closed = false ∧ sure < r.off) ∨ 60 < r.off) : stepM ds cop g sure r list = (r, 2) := (if_neg h).trans ((if_neg h2).trans (if_pos h3))
theorem stepM_few (h : ¬ rrPl r ≤ g.trim) (h2 : ¬ ((rrEr g r).closed = true ∧ (rrEr g r).last < r.off)) (h3 : ¬ (((rrEr g r).closed = false ∧ sure < r.off) ∨ 60 < r.off)) (h4 : ¬ enoughP ds cop (rrEr g r).nodes (bothL (list.map Aw.node) (rrEr g r).nodes)) : stepM ds cop g sure r list = (r, 3) := (if_neg h).trans ((if_neg h2).trans ((if_neg h3).trans (if_pos h4)))
theorem stepM_tell (h : ¬ rrPl r ≤ g.trim) (h2 : ¬ ((rrEr g r).closed = true ∧ (rrEr g r).last < r.off)) (h3 : ¬ (((rrEr g r).closed = false ∧ sure < r.off) ∨ 60 < r.off)) (h4 : enoughP ds cop (rrEr g r).nodes (bothL (list.map Aw.node) (rrEr g r).nodes)) : stepM ds cop g sure r list = (tellR r (evO (rrPl r) (bestO (goodL (rrEr g r).nodes (rrPl r) list))) r.epoch (r.off + 1), 0) := (if_neg h).trans ((if_neg h2).trans ((if_neg h3).trans (if_neg (fun q => q h4))))
end
theorem better_self (e : Ent) : better e e = e := if_neg (by omega)
theorem goodL_yes {set : List Int} {place : Int} {l : List Aw} {k : Nat} (h : k < l.length) (hx : goodA set place l[k]) : goodL set place (l.take (k + 1)) = goodL set place (l.take k) ++ [l[k].ent] := by
  unfold goodL
  rw [List.take_succ_eq_append_getElem h, List.filter_append, List.map_append, List.filter_cons_of_pos (by simpa using hx), List.filter_nil, List.map_cons, List.map_nil]
theorem goodL_no {set : List Int} {place : Int} {l : List Aw} {k : Nat} (h : k < l.length) (hx : ¬ goodA set place l[k]) : goodL set place (l.take (k + 1)) = goodL set place (l.take k) := by
  unfold goodL
  rw [List.take_succ_eq_append_getElem h, List.filter_append, List.map_append, List.filter_cons_of_neg (by simpa using hx), List.filter_nil, List.map_nil, List.append_nil]
theorem bestO_nil : bestO [] = none := rfl
/-- One more is held against the best. -/
theorem bestO_snoc (l : List Ent) (e : Ent) : bestO (l ++ [e]) = some (match bestO l with | none => e | some b => better b e) := by
  cases l with
  | nil => rfl
  | cons x l => simp [bestO, List.foldl_append]
theorem bestO_some {l : List Ent} {b e : Ent} (h : bestO l = some b) : bestO (l ++ [e]) = some (better b e) := by rw [bestO_snoc, h]
theorem bestO_first {l : List Ent} {e : Ent} (h : bestO l = none) : bestO (l ++ [e]) = some e := by rw [bestO_snoc, h]
theorem bestO_none {l : List Ent} (h : bestO l = none) : l = [] := by
  cases l with
  | nil => rfl
  | cons x l => cases h
/-- Entries of ints. -/
theorem better_fits {a b : Ent} (ha : a.fits) (hb : b.fits) : (better a b).fits := by
  unfold better
  split
  · exact hb
  · exact ha
end Go.Proofs.YthndkkjgjhgdnaaDoor
