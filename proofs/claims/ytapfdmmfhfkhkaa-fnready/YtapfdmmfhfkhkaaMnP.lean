/- Mends, plain: what is right. -/
import Derived.Test.YtapfdmmfhfkhkaaMnA
import Derived.Test.YtapfdmmfhfkhkaaGbF
import Derived.Test.YtapfdmmfhfkhkaaGaC
namespace Go.Proofs.Ytapfdmmfhfkhkaa
open Go.ChangeShapes Go.WideShapes Go.ChangeAt Go.RowKit
set_option linter.unusedVariables false

def lastO : List Ent → Int
 | [] => 0
 | [e] => e.pl % 4294967296
 | _ :: e :: l => lastO (e :: l)
theorem lastO_at : ∀ (es : List Ent) (h : 0 < es.length), lastO es = (es[es.length - 1]'(by omega)).pl % 4294967296
 | [], h => by simp at h
 | [e], _ => rfl
 | _ :: e :: l, _ => by
  rw [lastO, lastO_at (e :: l) (by simp)]
  simp
def seenP (m : Mn) (e : Ent) : Prop := entP e ∧ e.pl / 4294967296 = m.epoch ∧ e.wave < m.bye
def mnH (ds : List Int) (cop : Int) (m : Mn) : Prop := cfgP ds cop ∧ (1 ≤ m.epoch ∧ m.epoch ≤ 30) ∧ (m.epoch + 1 ≤ m.bye ∧ m.bye ≤ 30) ∧ nodesP ds cop m.sealed ∧ ascE m.seen
def wroteP (m : Mn) : Prop := (m.wrote.length : Int) = if m.planned then lastO m.seen else 0
def mnP (ds : List Int) (cop : Int) (m : Mn) : Prop := mnH ds cop m ∧ (∀ i (h : i < m.seen.length), seenP m m.seen[i]) ∧ (∀ i (h : i < m.wrote.length), nodesP ds cop m.wrote[i]) ∧ wroteP m
theorem mnP.seen {ds : List Int} {cop : Int} {m : Mn} (h : mnP ds cop m) : ∀ e ∈ m.seen, seenP m e := fun e he => by
 obtain ⟨i, hi, rfl⟩ := List.getElem_of_mem he
 exact h.2.1 i hi
theorem mnP.wrote {ds : List Int} {cop : Int} {m : Mn} (h : mnP ds cop m) : ∀ l ∈ m.wrote, nodesP ds cop l := fun e he => by
 obtain ⟨i, hi, rfl⟩ := List.getElem_of_mem he
 exact h.2.2.1 i hi
theorem lastO_le {ds : List Int} {cop : Int} {m : Mn} (h : mnP ds cop m) : 0 ≤ lastO m.seen ∧ lastO m.seen ≤ 60 := by
 rcases Nat.eq_zero_or_pos m.seen.length with h0 | h0
 ·have e : m.seen = [] := List.length_eq_zero_iff.1 h0
  rw [e]
  simp [lastO]
 ·rw [lastO_at _ h0]
  have q := (h.2.1 (m.seen.length - 1) (by omega)).1.1
  unfold isPl at q
  omega
theorem mnP.wroteLe {ds : List Int} {cop : Int} {m : Mn} (h : mnP ds cop m) : m.wrote.length ≤ 60 := by
 have h1 := h.2.2.2
 have h2 := lastO_le h
 unfold wroteP at h1
 split at h1 <;> omega
theorem ascE_le {es : List Ent} (h : ascE es) : ∀ (i j : Nat) (hj : j < es.length) (hij : i < j), (es[i]'(by omega)).pl < es[j].pl := by
 intro i j
 induction j with
 | zero => intro _ h; omega
 | succ j ih =>
  intro hj hij
  have q := h j hj
  rcases Nat.lt_or_ge i j with h' | h'
  ·have := ih (by omega) h'
   omega
  ·have : i = j := by omega
   subst this
   exact q
end Go.Proofs.Ytapfdmmfhfkhkaa
