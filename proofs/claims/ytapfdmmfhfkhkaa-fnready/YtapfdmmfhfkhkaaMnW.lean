/- What was seen when nodes are sealed; parts of a mend that are made anew. -/
import Derived.Test.YtapfdmmfhfkhkaaMnI
import Derived.Test.YtapfdmmfhfkhkaaGx2
import Derived.Test.YtapfdmmfhfkhkaaOpenM
namespace Go.Proofs.Ytapfdmmfhfkhkaa
open Go.ChangeShapes Go.WideShapes Go.ChangeAt Go.RowKit
set_option linter.unusedVariables false
set_option linter.unusedSimpArgs false
set_option maxRecDepth 100000

def epL (x : Int) : Int := if 0 < x ∧ 1 ≤ x / 4294967296 ∧ x / 4294967296 ≤ 30 ∧ 1 ≤ x % 4294967296 ∧ x % 4294967296 ≤ 60 then x / 4294967296 else 0
theorem epL_yes {x : Int} (h : isPl x) : epL x = x / 4294967296 := if_pos h
theorem epL_no {x : Int} (h : ¬ isPl x) : epL x = 0 := if_neg h
theorem epL_is {x ep : Int} (h : epL x = ep) (h1 : 1 ≤ ep) : isPl x ∧ x / 4294967296 = ep := by
 by_cases hp : isPl x
 ·exact ⟨hp, by rw [epL_yes hp] at h; exact h⟩
 ·rw [epL_no hp] at h
  omega
theorem specEp_any (x : Int) (u : x ≤ 9223372036854775807) (w : World) : Calls Try.prog 34 #[.int .i64 x] w fun e w' => e = .returned (.int .i64 (epL x)) ∧ w = w' := by
 by_cases h : isPl x
 ·rw [epL_yes h]
  exact specEpoch_yes x h w
 ·rw [epL_no h]
  exact specEpoch_no x u h w
def seeL (ep : Int) (es list : List Ent) : List Ent := list.foldl (fun s e => if epL e.pl = ep then keepL e s else s) es
theorem seeL_yes {ep : Int} {es list : List Ent} {k : Nat} (h : k < list.length) (hx : epL list[k].pl = ep) : seeL ep es (list.take (k + 1)) = keepL list[k] (seeL ep es (list.take k)) := by
 unfold seeL
 rw [List.take_succ_eq_append_getElem h, List.foldl_append, List.foldl_cons, List.foldl_nil, if_pos hx]
theorem seeL_no {ep : Int} {es list : List Ent} {k : Nat} (h : k < list.length) (hx : epL list[k].pl ≠ ep) : seeL ep es (list.take (k + 1)) = seeL ep es (list.take k) := by
 unfold seeL
 rw [List.take_succ_eq_append_getElem h, List.foldl_append, List.foldl_cons, List.foldl_nil, if_neg hx]
def goodE (ep : Int) (s : List Ent) : Prop := s.Pairwise (fun a b => a.pl < b.pl) ∧ ∀ e ∈ s, isPl e.pl ∧ e.pl / 4294967296 = ep
theorem ascE_pair {es : List Ent} (h : ascE es) : es.Pairwise (fun a b => a.pl < b.pl) := List.pairwise_iff_getElem.2 fun i j hi hj hij => ascE_le h i j hj hij
theorem goodE.keep {ep : Int} {s : List Ent} {e : Ent} (h : goodE ep s) (he : isPl e.pl ∧ e.pl / 4294967296 = ep) : goodE ep (keepL e s) := ⟨keepL_asc h.1, fun x hx => by
 rcases mem_keepL hx with rfl | hx
 ·exact he
 ·exact h.2 x hx⟩
theorem goodE.see {ep : Int} (h1 : 1 ≤ ep) : ∀ (list s : List Ent), goodE ep s → goodE ep (seeL ep s list)
 | [], s, h => h
 | e :: l, s, h => by
  unfold seeL
  rw [List.foldl_cons]
  by_cases hx : epL e.pl = ep
  ·rw [if_pos hx]
   exact goodE.see h1 l _ (h.keep (epL_is hx h1))
  ·rw [if_neg hx]
   exact goodE.see h1 l _ h
theorem goodE.len {ep : Int} {s : List Ent} (h : goodE ep s) : s.length ≤ 60 := by
 have key : ∀ i (hi : i < s.length), ep * 4294967296 + 1 + (i : Int) ≤ s[i].pl := by
  intro i
  induction i with
  | zero =>
   intro hi
   obtain ⟨q1, q2⟩ := h.2 _ (List.getElem_mem hi)
   unfold isPl at q1
   omega
  | succ i ih =>
   intro hi
   have q := List.pairwise_iff_getElem.1 h.1 i (i + 1) (by omega) hi (by omega)
   have q2 := ih (by omega)
   push_cast
   omega
 rcases Nat.eq_zero_or_pos s.length with h0 | h0
 ·omega
 ·have q := key (s.length - 1) (by omega)
  obtain ⟨q1, q2⟩ := h.2 _ (List.getElem_mem (show s.length - 1 < s.length by omega))
  unfold isPl at q1
  omega
theorem mem_see {ep : Int} {x : Ent} : ∀ (list s : List Ent), x ∈ seeL ep s list → x ∈ s ∨ x ∈ list
 | [], s, h => .inl h
 | e :: l, s, h => by
  unfold seeL at h
  rw [List.foldl_cons] at h
  by_cases hx : epL e.pl = ep
  ·rw [if_pos hx] at h
   rcases mem_see l _ h with q | q
   ·rcases mem_keepL q with rfl | q
    ·exact .inr (by simp)
    ·exact .inl q
   ·exact .inr (by simp [q])
  ·rw [if_neg hx] at h
   rcases mem_see l _ h with q | q
   ·exact .inl q
   ·exact .inr (by simp [q])
theorem mnP.good {ds : List Int} {cop : Int} {m : Mn} (h : mnP ds cop m) : goodE m.epoch m.seen := ⟨ascE_pair h.1.2.2.2.2, fun e he => ⟨(h.seen e he).1.1, (h.seen e he).2.1⟩⟩
def seal9W (m : Mn) (node : Int) (list : List Ent) : Mn := ⟨m.bye, m.epoch, putL node m.sealed, seeL m.epoch m.seen list, m.planned, m.wrote⟩
def seal9P (ds : List Int) (cop : Int) (m : Mn) (node : Int) (list : List Ent) : Prop := m.planned = false ∧ mnP ds cop (seal9W m node list)
open Classical in
noncomputable def seal9M (ds : List Int) (cop : Int) (m : Mn) (node : Int) (list : List Ent) : Mn × Bool := if mnP ds cop m then (if seal9P ds cop m node list then (seal9W m node list, true) else (m, false)) else (zeroMn, false)
theorem seal9M_bad {ds : List Int} {cop : Int} {m : Mn} {node : Int} {list : List Ent} (h : ¬ mnP ds cop m) : seal9M ds cop m node list = (zeroMn, false) := if_neg h
theorem seal9M_no {ds : List Int} {cop : Int} {m : Mn} {node : Int} {list : List Ent} (h : mnP ds cop m) (hp : ¬ seal9P ds cop m node list) : seal9M ds cop m node list = (m, false) := (if_pos h).trans (if_neg hp)
theorem seal9M_yes {ds : List Int} {cop : Int} {m : Mn} {node : Int} {list : List Ent} (h : mnP ds cop m) (hp : seal9P ds cop m node list) : seal9M ds cop m node list = (seal9W m node list, true) := (if_pos h).trans (if_pos hp)
theorem OwM.belowW {lo hi : Nat} {sv ev wv : Value} {rs : List (Nst (List Int))} {ss : List Int} {es : List Ent} {W W' : World} (h : OwM lo hi sv ev wv rs ss es W) (hb : Below W.heap.size W W') (hh : hi ≤ W'.heap.size) : OwM lo W'.heap.size sv ev wv rs ss es W' := (h.below hb).wide (Nat.le_refl _) hh
end Go.Proofs.Ytapfdmmfhfkhkaa
