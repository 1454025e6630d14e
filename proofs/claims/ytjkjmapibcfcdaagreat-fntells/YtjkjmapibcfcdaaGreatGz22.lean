/- Several texts in one: RdS, OpenV, RdO, BthP, NxA, RnF. -/
import Derived.Test.YtjkjmapibcfcdaaGreatGz23
import Derived.Deep.DeepCutAuto
import Derived.Test.YtjkjmapibcfcdaaGreatGaD
import Derived.Test.YtjkjmapibcfcdaaGreatGz18
import Derived.Test.YtjkjmapibcfcdaaGreatGz14
import Derived.Test.YtjkjmapibcfcdaaGreatGaC
import Derived.Test.YtjkjmapibcfcdaaGreatRgC
namespace Go.Proofs.YtjkjmapibcfcdaaGreat
open Go.ChangeShapes Go.WideShapes Go.ChangeAt Go.RowKit
set_option linter.unusedSimpArgs false
set_option linter.unusedVariables false
set_option maxRecDepth 100000
structure Rr where
 epoch : Int
 off : Int
 out : List Ev
def RdReader (v : Value) (m : Rr) (W : World) : Prop := ∃ sv, v = .agg #[.int .i64 m.epoch, .int .i64 m.off, sv] ∧ RdEventS sv m.out W
def OwReader (lo hi : Nat) (v : Value) (m : Rr) (W : World) : Prop := ∃ sv, v = .agg #[.int .i64 m.epoch, .int .i64 m.off, sv] ∧ OwEventS lo hi sv m.out W
theorem OwReader.rd {lo hi : Nat} {v : Value} {m : Rr} {W : World} (h : OwReader lo hi v m W) : RdReader v m W := by
 obtain ⟨sv, h1, h2⟩ := h
 exact ⟨sv, h1, OwEventS.rd h2⟩
theorem RdReader.below {v : Value} {m : Rr} {W W' : World} (h : RdReader v m W) (b : Below W.heap.size W W') : RdReader v m W' := by
 obtain ⟨sv, h1, h2⟩ := h
 exact ⟨sv, h1, RdEventS.below h2 b⟩
theorem formReader {v : Value} {m : Rr} {W : World} (h : RdReader v m W) : ∃ a cap, v = .agg #[.int .i64 m.epoch, .int .i64 m.off, .slice a m.out.length cap] ∧ m.out.length ≤ 9223372036854775807 := by
 obtain ⟨sv, rfl, h⟩ := h
 obtain ⟨a, cap, rfl, h0⟩ := formEventS h
 exact ⟨a, cap, rfl, h0⟩
theorem OwReader.sits {lo hi : Nat} {w : World} {v : Value} {m : Rr} (h : OwReader lo hi v m w) (hf : hi ≤ w.heap.size) : Sits (OwReader lo hi v m) lo hi w := by
 obtain ⟨sv, h1, h2⟩ := h
 have s2 := OwG.sits h2 hf
 exact ⟨hf, fun W hW => ⟨sv, h1, s2.all W hW⟩⟩
variable {H : Type} {enc : TypeId × Value → H} {W : World} {r : Reach} {b0 base : Nat} {held : Bool} {v : Value} {d : DataW H} {p : List MemPlace}
def rrP (r : Rr) : Prop := (1 ≤ r.epoch ∧ r.epoch ≤ 31) ∧ (1 ≤ r.off ∧ r.off ≤ 61) ∧ r.out.length ≤ 120
theorem specReaderOk_any (v : Value) (m : Rr) (w : World) (hv : RdReader v m w) :
  Calls Tryz.prog 52 #[v] w fun e w' => RetB (rrP m) e ∧ Below w.heap.size w w' := by
 have ba : ∀ (w : World) o, Below w.heap.size w (w.alloc o) := fun w o => (Below.refl _ _).alloc (Nat.le_refl _) o
 obtain ⟨a, cap, rfl, hle⟩ := formReader hv
 have C1 := dH fun W => l1In_any m.epoch 1 31 W
 have C2 := dH fun W => l1In_any m.off 1 61 W
 have PD : Hid (rrP m ↔ (1 ≤ m.epoch ∧ m.epoch ≤ 31) ∧ (1 ≤ m.off ∧ m.off ≤ 61) ∧ m.out.length ≤ 120) := Iff.rfl
 generalize rrP m = P at *
 generalize m.epoch = y0 at *
 generalize m.off = y1 at *
 generalize m.out.length = n at *
 clear hv
 go_enter Tryz.func52, Tryz.ntmps52
 go_wp2_with fail
 refine (dU C1 _).mono ?_
 rintro e w1 ⟨⟨b1, rfl, h1⟩, rfl⟩
 clear C1
 cases b1
 ·have R : RetB P (.returned (.bool false)) := RetB.no fun h => by have := h1.2 ((dU PD).1 h).1; cases this
  clear h1
  go_wp2
  go_ret
  exact ⟨R, ba _ _⟩
 have H1 := dH (h1.1 rfl)
 clear h1
 go_wp2_with fail
 refine (dU C2 _).mono ?_
 rintro e w1 ⟨⟨b1, rfl, h1⟩, rfl⟩
 clear C2
 cases b1
 ·have R : RetB P (.returned (.bool false)) := RetB.no fun h => by have := h1.2 ((dU PD).1 h).2.1; cases this
  clear h1
  go_wp2
  go_ret
  exact ⟨R, ba _ _⟩
 have H2 := dH (h1.1 rfl)
 clear h1
 by_cases hn : (n : Int) ≤ 120
 ·have R : RetB P (.returned (.bool true)) := RetB.yes ((dU PD).2 ⟨dU H1, dU H2, by omega⟩)
  clear PD H1 H2
  go_wp2
  go_ret
  exact ⟨by simpa [hn] using R, ba _ _⟩
 ·have R : RetB P (.returned (.bool false)) := RetB.no fun h => by have := ((dU PD).1 h).2.2; omega
  clear PD H1 H2
  go_wp2
  go_ret
  refine ⟨?_, ba _ _⟩
  show RetB P (.returned (.bool (decide ((n : Int) ≤ 120))))
  rw [decide_eq_false (by omega)]
  exact R
set_option maxHeartbeats 2000000 in
theorem implReaderOk_any (v : Value) (m : Rr) (w : World) (hv : RdReader v m w) :
  Calls Tryz.prog 17 #[v] w fun e w' => RetB (rrP m) e ∧ Below w.heap.size w w' := by
 have ba : ∀ (w : World) o, Below w.heap.size w (w.alloc o) := fun w o => (Below.refl _ _).alloc (Nat.le_refl _) o
 obtain ⟨a, cap, rfl, hle⟩ := formReader hv
 have PD : Hid (rrP m ↔ (1 ≤ m.epoch ∧ m.epoch ≤ 31) ∧ (1 ≤ m.off ∧ m.off ≤ 61) ∧ m.out.length ≤ 120) := Iff.rfl
 generalize rrP m = P at *
 generalize m.epoch = y0 at *
 generalize m.off = y1 at *
 generalize m.out.length = n at *
 clear hv
 by_cases h1 : y0 < 1
 ·have R : RetB P (.returned (.bool false)) := RetB.no fun h => by have := (dU PD).1 h; omega
  clear PD
  go_enter Tryz.func17, Tryz.ntmps17
  go_wp2
  go_ret
  exact ⟨R, ba _ _⟩
 by_cases h2 : 31 < y0
 ·have R : RetB P (.returned (.bool false)) := RetB.no fun h => by have := (dU PD).1 h; omega
  clear PD
  go_enter Tryz.func17, Tryz.ntmps17
  go_wp2
  go_ret
  exact ⟨R, ba _ _⟩
 by_cases h3 : y1 < 1
 ·have R : RetB P (.returned (.bool false)) := RetB.no fun h => by have := (dU PD).1 h; omega
  clear PD
  go_enter Tryz.func17, Tryz.ntmps17
  go_wp2
  go_ret
  exact ⟨R, ba _ _⟩
 by_cases h4 : 61 < y1
 ·have R : RetB P (.returned (.bool false)) := RetB.no fun h => by have := (dU PD).1 h; omega
  clear PD
  go_enter Tryz.func17, Tryz.ntmps17
  go_wp2
  go_ret
  exact ⟨R, ba _ _⟩
 have R : RetB P (.returned (.bool (decide ((n : Int) ≤ 120)))) := by
  by_cases h5 : (n : Int) ≤ 120
  ·rw [decide_eq_true h5]
   exact RetB.yes ((dU PD).2 ⟨by omega, by omega, by omega⟩)
  ·rw [decide_eq_false h5]
   exact RetB.no fun h => by have := (dU PD).1 h; omega
 clear PD
 go_enter Tryz.func17, Tryz.ntmps17
 go_wp2
 go_ret
 exact ⟨R, ba _ _⟩
def bothL (xs set : List Int) : List Int := lessL xs (lessL xs set)
theorem bothL_len (xs set : List Int) : (bothL xs set).length ≤ xs.length := lessL_len _ _
set_option maxHeartbeats 1000000 in
theorem l9Both_any (u v : Value) (xs set : List Int) (w : World) (hu : Ns w u xs) (hv : Ns w v set) (hl : xs.length ≤ 1000000000) :
  Calls Tryz.prog 56 #[u, v] w fun e w' => (∃ o, e = .returned o ∧ OwnN w' w.heap.size o (bothL xs set)) ∧ Below w.heap.size w w' := by
 have C1 := dH (l4Less_any u v xs set w hu hv hl)
 have C2 := dH fun W (hb : Below w.heap.size w W) o (ho : Ns W o (lessL xs set)) => l4Less_any u o xs (lessL xs set) W (hu.below hb) ho hl
 clear hu hv
 go_enter Tryz.func56, Tryz.ntmps56
 go_wp2_with fail
 refine (dU C1).mono ?_
 rintro e w1 ⟨⟨o1, rfl, R1⟩, b1⟩
 have C3 := dH (dU C2 w1 b1 o1 (ownN_of_row R1).bs)
 clear C1 C2 R1
 go_wp2_with fail
 refine (dU C3).mono ?_
 rintro e w2 ⟨⟨o2, rfl, R2⟩, b2⟩
 have O2 := dH ((ownN_of_row R2).mono b1.size)
 have B2 := bT b1 b2
 clear C3 R2
 go_wp2_with fail
 go_ret
 exact ⟨⟨_, rfl, dU O2⟩, B2⟩
def goodA (set : List Int) (place : Int) (a : Aw) : Prop := a.has = true ∧ a.node ∈ set ∧ entP a.ent ∧ a.ent.pl = place
open Classical in
noncomputable def goodL (set : List Int) (place : Int) (l : List Aw) : List Ent := (l.filter fun a => decide (goodA set place a)).map Aw.ent
def bestO : List Ent → Option Ent
 | [] => none
 | e :: l => some (l.foldl better e)
def evO (place : Int) : Option Ent → Ev
 | none => ⟨3, place, ⟨#[]⟩⟩
 | some b => if b.hole then ⟨2, place, ⟨#[]⟩⟩ else ⟨1, place, b.data⟩
def tellR (r : Rr) (e : Ev) (ep off : Int) : Rr := ⟨ep, off, r.out ++ [e]⟩
def nxP (ds : List Int) (cop : Int) (g : Rg) (r : Rr) (list : List Aw) : Prop := regP ds cop g ∧ rrP r ∧ nodesP ds cop (list.map Aw.node)
def rrPl (r : Rr) : Int := 4294967296 * r.epoch + r.off
def rrEr (g : Rg) (r : Rr) : Er := g.eras.getD (r.epoch - 1).toNat ⟨[], false, 0⟩
def nxW (g : Rg) (r : Rr) : Prop := (g.eras.length : Int) < r.epoch ∨ r.out.length = 120
open Classical in
noncomputable def stepM (ds : List Int) (cop : Int) (g : Rg) (sure : Int) (r : Rr) (list : List Aw) : Rr × Int :=
 if rrPl r ≤ g.trim then (tellR r ⟨5, g.trim, ⟨#[]⟩⟩ (g.trim / 4294967296) (g.trim % 4294967296 + 1), 0)
 else if (rrEr g r).closed = true ∧ (rrEr g r).last < r.off then (tellR r ⟨4, r.epoch + 1, ⟨#[]⟩⟩ (r.epoch + 1) 1, 0)
 else if ((rrEr g r).closed = false ∧ sure < r.off) ∨ 60 < r.off then (r, 2)
 else if ¬ enoughP ds cop (rrEr g r).nodes (bothL (list.map Aw.node) (rrEr g r).nodes) then (r, 3)
 else (tellR r (evO (rrPl r) (bestO (goodL (rrEr g r).nodes (rrPl r) list))) r.epoch (r.off + 1), 0)
open Classical in
noncomputable def nextM (ds : List Int) (cop : Int) (g : Rg) (sure : Int) (r : Rr) (list : List Aw) : Rr × Int :=
 if nxP ds cop g r list then (if nxW g r then (r, 2) else stepM ds cop g sure r list) else (⟨0, 0, []⟩, 1)
section
variable {ds : List Int} {cop sure : Int} {g : Rg} {r : Rr} {list : List Aw}
theorem nextM_bad (h : ¬ nxP ds cop g r list) : nextM ds cop g sure r list = (⟨0, 0, []⟩, 1) := if_neg h
theorem nextM_wait (h : nxP ds cop g r list) (hw : nxW g r) : nextM ds cop g sure r list = (r, 2) := (if_pos h).trans (if_pos hw)
theorem nextM_step (h : nxP ds cop g r list) (hw : ¬ nxW g r) : nextM ds cop g sure r list = stepM ds cop g sure r list := (if_pos h).trans (if_neg hw)
theorem stepM_trim (h : rrPl r ≤ g.trim) : stepM ds cop g sure r list = (tellR r ⟨5, g.trim, ⟨#[]⟩⟩ (g.trim / 4294967296) (g.trim % 4294967296 + 1), 0) := if_pos h
theorem stepM_era (h : ¬ rrPl r ≤ g.trim) (h2 : (rrEr g r).closed = true ∧ (rrEr g r).last < r.off) : stepM ds cop g sure r list = (tellR r ⟨4, r.epoch + 1, ⟨#[]⟩⟩ (r.epoch + 1) 1, 0) := (if_neg h).trans (if_pos h2)
theorem stepM_wait (h : ¬ rrPl r ≤ g.trim) (h2 : ¬ ((rrEr g r).closed = true ∧ (rrEr g r).last < r.off)) (h3 : ((rrEr g r).closed = false ∧ sure < r.off) ∨ 60 < r.off) : stepM ds cop g sure r list = (r, 2) := (if_neg h).trans ((if_neg h2).trans (if_pos h3))
theorem stepM_few (h : ¬ rrPl r ≤ g.trim) (h2 : ¬ ((rrEr g r).closed = true ∧ (rrEr g r).last < r.off)) (h3 : ¬ (((rrEr g r).closed = false ∧ sure < r.off) ∨ 60 < r.off)) (h4 : ¬ enoughP ds cop (rrEr g r).nodes (bothL (list.map Aw.node) (rrEr g r).nodes)) : stepM ds cop g sure r list = (r, 3) := (if_neg h).trans ((if_neg h2).trans ((if_neg h3).trans (if_pos h4)))
theorem stepM_tell (h : ¬ rrPl r ≤ g.trim) (h2 : ¬ ((rrEr g r).closed = true ∧ (rrEr g r).last < r.off)) (h3 : ¬ (((rrEr g r).closed = false ∧ sure < r.off) ∨ 60 < r.off)) (h4 : enoughP ds cop (rrEr g r).nodes (bothL (list.map Aw.node) (rrEr g r).nodes)) : stepM ds cop g sure r list = (tellR r (evO (rrPl r) (bestO (goodL (rrEr g r).nodes (rrPl r) list))) r.epoch (r.off + 1), 0) := (if_neg h).trans ((if_neg h2).trans ((if_neg h3).trans (if_neg (fun q => q h4))))
end
theorem better_self (e : Ent) : better e e = e := if_neg (by omega)
theorem goodL_yes {set : List Int} {place : Int} {l : List Aw} {k : Nat} (h : k < l.length) (hx : goodA set place l[k]) : goodL set place (l.take (k + 1)) = goodL set place (l.take k) ++ [l[k].ent] := by
 unfold goodL
 rw [List.take_succ_eq_append_getElem h, List.filter_append, List.map_append, List.filter_cons_of_pos (by simpa using hx), List.filter_nil, List.map_cons, List.map_nil]
theorem goodL_no {set : List Int} {place : Int} {l : List Aw} {k : Nat} (h : k < l.length) (hx : ¬ goodA set place l[k]) : goodL set place (l.take (k + 1)) = goodL set place (l.take k) := by
 unfold goodL
 rw [List.take_succ_eq_append_getElem h, List.filter_append, List.map_append, List.filter_cons_of_neg (by simpa using hx), List.filter_nil, List.map_nil, List.append_nil]
theorem bestO_snoc (l : List Ent) (e : Ent) : bestO (l ++ [e]) = some (match bestO l with | none => e | some b => better b e) := by
 cases l with
 | nil => rfl
 | cons x l => simp [bestO, List.foldl_append]
theorem bestO_some {l : List Ent} {b e : Ent} (h : bestO l = some b) : bestO (l ++ [e]) = some (better b e) := by rw [bestO_snoc, h]
theorem bestO_first {l : List Ent} {e : Ent} (h : bestO l = none) : bestO (l ++ [e]) = some e := by rw [bestO_snoc, h]
end Go.Proofs.YtjkjmapibcfcdaaGreat
