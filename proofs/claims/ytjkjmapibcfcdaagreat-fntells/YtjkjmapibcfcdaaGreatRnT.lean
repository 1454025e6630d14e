/- What a reader tells of a place: the pure part of FnTells. -/
import Derived.Test.YtjkjmapibcfcdaaGreatGz22
import Derived.Test.YtjkjmapibcfcdaaGreatGz16
namespace Go.Proofs.YtjkjmapibcfcdaaGreat
set_option linter.unusedVariables false

def wvM (l : List Ent) : Int := l.foldl (fun m e => if m < e.wave then e.wave else m) (-1)
theorem wvM_snoc (l : List Ent) (e : Ent) : wvM (l ++ [e]) = if wvM l < e.wave then e.wave else wvM l := by
 unfold wvM
 rw [List.foldl_append, List.foldl_cons, List.foldl_nil]
theorem fold_ge (l : List Ent) : ∀ m : Int, m ≤ l.foldl (fun m e => if m < e.wave then e.wave else m) m ∧ ∀ e ∈ l, e.wave ≤ l.foldl (fun m e => if m < e.wave then e.wave else m) m := by
 induction l with
 | nil => exact fun m => ⟨Int.le_refl _, fun e he => by cases he⟩
 | cons a l ih =>
  intro m
  rw [List.foldl_cons]
  obtain ⟨h1, h2⟩ := ih (if m < a.wave then a.wave else m)
  refine ⟨?_, fun e he => ?_⟩
  ·refine Int.le_trans ?_ h1
   split <;> omega
  ·rcases List.mem_cons.1 he with rfl | he
   ·refine Int.le_trans ?_ h1
    split <;> omega
   ·exact h2 e he
theorem fold_in (l : List Ent) : ∀ m : Int, l.foldl (fun m e => if m < e.wave then e.wave else m) m = m ∨ ∃ e ∈ l, l.foldl (fun m e => if m < e.wave then e.wave else m) m = e.wave := by
 induction l with
 | nil => exact fun m => .inl rfl
 | cons a l ih =>
  intro m
  rw [List.foldl_cons]
  rcases ih (if m < a.wave then a.wave else m) with h | ⟨e, he, h⟩
  ·by_cases hm : m < a.wave
   ·rw [if_pos hm] at h ⊢
    exact .inr ⟨a, by simp, h⟩
   ·rw [if_neg hm] at h ⊢
    exact .inl h
  ·exact .inr ⟨e, by simp [he], h⟩
theorem better_ge (a b : Ent) : a.wave ≤ (better a b).wave ∧ b.wave ≤ (better a b).wave := by
 unfold better
 split <;> omega
theorem better_two (a b : Ent) : better a b = a ∨ better a b = b := by
 unfold better
 split
 ·exact .inr rfl
 ·exact .inl rfl
theorem foldB (l : List Ent) : ∀ a : Ent, (l.foldl better a = a ∨ l.foldl better a ∈ l) ∧ a.wave ≤ (l.foldl better a).wave ∧ ∀ e ∈ l, e.wave ≤ (l.foldl better a).wave := by
 induction l with
 | nil => exact fun a => ⟨.inl rfl, Int.le_refl _, fun e he => by cases he⟩
 | cons b l ih =>
  intro a
  rw [List.foldl_cons]
  obtain ⟨h1, h2, h3⟩ := ih (better a b)
  obtain ⟨g1, g2⟩ := better_ge a b
  refine ⟨?_, Int.le_trans g1 h2, fun e he => ?_⟩
  ·rcases h1 with h1 | h1
   ·rw [h1]
    rcases better_two a b with h | h
    ·exact .inl h
    ·exact .inr (by rw [h]; simp)
   ·exact .inr (by simp [h1])
  ·rcases List.mem_cons.1 he with rfl | he
   ·exact Int.le_trans g2 h2
   ·exact h3 e he
theorem bestO_best {l : List Ent} {b : Ent} (h : bestO l = some b) : b ∈ l ∧ ∀ e ∈ l, e.wave ≤ b.wave := by
 cases l with
 | nil => cases h
 | cons a l =>
  simp only [bestO, Option.some.injEq] at h
  subst h
  obtain ⟨h1, h2, h3⟩ := foldB l a
  refine ⟨?_, fun e he => ?_⟩
  ·rcases h1 with h1 | h1
   ·rw [h1]; simp
   ·simp [h1]
  ·rcases List.mem_cons.1 he with rfl | he
   ·exact h2
   ·exact h3 e he
theorem wvM_best {l : List Ent} {b : Ent} (h : bestO l = some b) (h0 : ∀ e ∈ l, 0 ≤ e.wave) : wvM l = b.wave := by
 obtain ⟨h1, h2⟩ := bestO_best h
 have h3 := (fold_ge l (-1)).2 b h1
 have h4 := h0 b h1
 rcases fold_in l (-1) with h | ⟨e, he, h⟩
 ·unfold wvM
  omega
 ·have := h2 e he
  unfold wvM
  omega
theorem bestO_eq {l : List Ent} (h : bestO l = none) : l = [] := by
 cases l with
 | nil => rfl
 | cons a l => cases h
theorem mem_goodL {set : List Int} {pl : Int} {l : List Aw} {e : Ent} : e ∈ goodL set pl l ↔ ∃ a ∈ l, goodA set pl a ∧ a.ent = e := by
 unfold goodL
 simp only [List.mem_map, List.mem_filter, decide_eq_true_eq]
 constructor
 ·rintro ⟨a, ⟨h1, h2⟩, h3⟩
  exact ⟨a, h1, h2, h3⟩
 ·rintro ⟨a, h1, h2, h3⟩
  exact ⟨a, ⟨h1, h2⟩, h3⟩
theorem good_wave {set : List Int} {pl : Int} {l : List Aw} : ∀ e ∈ goodL set pl l, 0 ≤ e.wave := fun e he => by
 obtain ⟨a, -, h, rfl⟩ := mem_goodL.1 he
 exact h.2.2.1.2.1
def setL (set : List Int) (l : List Aw) : List Int := (l.map Aw.node).filter fun x => set.contains x
theorem setL_yes {set : List Int} {l : List Aw} {k : Nat} (h : k < l.length) (hx : l[k].node ∈ set) : setL set (l.take (k + 1)) = setL set (l.take k) ++ [l[k].node] := by
 unfold setL
 rw [List.take_succ_eq_append_getElem h, List.map_append, List.filter_append, List.map_cons, List.map_nil, List.filter_cons_of_pos (by simpa using hx), List.filter_nil]
theorem setL_no {set : List Int} {l : List Aw} {k : Nat} (h : k < l.length) (hx : l[k].node ∉ set) : setL set (l.take (k + 1)) = setL set (l.take k) := by
 unfold setL
 rw [List.take_succ_eq_append_getElem h, List.map_append, List.filter_append, List.map_cons, List.map_nil, List.filter_cons_of_neg (by simpa using hx), List.filter_nil, List.append_nil]
theorem setL_both (set : List Int) (l : List Aw) : setL set l = bothL (l.map Aw.node) set := by
 unfold setL bothL lessL
 apply List.filter_congr
 intro x hx
 by_cases hs : x ∈ set
 ·have h1 : set.contains x = true := by simpa using hs
  have h2 : ((l.map Aw.node).filter fun y => !(set.contains y)).contains x = false := by
   rw [Bool.eq_false_iff]
   intro h
   have := List.contains_iff_mem.1 h
   have := (List.mem_filter.1 this).2
   rw [h1] at this
   cases this
  rw [h1, h2]
  rfl
 ·have h1 : set.contains x = false := by simpa using hs
  have h2 : ((l.map Aw.node).filter fun y => !(set.contains y)).contains x = true := List.contains_iff_mem.2 (List.mem_filter.2 ⟨hx, by rw [h1]; rfl⟩)
  rw [h1, h2]
  rfl
structure Told (ds : List Int) (cop : Int) (g : Rg) (r : Rr) (list : List Aw) (ev : Ev) (set : List Int) : Prop where
 tpl : ev.pl = 4294967296 * r.epoch + r.off
 tis : isPl ev.pl
 tep : ev.pl / 4294967296 = r.epoch
 tof : ev.pl % 4294967296 = r.off
 tset : eraN g r.epoch = set
 ten : enoughP ds cop set (setL set list)
 tev : ev = evO ev.pl (bestO (goodL set ev.pl list))
theorem nil_of_size {d : ByteArray} (h : d.size = 0) : d = ⟨#[]⟩ := by
 obtain ⟨⟨l⟩⟩ := d
 cases l with
 | nil => rfl
 | cons a r => exact absurd (show (a :: r).length = 0 from h) (by simp)
def mM (set : List Int) (pl wv kind : Int) (data : ByteArray) (a : Aw) : Prop := goodA set pl a ∧ a.ent.wave = wv ∧ a.ent.hole = (kind == 2) ∧ a.ent.data = data
theorem evO_cases {pl : Int} {ev : Ev} {l : List Ent} (h : ev = evO pl (bestO l)) : (ev.kind = 3 ∧ l = []) ∨ (ev.kind ≠ 3 ∧ ∃ b, bestO l = some b ∧ b.hole = (ev.kind == 2) ∧ ((b.hole = true ∧ ev.data = ⟨#[]⟩) ∨ ev.data = b.data)) := by
 subst h
 cases hb : bestO l with
 | none => exact .inl ⟨rfl, bestO_eq hb⟩
 | some b =>
  right
  by_cases hh : b.hole = true
  ·refine ⟨?_, b, rfl, ?_, .inl ⟨hh, ?_⟩⟩ <;> simp [evO, hh]
  ·have hf : b.hole = false := by simpa using hh
   refine ⟨?_, b, rfl, ?_, .inr ?_⟩ <;> simp [evO, hf]
theorem Told.loss {ds : List Int} {cop : Int} {g : Rg} {r : Rr} {list : List Aw} {ev : Ev} {set : List Int} (h : Told ds cop g r list ev set) (hk : ev.kind = 3) : ∀ a ∈ list, ¬ goodA set ev.pl a := fun a ha hg => by
 rcases evO_cases h.tev with ⟨-, h2⟩ | ⟨h2, -⟩
 ·have := mem_goodL.2 ⟨a, ha, hg, rfl⟩
  rw [h2] at this
  cases this
 ·exact h2 hk
theorem Told.some {ds : List Int} {cop : Int} {g : Rg} {r : Rr} {list : List Aw} {ev : Ev} {set : List Int} (h : Told ds cop g r list ev set) : ev.kind = 3 ∨ ∃ i, ∃ h : i < list.length, mM set ev.pl (wvM (goodL set ev.pl list)) ev.kind ev.data list[i] := by
 rcases evO_cases h.tev with ⟨h1, -⟩ | ⟨-, b, hb, hh, hd⟩
 ·exact .inl h1
 ·right
  obtain ⟨a, ha, hg, rfl⟩ := mem_goodL.1 (bestO_best hb).1
  obtain ⟨i, hi, rfl⟩ := List.getElem_of_mem ha
  refine ⟨i, hi, hg, (wvM_best hb good_wave).symm, hh, ?_⟩
  rcases hd with ⟨h1, h2⟩ | h2
  ·rw [h2]
   have := (hg.2.2.1.2.2.2.2.2 h1).2
   exact nil_of_size this
  ·exact h2.symm
theorem next_tell {ds : List Int} {cop sure : Int} {g : Rg} {r n : Rr} {list : List Aw} (h : nextM ds cop g sure r list = (n, 0)) : ∃ ev, n.out = r.out ++ [ev] ∧ ((ev.kind = 4 ∨ ev.kind = 5) ∨ ((ev.kind ≠ 4 ∧ ev.kind ≠ 5) ∧ ∃ set, Told ds cop g r list ev set)) := by
 by_cases hx : nxP ds cop g r list
 ·by_cases hw : nxW g r
  ·rw [nextM_wait hx hw] at h; cases h
  ·rw [nextM_step hx hw] at h
   obtain ⟨hg, hr, -⟩ := id hx
   obtain ⟨-, he30, -, -⟩ := id hg
   obtain ⟨⟨r1, r2⟩, ⟨r3, r4⟩, r5⟩ := id hr
   unfold nxW at hw
   by_cases c1 : rrPl r ≤ g.trim
   ·rw [stepM_trim c1] at h; cases h
    exact ⟨_, rfl, .inl (.inr rfl)⟩
   by_cases c2 : (rrEr g r).closed = true ∧ (rrEr g r).last < r.off
   ·rw [stepM_era c1 c2] at h; cases h
    exact ⟨_, rfl, .inl (.inl rfl)⟩
   by_cases c3 : ((rrEr g r).closed = false ∧ sure < r.off) ∨ 60 < r.off
   ·rw [stepM_wait c1 c2 c3] at h; cases h
   by_cases c4 : enoughP ds cop (rrEr g r).nodes (bothL (list.map Aw.node) (rrEr g r).nodes)
   ·rw [stepM_tell c1 c2 c3 c4] at h; cases h
    refine ⟨_, rfl, .inr ⟨?_, (rrEr g r).nodes, ?_⟩⟩
    ·unfold evO
     split
     ·exact ⟨by simp, by simp⟩
     ·split
      ·exact ⟨by simp, by simp⟩
      ·exact ⟨by simp, by simp⟩
    ·have hpl : ∀ o, (evO (rrPl r) o).pl = rrPl r := fun o => by
      unfold evO
      split
      ·rfl
      ·split <;> rfl
     have hp : (evO (rrPl r) (bestO (goodL (rrEr g r).nodes (rrPl r) list))).pl = rrPl r := hpl _
     have hep : r.epoch ≤ 30 := by omega
     have hof : r.off ≤ 60 := by omega
     refine ⟨hp, ?_, ?_, ?_, ?_, by rw [setL_both]; exact c4, by rw [hp]⟩
     ·rw [hp]; unfold rrPl isPl; omega
     ·rw [hp]; unfold rrPl; omega
     ·rw [hp]; unfold rrPl; omega
     ·unfold eraN rrEr
      rw [if_pos (by omega), show r.epoch.toNat - 1 = (r.epoch - 1).toNat by omega]
   ·rw [stepM_few c1 c2 c3 c4] at h; cases h
 ·rw [nextM_bad hx] at h; cases h
end Go.Proofs.YtjkjmapibcfcdaaGreat
