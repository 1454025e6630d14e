/- Several texts in one: KdP, UnF, FlF. -/
import Derived.Test.YtejmfohkobhidaaUnA
import Derived.Test.YtejmfohkobhidaaUnS
import Derived.Test.YtejmfohkobhidaaFiS
import Derived.Test.YtejmfohkobhidaaGf5
import Derived.Test.YtejmfohkobhidaaStT
namespace Go.Proofs.Ytejmfohkobhidaa
set_option linter.unusedVariables false

theorem keepL_dom {e x : Ent} : ∀ {acc : List Ent}, x ∈ acc ∨ x = e → ∃ o ∈ keepL e acc, o.pl = x.pl ∧ x.wave ≤ o.wave := by
  intro acc
  induction acc with
  | nil =>
    rintro (h | rfl)
    · cases h
    · exact ⟨x, by simp [keepL], rfl, by omega⟩
  | cons a l ih =>
    intro h
    rcases Int.lt_trichotomy a.pl e.pl with h1 | h1 | h1
    · rw [keepL_lt h1]
      rcases h with h | rfl
      · rcases List.mem_cons.1 h with rfl | h
        · exact ⟨x, by simp, rfl, by omega⟩
        · obtain ⟨o, ho, q⟩ := ih (.inl h)
          exact ⟨o, by simp [ho], q⟩
      · obtain ⟨o, ho, q⟩ := ih (.inr rfl)
        exact ⟨o, by simp [ho], q⟩
    · rw [keepL_eq h1]
      have hb : a.wave ≤ (better a e).wave ∧ e.wave ≤ (better a e).wave := by
        unfold better
        split <;> omega
      rcases h with h | rfl
      · rcases List.mem_cons.1 h with rfl | h
        · exact ⟨better x e, by simp, better_pl h1, hb.1⟩
        · exact ⟨x, by simp [h], rfl, by omega⟩
      · exact ⟨better a x, by simp, by rw [better_pl h1]; exact h1, hb.2⟩
    · rw [keepL_gt h1]
      rcases h with h | rfl
      · exact ⟨x, by simp [List.mem_cons.1 h], rfl, by omega⟩
      · exact ⟨x, by simp, rfl, by omega⟩
theorem asc_one {l : List Ent} (h : ascQ l) {a b : Ent} (ha : a ∈ l) (hb : b ∈ l) (e : a.pl = b.pl) : a = b := by
  obtain ⟨i, hi, rfl⟩ := List.getElem_of_mem ha
  obtain ⟨j, hj, rfl⟩ := List.getElem_of_mem hb
  rcases Nat.lt_trichotomy i j with h1 | h1 | h1
  · have := List.pairwise_iff_getElem.1 h i j hi hj h1
    omega
  · subst h1; rfl
  · have := List.pairwise_iff_getElem.1 h j i hj hi h1
    omega
theorem getL_of {l : List Ent} {x : Int} {e : Ent} (h : getL l x = some e) : e ∈ l ∧ e.pl = x := by
  unfold getL at h
  exact ⟨List.mem_of_find?_eq_some h, by simpa using List.find?_some h⟩
theorem getL_in {l : List Ent} {e : Ent} (h : ascQ l) (he : e ∈ l) : getL l e.pl = some e := by
  unfold getL
  cases hf : l.find? (fun a => a.pl == e.pl) with
  | none => exact absurd (List.find?_eq_none.1 hf e he) (by simp)
  | some a =>
    have h1 := List.mem_of_find?_eq_some hf
    have h2 : a.pl = e.pl := by simpa using List.find?_some hf
    rw [asc_one h h1 he h2]
end Go.Proofs.Ytejmfohkobhidaa
namespace Go.Proofs.Ytejmfohkobhidaa
set_option linter.unusedVariables false

theorem keepAll_dom {x : Ent} {l : List Ent} : ∀ {acc : List Ent}, x ∈ acc ∨ x ∈ l → ∃ o ∈ keepAll acc l, o.pl = x.pl ∧ x.wave ≤ o.wave := by
  induction l with
  | nil =>
    rintro acc (h | h)
    · exact ⟨x, h, rfl, by omega⟩
    · cases h
  | cons e l ih =>
    intro acc h
    have key : ∀ y : Ent, y ∈ keepL e acc → y.pl = x.pl → x.wave ≤ y.wave → ∃ o ∈ keepAll acc (e :: l), o.pl = x.pl ∧ x.wave ≤ o.wave := fun y hy h1 h2 => by
      have : ∃ o ∈ keepAll (keepL e acc) l, o.pl = y.pl ∧ y.wave ≤ o.wave := by
        clear h ih h1 h2
        have gen : ∀ (l : List Ent) (acc : List Ent) (y : Ent), y ∈ acc → ∃ o ∈ keepAll acc l, o.pl = y.pl ∧ y.wave ≤ o.wave := by
          intro l
          induction l with
          | nil => intro acc y hy; exact ⟨y, hy, rfl, by omega⟩
          | cons e l ih =>
            intro acc y hy
            obtain ⟨o, ho, q1, q2⟩ := keepL_dom (e := e) (.inl hy)
            obtain ⟨o', ho', q3, q4⟩ := ih (keepL e acc) o ho
            exact ⟨o', ho', by rw [q3, q1], by omega⟩
        exact gen l _ y hy
      obtain ⟨o, ho, q1, q2⟩ := this
      exact ⟨o, ho, by rw [q1, h1], by omega⟩
    rcases h with h | h
    · obtain ⟨o, ho, q1, q2⟩ := keepL_dom (e := e) (.inl h)
      exact key o ho q1 q2
    · rcases List.mem_cons.1 h with rfl | h
      · obtain ⟨o, ho, q1, q2⟩ := keepL_dom (e := x) (acc := acc) (.inr rfl)
        exact key o ho q1 q2
      · exact ih (.inr h)
theorem unL_dom {x : Ent} {ls : List (List Ent)} {l : List Ent} (hl : l ∈ ls) (hx : x ∈ l) : ∃ o ∈ unL ls, o.pl = x.pl ∧ x.wave ≤ o.wave := by
  have : ∀ (ls : List (List Ent)) (acc : List Ent), (∃ y ∈ acc, y.pl = x.pl ∧ x.wave ≤ y.wave) ∨ l ∈ ls → ∃ o ∈ ls.foldl keepAll acc, o.pl = x.pl ∧ x.wave ≤ o.wave := by
    intro ls
    induction ls with
    | nil =>
      rintro acc (h | h)
      · exact h
      · cases h
    | cons m ls ih =>
      intro acc h
      rcases h with ⟨y, hy, q1, q2⟩ | h
      · obtain ⟨o, ho, q3, q4⟩ := keepAll_dom (l := m) (.inl hy)
        exact ih (keepAll acc m) (.inl ⟨o, ho, by rw [q3, q1], by omega⟩)
      · rcases List.mem_cons.1 h with rfl | h
        · obtain ⟨o, ho, q3, q4⟩ := keepAll_dom (acc := acc) (.inr hx)
          exact ih _ (.inl ⟨o, ho, q3, q4⟩)
        · exact ih _ (.inr h)
  exact this ls [] (.inr hl)
theorem unL_asc (ls : List (List Ent)) : ascQ (unL ls) := by
  have : ∀ (ls : List (List Ent)) acc, ascQ acc → ascQ (ls.foldl keepAll acc) := by
    intro ls
    induction ls with
    | nil => intro acc h; exact h
    | cons l ls ih => intro acc h; exact ih _ (keepAll_asc h)
  exact this ls [] List.Pairwise.nil
/-- What FnUnion says of stores that are right. -/
theorem unF (ms : List St) (h : ∀ m ∈ ms, stP m) :
    (∀ i (hi : i < (unL (kepts ms)).length) k (hk : k < ms.length) e, getL ms[k].kept (unL (kepts ms))[i].pl = some e → ¬ (unL (kepts ms))[i].wave < e.wave) ∧
    (∀ i (hi : i < (unL (kepts ms)).length), ∃ k, ∃ hk : k < ms.length, getL ms[k].kept (unL (kepts ms))[i].pl = some (unL (kepts ms))[i]) ∧
    (∀ i (hi : i + 1 < (unL (kepts ms)).length), (unL (kepts ms))[i].pl < (unL (kepts ms))[i + 1].pl) ∧
    (∀ k (hk : k < ms.length) j (hj : j < ms[k].kept.length), ∃ o ∈ unL (kepts ms), o.pl = ms[k].kept[j].pl) := by
  have asc : ∀ m ∈ ms, ascQ m.kept := fun m hm => (ascE_iff _).1 (h m hm).2.2.1
  have hU := unL_asc (kepts ms)
  refine ⟨fun i hi k hk e he => ?_, fun i hi => ?_, fun i hi => ?_, fun k hk j hj => ?_⟩
  · obtain ⟨h1, h2⟩ := getL_of he
    obtain ⟨o, ho, q1, q2⟩ := unL_dom (ls := kepts ms) (List.mem_map.2 ⟨_, List.getElem_mem hk, rfl⟩) h1
    have := asc_one hU ho (List.getElem_mem hi) (by omega)
    rw [← this]
    omega
  · obtain ⟨l, hl, he⟩ := mem_unL (List.getElem_mem hi)
    obtain ⟨m, hm, rfl⟩ := List.mem_map.1 hl
    obtain ⟨k, hk, rfl⟩ := List.getElem_of_mem hm
    exact ⟨k, hk, getL_in (asc _ hm) he⟩
  · exact List.pairwise_iff_getElem.1 hU i (i + 1) (by omega) hi (by omega)
  · obtain ⟨o, ho, q1, -⟩ := unL_dom (ls := kepts ms) (List.mem_map.2 ⟨_, List.getElem_mem hk, rfl⟩) (List.getElem_mem hj)
    exact ⟨o, ho, q1⟩
end Go.Proofs.Ytejmfohkobhidaa
namespace Go.Proofs.Ytejmfohkobhidaa
set_option linter.unusedVariables false

theorem bes_mem {lost : List Int} {ms : List St} {i k : Nat} (hi : i < ms.length) (hk : i < k) (h : (i : Int) ∉ lost) : ms[i] ∈ bes lost ms k := by
  unfold bes
  exact List.mem_filterMap.2 ⟨i, List.mem_filter.2 ⟨List.mem_range.2 hk, by simpa using h⟩, List.getElem?_eq_getElem hi⟩
/-- What FnFilled says where it goes through. -/
theorem fill_true {ds : List Int} {cop : Int} {ms : List St} {lost : List Int} {node upto : Int} {m : St} (h : fillM ds cop ms lost node upto = (m, true)) : stP m ∧ m.late = [] ∧ m.lock = upto ∧ lostP ds cop lost ∧ ∀ i (hi : i < ms.length), (i : Int) ∉ lost → ∀ x ∈ ms[i].kept, ∃ o, getM m x.pl = some o ∧ x.wave ≤ o.wave := by
  by_cases hp : fillP ds cop ms lost node upto
  · rw [fillM_yes hp] at h
    cases h
    refine ⟨hp.2.2, rfl, rfl, hp.1.2.1, fun i hi hn x hx => ?_⟩
    obtain ⟨o, ho, h1, h2⟩ := unL_dom (ls := kepts (othL lost ms)) (l := ms[i].kept) (x := x) (List.mem_map.2 ⟨_, bes_mem hi hi hn, rfl⟩) hx
    refine ⟨o, ?_, h2⟩
    unfold getM
    rw [if_pos hp.2.2, ← h1]
    exact getL_in (unL_asc _) ho
  · rw [fillM_no hp] at h; cases h
theorem fill_false {ds : List Int} {cop : Int} {ms : List St} {lost : List Int} {node upto : Int} {m : St} (h : fillM ds cop ms lost node upto = (m, false)) : m = ⟨[], [], 0⟩ := by
  by_cases hp : fillP ds cop ms lost node upto
  · rw [fillM_yes hp] at h; cases h
  · rw [fillM_no hp] at h; cases h; rfl
end Go.Proofs.Ytejmfohkobhidaa
