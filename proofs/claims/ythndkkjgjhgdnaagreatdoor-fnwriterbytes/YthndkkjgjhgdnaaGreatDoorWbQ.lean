/- Writers as bytes: what is packed is read as it was, and what is read packs to its bytes (pure). -/
import Derived.Test.YthndkkjgjhgdnaaGreatDoorGk80
import Derived.Test.YthndkkjgjhgdnaaGreatDoorGk49
import Derived.Test.YthndkkjgjhgdnaaGreatDoorGk73
namespace Go.Proofs.YthndkkjgjhgdnaaGreatDoor
open Go.ChangeShapes Go.WideShapes Go.ChangeAt Go.RowKit
set_option linter.unusedVariables false
set_option linter.unusedSimpArgs false

/-- What a word must be to be read as it was. -/
def wdG (ds : List Int) (cop : Int) (e : Wd) : Prop := natI e.acks ∧ e.acks.length ≤ 9223372036854775807 ∧ e.data.size ≤ 9223372036854775807 ∧ (e.done = true ↔ holdsP ds cop e.acks)
theorem rdWd_on {ds : List Int} {cop : Int} {bs : List UInt8} {e : Wd} {q p : Nat} (h : On bs q (wdB e) p) (hg : wdG ds cop e) : rdWd ds cop bs q true = (e, p, true) := by
  obtain ⟨g1, g2, g3, g4⟩ := hg
  obtain ⟨da, ac, dn⟩ := e
  simp only [wdB] at h g1 g2 g3 g4
  obtain ⟨p1, ha, hb⟩ := h.cut
  have hsz : da.data.toList.length ≤ 9223372036854775807 := by
    have : da.data.toList.length = da.size := Array.length_toList
    omega
  have ra := rdT_on ha hsz
  have rb := rdL_on hb g1 g2
  unfold rdWd
  rw [ra]
  simp only
  rw [rb]
  simp only
  have e1 : @decide (holdsP ds cop ac) (Classical.propDecidable _) = dn := by
    cases dn
    · exact @decide_eq_false _ (Classical.propDecidable _) fun hh => by have := g4.2 hh; cases this
    · exact @decide_eq_true _ (Classical.propDecidable _) (g4.1 rfl)
  rw [e1]
theorem rdWd_off {ds : List Int} {cop : Int} {bs : List UInt8} {e : Wd} {q p : Nat} {ok : Bool} (h : rdWd ds cop bs q ok = (e, p, true)) : ok = true ∧ On bs q (wdB e) p := by
  unfold rdWd at h
  cases hA : rdT bs q ok with
  | mk a A =>
    obtain ⟨qa, oa⟩ := A
    rw [hA] at h
    simp only at h
    cases hB : rdL bs qa oa with
    | mk b B =>
      rw [hB] at h
      simp only [Prod.mk.injEq] at h
      obtain ⟨rfl, rfl⟩ := h
      obtain ⟨rfl, -, t1⟩ := rdL_off' hB
      obtain ⟨rfl, -, t2⟩ := rdT_off' hA
      exact ⟨rfl, t2.trans t1⟩
theorem rdWds_on {ds : List Int} {cop : Int} {bs : List UInt8} : ∀ (es : List Wd) (q p : Nat), On bs q (es.flatMap wdB) p → (∀ e ∈ es, wdG ds cop e) → rdWds ds cop bs es.length q true = (es, p, true)
  | [], q, p, h, _ => by
    obtain ⟨r, -, h2⟩ := h
    simp at h2
    subst h2
    rfl
  | e :: es, q, p, h, h1 => by
    rw [List.flatMap_cons] at h
    obtain ⟨p1, ha, hb⟩ := h.cut
    have ra := rdWd_on ha (h1 e (by simp))
    rw [List.length_cons, rdWds_succ, ra]
    simp only
    rw [rdWds_on es _ _ hb (fun x hx => h1 x (by simp [hx]))]
theorem rdWds_off' {ds : List Int} {cop : Int} {bs : List UInt8} : ∀ (n q : Nat) (ok : Bool) (es : List Wd) (p : Nat), rdWds ds cop bs n q ok = (es, p, true) → ok = true ∧ es.length = n ∧ On bs q (es.flatMap wdB) p
  | 0, q, ok, es, p, h => by
    rw [rdWds_zero] at h
    simp only [Prod.mk.injEq] at h
    obtain ⟨rfl, rfl, rfl⟩ := h
    exact ⟨rfl, rfl, On.refl _ _⟩
  | n + 1, q, false, es, p, h => by rw [rdWds_off] at h; simp at h
  | n + 1, q, true, es, p, h => by
    rw [rdWds_succ] at h
    cases hA : rdWd ds cop bs q true with
    | mk a A =>
      obtain ⟨qa, oa⟩ := A
      rw [hA] at h
      simp only at h
      cases hB : rdWds ds cop bs n qa oa with
      | mk b B =>
        rw [hB] at h
        simp only [Prod.mk.injEq] at h
        obtain ⟨rfl, rfl⟩ := h
        obtain ⟨rfl, l1, t1⟩ := rdWds_off' n qa oa b p hB
        obtain ⟨-, t2⟩ := rdWd_off hA
        exact ⟨rfl, by simp [l1], by rw [List.flatMap_cons]; exact t2.trans t1⟩
/-- What is packed is read as it was. -/
theorem wtR_pack {ds : List Int} {cop : Int} {m : Wt} (h : wrP ds cop m) (hg : ∀ e ∈ m.words, wdG ds cop e) : wtR ds cop (wtB m) = (m, true) := by
  have hep := h.2.1
  have hwl := h.2.2.1
  have h0 := On.all (wtB m)
  generalize hB : wtB m = B at *
  have h1 : On B 0 ((numB m.epoch.toNat ++ numB m.words.length) ++ m.words.flatMap wdB) B.length := by
    have : wtB m = (numB m.epoch.toNat ++ numB m.words.length) ++ m.words.flatMap wdB := rfl
    rw [← this, hB]
    exact h0
  obtain ⟨p2, h2, hd⟩ := h1.cut
  obtain ⟨p1, ha, hc⟩ := h2.cut
  have ra : wtRa B = (m.epoch, p1, true) := rdN_onI ha (by omega) (by omega)
  have rc : wtRc B = ((m.words.length : Int), p2, true) := by unfold wtRc; rw [ra]; exact rdN_on hc (by omega)
  have rd : wtRd ds cop B = (m.words, B.length, true) := by unfold wtRd; rw [rc]; simp only [Int.toNat_natCast]; exact rdWds_on m.words _ _ hd hg
  have em : wtRm ds cop B = m := by unfold wtRm; rw [ra, rd]
  rw [wtR_yes ds cop B ⟨by rw [rd]; exact endB_end B, by rw [em]; exact h⟩, em]
/-- What is read packs to its bytes. -/
theorem wtR_inv {ds : List Int} {cop : Int} {bs : List UInt8} {m : Wt} (h : wtR ds cop bs = (m, true)) : wrP ds cop m ∧ wtB m = bs := by
  by_cases hc : endB bs (wtRd ds cop bs).2.1 (wtRd ds cop bs).2.2 = true ∧ wrP ds cop (wtRm ds cop bs)
  · rw [wtR_yes ds cop bs hc] at h
    simp only [Prod.mk.injEq, and_true] at h
    subst h
    obtain ⟨he, hp⟩ := hc
    obtain ⟨o1, o2⟩ := endB_true he
    have ed := tri_eta o1
    rw [o2] at ed
    obtain ⟨ok3, l3, td⟩ := rdWds_off' _ _ _ _ _ ed
    obtain ⟨ok2, c0, c1, tc⟩ := rdN_off' (tri_eta ok3)
    obtain ⟨-, a0, a1, ta⟩ := rdN_off' (tri_eta ok2)
    refine ⟨hp, On.whole ?_⟩
    have := (ta.trans tc).trans td
    unfold wtB wtRm
    simp only
    rw [l3]
    exact this
  · rw [wtR_no ds cop bs hc] at h
    simp at h
theorem wtR_bad {ds : List Int} {cop : Int} {bs : List UInt8} (h : (wtR ds cop bs).2 = false) : wtR ds cop bs = (⟨0, []⟩, false) := by
  by_cases hc : endB bs (wtRd ds cop bs).2.1 (wtRd ds cop bs).2.2 = true ∧ wrP ds cop (wtRm ds cop bs)
  · rw [wtR_yes ds cop bs hc] at h; cases h
  · exact wtR_no ds cop bs hc
theorem wtB_pos (m : Wt) : 0 < (wtB m).length := by
  have := numB_pos m.epoch.toNat
  simp only [wtB, List.length_append]
  omega
theorem wtM_true {ds : List Int} {cop : Int} {m : Wt} {M : List UInt8 × Bool} (h : wtM ds cop m = M) (hb : M.2 = true) : wrP ds cop m ∧ M.1 = wtB m := by
  by_cases hp : wrP ds cop m
  · rw [wtM_yes hp] at h; subst h; exact ⟨hp, rfl⟩
  · rw [wtM_no hp] at h; subst h; cases hb
theorem nodes_inW {ds : List Int} {cop : Int} {xs : List Int} (h : nodesP ds cop xs) : ∀ x ∈ xs, 0 ≤ x ∧ x < (ds.length : Int) := fun x hx => by
  obtain ⟨i, hi, rfl⟩ := List.getElem_of_mem hx
  have := h.2 i hi
  omega
theorem wr_wdG {ds : List Int} {cop : Int} {m : Wt} (h : wrP ds cop m) (hd : ds.length ≤ 1048576) (ha : ∀ e ∈ m.words, e.acks.length ≤ 1048576) : ∀ e ∈ m.words, wdG ds cop e := fun e he => by
  obtain ⟨i, hi, rfl⟩ := List.getElem_of_mem he
  obtain ⟨h1, h2, h3⟩ := h.2.2.2.1 i hi
  refine ⟨fun x hx => ?_, by have := ha _ he; omega, by omega, h3.symm⟩
  have := nodes_inW h2 x hx
  omega
theorem wtR_ok (c : List Int × Int) (bs : List UInt8) (hl : bs.length ≤ 1048576) : okWriter (wtR c.1 c.2 bs).1 ∧ sizWriter (wtR c.1 c.2 bs).1 ≤ 1048576 := by
  by_cases h : endB bs (wtRd c.1 c.2 bs).2.1 (wtRd c.1 c.2 bs).2.2 = true ∧ wrP c.1 c.2 (wtRm c.1 c.2 bs)
  · rw [wtR_yes c.1 c.2 bs h]
    exact ⟨wtRm_ok c.1 c.2 bs hl, Nat.le_trans (wtRm_siz c.1 c.2 bs (endB_true h.1).1) hl⟩
  · rw [wtR_no c.1 c.2 bs h]
    exact ⟨⟨(fun e he => by cases he), by simp, by simp⟩, by simp [sizWriter, sizWordS, sumX, sumW]⟩
end Go.Proofs.YthndkkjgjhgdnaaGreatDoor
