/- Registers as bytes: what is packed is read as it was, and what is read packs to its bytes (pure). -/
import Derived.Test.YthndkkjgjhgdnaaGreatDoorGk80
import Derived.Test.YthndkkjgjhgdnaaGreatDoorGk72
import Derived.Test.YthndkkjgjhgdnaaGreatDoorGk53
namespace Go.Proofs.YthndkkjgjhgdnaaGreatDoor
open Go.ChangeShapes Go.WideShapes Go.ChangeAt Go.RowKit
set_option linter.unusedVariables false
set_option linter.unusedSimpArgs false

/-- What an era must be to be read as it was. -/
def erG (e : Er) : Prop := natI e.nodes ∧ e.nodes.length ≤ 9223372036854775807 ∧ 0 ≤ e.last ∧ e.last ≤ 9223372036854775807
theorem rdEr_on {bs : List UInt8} {e : Er} {q p : Nat} (h : On bs q (erB e) p) (hg : erG e) : rdEr bs q true = (e, p, true) := by
  obtain ⟨g1, g2, g3, g4⟩ := hg
  obtain ⟨ns, cl, la⟩ := e
  simp only [erB] at h g1 g2 g3 g4
  obtain ⟨p2, h, hc⟩ := h.cut
  obtain ⟨p1, ha, hb⟩ := h.cut
  have ra := rdL_on ha g1 g2
  have rc := rdN_onI hc g3 g4
  have rb : rdN bs p1 true = ((bitN cl : Int), p2, true) := rdN_on hb (by cases cl <;> simp [bitN])
  unfold rdEr
  rw [ra]
  simp only
  rw [rb]
  simp only
  rw [rc]
  cases cl <;> simp [bitN]
theorem rdEr_off {bs : List UInt8} {e : Er} {q p : Nat} {ok : Bool} (h : rdEr bs q ok = (e, p, true)) : ok = true ∧ On bs q (erB e) p := by
  unfold rdEr at h
  cases hA : rdL bs q ok with
  | mk a A =>
    obtain ⟨qa, oa⟩ := A
    rw [hA] at h
    simp only at h
    cases hB : rdN bs qa oa with
    | mk b B =>
      obtain ⟨qb, ob⟩ := B
      rw [hB] at h
      simp only at h
      cases hC : rdN bs qb ob with
      | mk c C =>
        obtain ⟨qc, oc⟩ := C
        rw [hC] at h
        simp only [Prod.mk.injEq, Bool.and_eq_true, decide_eq_true_eq] at h
        obtain ⟨rfl, rfl, rfl, hb1⟩ := h
        obtain ⟨rfl, c0, c1, t1⟩ := rdN_off' hC
        obtain ⟨rfl, b0, -, t2⟩ := rdN_off' hB
        obtain ⟨rfl, -, t3⟩ := rdL_off' hA
        refine ⟨rfl, ?_⟩
        have e2 : numB b.toNat = numB (bitN (b == 1)) := by
          rcases (show b = 0 ∨ b = 1 by omega) with rfl | rfl <;> rfl
        rw [e2] at t2
        exact (t3.trans t2).trans t1
theorem rdErs_on {bs : List UInt8} : ∀ (es : List Er) (q p : Nat), On bs q (es.flatMap erB) p → (∀ e ∈ es, erG e) → rdErs bs es.length q true = (es, p, true)
  | [], q, p, h, _ => by
    obtain ⟨r, -, h2⟩ := h
    simp at h2
    subst h2
    rfl
  | e :: es, q, p, h, h1 => by
    rw [List.flatMap_cons] at h
    obtain ⟨p1, ha, hb⟩ := h.cut
    have ra := rdEr_on ha (h1 e (by simp))
    rw [List.length_cons, rdErs_succ, ra]
    simp only
    rw [rdErs_on es _ _ hb (fun x hx => h1 x (by simp [hx]))]
theorem rdErs_off' {bs : List UInt8} : ∀ (n q : Nat) (ok : Bool) (es : List Er) (p : Nat), rdErs bs n q ok = (es, p, true) → ok = true ∧ es.length = n ∧ On bs q (es.flatMap erB) p
  | 0, q, ok, es, p, h => by
    rw [rdErs_zero] at h
    simp only [Prod.mk.injEq] at h
    obtain ⟨rfl, rfl, rfl⟩ := h
    exact ⟨rfl, rfl, On.refl _ _⟩
  | n + 1, q, false, es, p, h => by rw [rdErs_off] at h; simp at h
  | n + 1, q, true, es, p, h => by
    rw [rdErs_succ] at h
    cases hA : rdEr bs q true with
    | mk a A =>
      obtain ⟨qa, oa⟩ := A
      rw [hA] at h
      simp only at h
      cases hB : rdErs bs n qa oa with
      | mk b B =>
        rw [hB] at h
        simp only [Prod.mk.injEq] at h
        obtain ⟨rfl, rfl⟩ := h
        obtain ⟨rfl, l1, t1⟩ := rdErs_off' n qa oa b p hB
        obtain ⟨-, t2⟩ := rdEr_off hA
        exact ⟨rfl, by simp [l1], by rw [List.flatMap_cons]; exact t2.trans t1⟩
/-- What is packed is read as it was. -/
theorem rgR_pack {ds : List Int} {cop : Int} {m : Rg} (h : regP ds cop m) (hg : ∀ e ∈ m.eras, erG e) (ht : 0 ≤ m.trim ∧ m.trim ≤ 9223372036854775807) (hl : m.eras.length ≤ 9223372036854775807) : rgR ds cop (rgB m) = (m, true) := by
  have h0 := On.all (rgB m)
  generalize hB : rgB m = B at *
  have h1 : On B 0 ((numB m.trim.toNat ++ numB m.eras.length) ++ m.eras.flatMap erB) B.length := by
    have : rgB m = (numB m.trim.toNat ++ numB m.eras.length) ++ m.eras.flatMap erB := rfl
    rw [← this, hB]
    exact h0
  obtain ⟨p2, h2, hd⟩ := h1.cut
  obtain ⟨p1, ha, hc⟩ := h2.cut
  have ra : rgRa B = (m.trim, p1, true) := rdN_onI ha ht.1 ht.2
  have rc : rgRc B = ((m.eras.length : Int), p2, true) := by unfold rgRc; rw [ra]; exact rdN_on hc hl
  have rd : rgRd B = (m.eras, B.length, true) := by unfold rgRd; rw [rc]; simp only [Int.toNat_natCast]; exact rdErs_on m.eras _ _ hd hg
  have em : rgRm B = m := by unfold rgRm; rw [ra, rd]
  rw [rgR_yes ds cop B ⟨by rw [rd]; exact endB_end B, by rw [em]; exact h⟩, em]
/-- What is read packs to its bytes. -/
theorem rgR_inv {ds : List Int} {cop : Int} {bs : List UInt8} {m : Rg} (h : rgR ds cop bs = (m, true)) : regP ds cop m ∧ rgB m = bs := by
  by_cases hc : endB bs (rgRd bs).2.1 (rgRd bs).2.2 = true ∧ regP ds cop (rgRm bs)
  · rw [rgR_yes ds cop bs hc] at h
    simp only [Prod.mk.injEq, and_true] at h
    subst h
    obtain ⟨he, hp⟩ := hc
    obtain ⟨o1, o2⟩ := endB_true he
    have ed := tri_eta o1
    rw [o2] at ed
    obtain ⟨ok3, l3, td⟩ := rdErs_off' _ _ _ _ _ ed
    obtain ⟨ok2, c0, c1, tc⟩ := rdN_off' (tri_eta ok3)
    obtain ⟨-, a0, a1, ta⟩ := rdN_off' (tri_eta ok2)
    refine ⟨hp, On.whole ?_⟩
    have := (ta.trans tc).trans td
    unfold rgB rgRm
    simp only
    rw [l3]
    exact this
  · rw [rgR_no ds cop bs hc] at h
    simp at h
theorem rgR_bad {ds : List Int} {cop : Int} {bs : List UInt8} (h : (rgR ds cop bs).2 = false) : rgR ds cop bs = (⟨[], 0⟩, false) := by
  by_cases hc : endB bs (rgRd bs).2.1 (rgRd bs).2.2 = true ∧ regP ds cop (rgRm bs)
  · rw [rgR_yes ds cop bs hc] at h; cases h
  · exact rgR_no ds cop bs hc
theorem rgB_pos (m : Rg) : 0 < (rgB m).length := by
  have := numB_pos m.trim.toNat
  simp only [rgB, List.length_append]
  omega
theorem rgM_true {ds : List Int} {cop : Int} {m : Rg} {M : List UInt8 × Bool} (h : rgM ds cop m = M) (hb : M.2 = true) : regP ds cop m ∧ M.1 = rgB m := by
  by_cases hp : regP ds cop m
  · rw [rgM_yes hp] at h; subst h; exact ⟨hp, rfl⟩
  · rw [rgM_no hp] at h; subst h; cases hb
theorem nodes_inB {ds : List Int} {cop : Int} {xs : List Int} (h : nodesP ds cop xs) : ∀ x ∈ xs, 0 ≤ x ∧ x < (ds.length : Int) := fun x hx => by
  obtain ⟨i, hi, rfl⟩ := List.getElem_of_mem hx
  have := h.2 i hi
  omega
theorem reg_erG {ds : List Int} {cop : Int} {m : Rg} (h : regP ds cop m) (hd : ds.length ≤ 1048576) (ha : ∀ e ∈ m.eras, e.nodes.length ≤ 1048576) : ∀ e ∈ m.eras, erG e := fun e he => by
  obtain ⟨i, hi, rfl⟩ := List.getElem_of_mem he
  obtain ⟨h1, h2, h3⟩ := h.2.2.2 i hi
  refine ⟨fun x hx => ?_, by have := ha _ he; omega, by omega, by omega⟩
  have := nodes_inB h1.1 x hx
  omega
theorem reg_trim {ds : List Int} {cop : Int} {m : Rg} (h : regP ds cop m) : 0 ≤ m.trim := by
  rcases h.2.2.1 with h | ⟨h, -⟩
  · omega
  · unfold isPl at h; omega
theorem rgR_ok (c : List Int × Int) (bs : List UInt8) (hl : bs.length ≤ 1048576) : okRegister (rgR c.1 c.2 bs).1 ∧ sizRegister (rgR c.1 c.2 bs).1 ≤ 1048576 := by
  by_cases h : endB bs (rgRd bs).2.1 (rgRd bs).2.2 = true ∧ regP c.1 c.2 (rgRm bs)
  · rw [rgR_yes c.1 c.2 bs h]
    exact ⟨rgRm_ok bs, Nat.le_trans (rgRm_siz bs (endB_true h.1).1) hl⟩
  · rw [rgR_no c.1 c.2 bs h]
    exact ⟨⟨(fun e he => by cases he), by simp, by simp⟩, by simp [sizRegister, sizEraS, sumN]⟩
end Go.Proofs.YthndkkjgjhgdnaaGreatDoor
