/- Readers as bytes: what is packed is read as it was, and what is read packs to its bytes (pure). -/
import Derived.Test.YthndkkjgjhgdnaaDoorGk13
import Derived.Test.YthndkkjgjhgdnaaDoorPkN
import Derived.Test.YthndkkjgjhgdnaaDoorPkH
namespace Go.Proofs.YthndkkjgjhgdnaaDoor
open Go.ChangeShapes Go.WideShapes Go.ChangeAt Go.RowKit
set_option linter.unusedVariables false
set_option linter.unusedSimpArgs false

theorem rdE_on {bs : List UInt8} {e : Ev} {q p : Nat} (h : On bs q (evB e) p) (hp : evPk e) (h2 : e.pl ≤ 9223372036854775807) : rdE bs q true = (e, p, true) := by
  obtain ⟨⟨k1, k2⟩, k3, k4⟩ := hp
  obtain ⟨e0, e1, e2⟩ := e
  simp only [evB] at h k1 k2 k3 k4 h2
  obtain ⟨p2, h, hc⟩ := h.cut
  obtain ⟨p1, ha, hb⟩ := h.cut
  have ra := rdN_onI ha (by omega) (by omega)
  have rb := rdN_onI hb (by omega) (by omega)
  have hsz : e2.data.toList.length ≤ 9223372036854775807 := by
    have : e2.data.toList.length = e2.size := Array.length_toList
    omega
  have rc := rdT_on hc hsz
  unfold rdE
  rw [ra]
  simp only
  rw [rb]
  simp only
  rw [rc]
theorem rdE_off {bs : List UInt8} {e : Ev} {q p : Nat} {ok : Bool} (h : rdE bs q ok = (e, p, true)) : ok = true ∧ On bs q (evB e) p ∧ e.pl ≤ 9223372036854775807 := by
  unfold rdE at h
  cases hA : rdN bs q ok with
  | mk a A =>
    obtain ⟨qa, oa⟩ := A
    rw [hA] at h
    simp only at h
    cases hB : rdN bs qa oa with
    | mk b B =>
      obtain ⟨qb, ob⟩ := B
      rw [hB] at h
      simp only at h
      cases hC : rdT bs qb ob with
      | mk t C =>
        rw [hC] at h
        simp only [Prod.mk.injEq] at h
        obtain ⟨rfl, rfl⟩ := h
        obtain ⟨rfl, -, t1⟩ := rdT_off' hC
        obtain ⟨rfl, b0, b1, t2⟩ := rdN_off' hB
        obtain ⟨rfl, a0, a1, t3⟩ := rdN_off' hA
        exact ⟨rfl, (t3.trans t2).trans t1, b1⟩
theorem rdEs_on {bs : List UInt8} : ∀ (es : List Ev) (q p : Nat), On bs q (es.flatMap evB) p → (∀ e ∈ es, evPk e) → (∀ e ∈ es, e.pl ≤ 9223372036854775807) → rdEs bs es.length q true = (es, p, true)
  | [], q, p, h, _, _ => by
    obtain ⟨r, -, h2⟩ := h
    simp at h2
    subst h2
    rfl
  | e :: es, q, p, h, h1, h2 => by
    rw [List.flatMap_cons] at h
    obtain ⟨p1, ha, hb⟩ := h.cut
    have ra := rdE_on ha (h1 e (by simp)) (h2 e (by simp))
    rw [List.length_cons, rdEs_succ, ra]
    simp only
    rw [rdEs_on es _ _ hb (fun x hx => h1 x (by simp [hx])) (fun x hx => h2 x (by simp [hx]))]
theorem rdEs_off' {bs : List UInt8} : ∀ (n q : Nat) (ok : Bool) (es : List Ev) (p : Nat), rdEs bs n q ok = (es, p, true) → ok = true ∧ es.length = n ∧ On bs q (es.flatMap evB) p ∧ ∀ e ∈ es, e.pl ≤ 9223372036854775807
  | 0, q, ok, es, p, h => by
    rw [rdEs_zero] at h
    simp only [Prod.mk.injEq] at h
    obtain ⟨rfl, rfl, rfl⟩ := h
    exact ⟨rfl, rfl, On.refl _ _, fun e he => by simp at he⟩
  | n + 1, q, false, es, p, h => by rw [rdEs_off] at h; simp at h
  | n + 1, q, true, es, p, h => by
    rw [rdEs_succ] at h
    cases hA : rdE bs q true with
    | mk a A =>
      obtain ⟨qa, oa⟩ := A
      rw [hA] at h
      simp only at h
      cases hB : rdEs bs n qa oa with
      | mk b B =>
        rw [hB] at h
        simp only [Prod.mk.injEq] at h
        obtain ⟨rfl, rfl⟩ := h
        obtain ⟨rfl, l1, t1, g1⟩ := rdEs_off' n qa oa b p hB
        obtain ⟨-, t2, g2⟩ := rdE_off hA
        refine ⟨rfl, by simp [l1], by rw [List.flatMap_cons]; exact t2.trans t1, fun x hx => ?_⟩
        rcases List.mem_cons.1 hx with rfl | hx
        · exact g2
        · exact g1 x hx
/-- What is packed is read as it was. -/
theorem rdR_pack {m : Rr} (h : rdPk m) (hm : ∀ e ∈ m.out, e.pl ≤ 9223372036854775807) : rdR (rdB m) = (m, true) := by
  have hb := h.2
  obtain ⟨⟨x1, x2⟩, ⟨x3, x4⟩, x5⟩ := hb
  have h0 := On.all (rdB m)
  generalize hB : rdB m = B at *
  have h1 : On B 0 (((numB m.epoch.toNat ++ numB m.off.toNat) ++ numB m.out.length) ++ m.out.flatMap evB) B.length := by
    have : rdB m = ((numB m.epoch.toNat ++ numB m.off.toNat) ++ numB m.out.length) ++ m.out.flatMap evB := rfl
    rw [← this, hB]
    exact h0
  obtain ⟨p3, h2, hd⟩ := h1.cut
  obtain ⟨p2, h3, hc⟩ := h2.cut
  obtain ⟨p1, ha, hb'⟩ := h3.cut
  have ra : rdRa B = (m.epoch, p1, true) := rdN_onI ha (by omega) (by omega)
  have rb : rdRb B = (m.off, p2, true) := by unfold rdRb; rw [ra]; exact rdN_onI hb' (by omega) (by omega)
  have rc : rdRc B = ((m.out.length : Int), p3, true) := by unfold rdRc; rw [rb]; exact rdN_on hc (by omega)
  have rd : rdRd B = (m.out, B.length, true) := by unfold rdRd; rw [rc]; simp only [Int.toNat_natCast]; exact rdEs_on m.out _ _ hd h.1 hm
  have em : rdRm B = m := by unfold rdRm; rw [ra, rb, rd]
  rw [rdR_yes B ⟨by rw [rd]; exact endB_end B, by rw [em]; exact h⟩, em]
/-- What is read packs to its bytes. -/
theorem rdR_inv {bs : List UInt8} {m : Rr} (h : rdR bs = (m, true)) : rdPk m ∧ rdB m = bs ∧ ∀ e ∈ m.out, e.pl ≤ 9223372036854775807 := by
  by_cases hc : endB bs (rdRd bs).2.1 (rdRd bs).2.2 = true ∧ rdPk (rdRm bs)
  · rw [rdR_yes bs hc] at h
    simp only [Prod.mk.injEq, and_true] at h
    subst h
    obtain ⟨he, hp⟩ := hc
    obtain ⟨o1, o2⟩ := endB_true he
    have ed := tri_eta o1
    rw [o2] at ed
    obtain ⟨ok3, l3, td, gd⟩ := rdEs_off' _ _ _ _ _ ed
    obtain ⟨ok2, c0, c1, tc⟩ := rdN_off' (tri_eta ok3)
    obtain ⟨ok1, b0, b1, tb⟩ := rdN_off' (tri_eta ok2)
    obtain ⟨-, a0, a1, ta⟩ := rdN_off' (tri_eta ok1)
    refine ⟨hp, On.whole ?_, gd⟩
    have := ((ta.trans tb).trans tc).trans td
    unfold rdB rdRm
    simp only
    rw [l3]
    exact this
  · rw [rdR_no bs hc] at h
    simp at h
theorem rdR_bad {bs : List UInt8} (h : (rdR bs).2 = false) : rdR bs = (⟨0, 0, []⟩, false) := by
  by_cases hc : endB bs (rdRd bs).2.1 (rdRd bs).2.2 = true ∧ rdPk (rdRm bs)
  · rw [rdR_yes bs hc] at h; cases h
  · exact rdR_no bs hc
theorem rdB_pos (m : Rr) : 0 < (rdB m).length := by
  have := numB_pos m.epoch.toNat
  simp only [rdB, List.length_append]
  omega
theorem rdM_true {m : Rr} {M : List UInt8 × Bool} (h : rdM m = M) (hb : M.2 = true) : rdPk m ∧ M.1 = rdB m := by
  by_cases hp : rdPk m
  · rw [rdM_yes hp] at h; subst h; exact ⟨hp, rfl⟩
  · rw [rdM_no hp] at h; subst h; cases hb
end Go.Proofs.YthndkkjgjhgdnaaDoor
