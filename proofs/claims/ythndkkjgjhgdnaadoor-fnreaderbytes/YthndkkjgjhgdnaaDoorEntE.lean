/- What is packed is read as itself, and what is read is packed as it was: of numbers, texts, entries. -/
import Derived.Test.YthndkkjgjhgdnaaDoorEntD
namespace Go.Proofs.YthndkkjgjhgdnaaDoor

theorem getF_inv (n k u x : Nat) (l : List UInt8) {y m : Nat} (h : getF n k u x l = some (y, m)) : ∃ d r, l = numF n d ++ r ∧ y = x + d * u ∧ m = k + (numF n d).length ∧ (0 < k → 0 < d) ∧ d < 128 ^ n := by
  induction n generalizing k u x l with
  | zero => simp [getF] at h
  | succ n ih =>
    cases l with
    | nil => simp [getF] at h
    | cons c r =>
      have hc256 : c.toNat < 256 := c.toNat_lt
      simp only [getF] at h
      by_cases hc : c.toNat < 128
      · rw [if_pos hc] at h
        by_cases hz : c.toNat = 0 ∧ 0 < k
        · rw [if_pos hz] at h; cases h
        · rw [if_neg hz] at h
          cases h
          refine ⟨c.toNat, r, ?_, by rw [Nat.mod_eq_of_lt hc], by rw [numF_small hc]; rfl, by omega, ?_⟩
          · rw [numF_small hc]; simp
          · have h1 : 0 < 128 ^ n := Nat.pow_pos (by omega)
            rw [Nat.pow_succ]
            omega
      · rw [if_neg hc] at h
        obtain ⟨d, r', h1, h2, h3, h4, h5⟩ := ih (k + 1) (u * 128) (x + c.toNat % 128 * u) r h
        have hd := h4 (by omega)
        have hbig : ¬ (c.toNat % 128 + 128 * d < 128) := by omega
        have e1 : (c.toNat % 128 + 128 * d) % 128 = c.toNat % 128 := by omega
        have e2 : (c.toNat % 128 + 128 * d) / 128 = d := by omega
        have e3 : UInt8.ofNat (c.toNat % 128 + 128) = c := by
          have : c.toNat % 128 + 128 = c.toNat := by omega
          rw [this]; simp
        refine ⟨c.toNat % 128 + 128 * d, r', ?_, ?_, ?_, by omega, ?_⟩
        · rw [numF_big hbig, e1, e2, e3, List.cons_append, ← h1]
        · rw [h2, Nat.add_mul, Nat.add_assoc, Nat.mul_comm u 128, ← Nat.mul_assoc, Nat.mul_comm d 128]
        · rw [h3, numF_big hbig, e2, List.length_cons]; omega
        · rw [Nat.pow_succ]; omega
theorem getB_inv {l : List UInt8} {y m : Nat} (h : getB l = some (y, m)) : ∃ r, l = numB y ++ r ∧ m = (numB y).length := by
  obtain ⟨d, r, h1, h2, h3, -, -⟩ := getF_inv 9 0 1 0 l h
  have e : y = d := by omega
  subst e
  exact ⟨r, h1, by rw [h3, Nat.zero_add]; rfl⟩
theorem gtextB_inv {l t : List UInt8} {p q : Nat} (h : gtextB l p = some (t, q)) : ∃ r, l.drop p = textB t ++ r ∧ q = p + (textB t).length := by
  simp only [gtextB] at h
  split at h
  · cases h
  · rename_i n k hg
    obtain ⟨r, h1, h2⟩ := getB_inv hg
    split at h
    · rename_i hn
      cases h
      have hd : l.drop (p + k) = r := by rw [← List.drop_drop, h1, h2]; simp
      have hlen : r.length = l.length - (p + k) := by rw [← hd, List.length_drop]
      have ht : ((l.drop (p + k)).take n).length = n := by rw [hd, List.length_take]; omega
      refine ⟨r.drop n, ?_, ?_⟩
      · rw [h1, textB, ht, hd, List.append_assoc, List.take_append_drop]
      · rw [textB, ht, List.length_append, ht, ← h2]; omega
    · cases h
theorem bitN_of {n3 : Nat} (h : ¬ 1 < n3) : bitN (n3 == 1) = n3 := by
  obtain rfl | rfl : n3 = 0 ∨ n3 = 1 := by omega
  · rfl
  · rfl
/-- What is read is packed as it was. -/
theorem readZ_inv {bs : List UInt8} {x : Int} {e : Ent} {q : Nat} (h : readZ bs x = some (e, q)) :
    0 ≤ x ∧ entP e ∧ ∃ r, bs.drop x.toNat = packB e.pl.toNat e.wave.toNat e.hole e.data.data.toList ++ r ∧ q = x.toNat + (packB e.pl.toNat e.wave.toNat e.hole e.data.data.toList).length := by
  simp only [readZ] at h
  split at h
  · cases h
  · rename_i n1 k1 hg1
    have hx : 0 ≤ x ∧ getB (bs.drop x.toNat) = some (n1, k1) := by
      rw [getZ] at hg1
      split at hg1
      · cases hg1
      · exact ⟨by omega, hg1⟩
    obtain ⟨r1, a1, b1⟩ := getB_inv hx.2
    simp only [readA] at h
    split at h
    · cases h
    · rename_i n2 k2 hg2
      obtain ⟨r2, a2, b2⟩ := getB_inv hg2
      simp only [readB] at h
      split at h
      · cases h
      · rename_i n3 k3 hg3
        obtain ⟨r3, a3, b3⟩ := getB_inv hg3
        split at h
        · cases h
        · rename_i h3
          simp only [readC] at h
          split at h
          · cases h
          · rename_i t q' hg4
            obtain ⟨r4, a4, b4⟩ := gtextB_inv hg4
            by_cases he : entP (entOf n1 n2 n3 t)
            · rw [entOk_yes he, if_pos rfl] at h
              cases h
              have d1 : bs.drop (x.toNat + k1) = r1 := by rw [← List.drop_drop, a1, b1]; simp
              have d2 : bs.drop (x.toNat + k1 + k2) = r2 := by rw [← List.drop_drop, a2, b2]; simp
              have d3 : bs.drop (x.toNat + k1 + k2 + k3) = r3 := by rw [← List.drop_drop, a3, b3]; simp
              refine ⟨hx.1, he, r4, ?_, ?_⟩
              · show _ = packB (n1 : Int).toNat (n2 : Int).toNat (n3 == 1) t.toArray.toList ++ r4
                rw [packB, Int.toNat_natCast, Int.toNat_natCast, bitN_of h3, a1, ← d1, a2, ← d2, a3, ← d3, a4]
                simp only [List.append_assoc]
              · show _ = _ + (packB (n1 : Int).toNat (n2 : Int).toNat (n3 == 1) t.toArray.toList).length
                rw [packB, Int.toNat_natCast, Int.toNat_natCast, bitN_of h3, b4]
                simp only [List.length_append, ← b1, ← b2, ← b3]
                omega
            · rw [entOk_no he] at h; cases h
theorem gtextB_app (pre t post : List UInt8) (ht : t.length ≤ 9223372036854775807) : gtextB (pre ++ (textB t ++ post)) pre.length = some (t, pre.length + (textB t).length) := by
  have hd : (pre ++ (textB t ++ post)).drop pre.length = textB t ++ post := List.drop_left
  have hg : getB ((pre ++ (textB t ++ post)).drop pre.length) = some (t.length, (numB t.length).length) := by
    rw [hd, textB, List.append_assoc]
    exact getB_num _ _ ht
  simp only [gtextB, hg]
  have hle : t.length + (pre.length + (numB t.length).length) ≤ (pre ++ (textB t ++ post)).length := by simp only [textB, List.length_append]; omega
  rw [if_pos hle]
  have h2 : (pre ++ (textB t ++ post)).drop (pre.length + (numB t.length).length) = t ++ post := by
    rw [← List.drop_drop, hd, textB, List.append_assoc, List.drop_left]
  rw [h2, List.take_left]
  simp only [textB, List.length_append, Option.some.injEq, Prod.mk.injEq, true_and]
  omega
/-- What is packed is read as itself. -/
theorem readZ_pack (e : Ent) (h : entP e) (pre post : List UInt8) :
    readZ (pre ++ (packB e.pl.toNat e.wave.toNat e.hole e.data.data.toList ++ post)) (pre.length : Int) = some (e, pre.length + (packB e.pl.toNat e.wave.toNat e.hole e.data.data.toList).length) := by
  obtain ⟨x, v, h0, d⟩ := e
  have he := h
  obtain ⟨hp, v0, v1, hv, hd, hh⟩ := h
  simp only at hp v0 v1 hv hd hh ⊢
  obtain ⟨p0, p1, p2, p3, p4⟩ := hp
  obtain ⟨n1, rfl⟩ := Int.eq_ofNat_of_zero_le (show 0 ≤ x by omega)
  obtain ⟨n2, rfl⟩ := Int.eq_ofNat_of_zero_le v0
  simp only [Int.toNat_natCast]
  have hds : d.data.toList.length = d.size := by rw [← Lib.size_eq]
  have hback : (⟨d.data.toList.toArray⟩ : ByteArray) = d := by simp
  generalize hT : d.data.toList = t at *
  generalize hbit : bitN h0 = n3
  have hn3 : ¬ 1 < n3 := by rw [← hbit]; cases h0 <;> decide
  have hb0 : (n3 == 1) = h0 := by rw [← hbit]; cases h0 <;> rfl
  have e0 : packB n1 n2 h0 t = numB n1 ++ (numB n2 ++ (numB n3 ++ textB t)) := by simp only [packB, hbit, List.append_assoc]
  rw [e0]
  simp only [readZ, getZ_of]
  have g1 : getB ((pre ++ (numB n1 ++ (numB n2 ++ (numB n3 ++ textB t)) ++ post)).drop pre.length) = some (n1, (numB n1).length) := by
    rw [List.drop_left, List.append_assoc]; exact getB_num _ _ (by omega)
  rw [g1]
  simp only [readA, Int.toNat_natCast]
  have s1 : pre ++ (numB n1 ++ (numB n2 ++ (numB n3 ++ textB t)) ++ post) = (pre ++ numB n1) ++ (numB n2 ++ (numB n3 ++ (textB t ++ post))) := by simp only [List.append_assoc]
  have g2 : getB ((pre ++ (numB n1 ++ (numB n2 ++ (numB n3 ++ textB t)) ++ post)).drop (pre.length + (numB n1).length)) = some (n2, (numB n2).length) := by
    rw [s1, ← List.length_append, List.drop_left]; exact getB_num _ _ (by omega)
  rw [g2]
  simp only [readB]
  have s2 : pre ++ (numB n1 ++ (numB n2 ++ (numB n3 ++ textB t)) ++ post) = (pre ++ numB n1 ++ numB n2) ++ (numB n3 ++ (textB t ++ post)) := by simp only [List.append_assoc]
  have g3 : getB ((pre ++ (numB n1 ++ (numB n2 ++ (numB n3 ++ textB t)) ++ post)).drop (pre.length + (numB n1).length + (numB n2).length)) = some (n3, (numB n3).length) := by
    rw [s2, ← List.length_append, ← List.length_append, List.drop_left]; exact getB_num _ _ (by omega)
  rw [g3]
  simp only [if_neg hn3, readC]
  have s3 : pre ++ (numB n1 ++ (numB n2 ++ (numB n3 ++ textB t)) ++ post) = (pre ++ numB n1 ++ numB n2 ++ numB n3) ++ (textB t ++ post) := by simp only [List.append_assoc]
  have g4 : gtextB (pre ++ (numB n1 ++ (numB n2 ++ (numB n3 ++ textB t)) ++ post)) (pre.length + (numB n1).length + (numB n2).length + (numB n3).length) = some (t, pre.length + (numB n1).length + (numB n2).length + (numB n3).length + (textB t).length) := by
    have := gtextB_app (pre ++ numB n1 ++ numB n2 ++ numB n3) t post (by omega)
    rw [← s3] at this
    simpa only [List.length_append] using this
  rw [g4]
  have ee : entOf n1 n2 n3 t = ⟨n1, n2, h0, d⟩ := by simp only [entOf, hb0, hback]
  simp only [ee, entOk_yes he, if_true, List.length_append, Option.some.injEq, Prod.mk.injEq, true_and]
  omega
end Go.Proofs.YthndkkjgjhgdnaaDoor
