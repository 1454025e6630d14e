/- Stores as bytes: what is packed is read as it was, and what is read packs to its bytes. -/
import Derived.Test.YtognmmmplmideaaStM
import Derived.Test.YtognmmmplmideaaStO
namespace Go.Proofs.Ytognmmmplmideaa
open Go.ChangeShapes Go.WideShapes Go.ChangeAt Go.RowKit

theorem readK_pack (pre : List UInt8) (es : List Ent) (h : ∀ e ∈ es, entP e) : ∀ k, k ≤ es.length → readK (pre ++ es.flatMap packE) pre.length k = some (es.take k, pre.length + ((es.take k).flatMap packE).length) := by
  intro k
  induction k with
  | zero => intro _; simp [readK]
  | succ k ih =>
    intro hk
    unfold readK
    rw [ih (by omega)]
    simp only
    have hs : es = es.take k ++ (es[k] :: es.drop (k + 1)) := by simp
    have hb : pre ++ es.flatMap packE = (pre ++ (es.take k).flatMap packE) ++ (packE es[k] ++ (es.drop (k + 1)).flatMap packE) := by
      conv => lhs; rw [hs]
      rw [List.flatMap_append, List.flatMap_cons]
      simp only [List.append_assoc]
    have hz := readZ_pack es[k] (h _ (List.getElem_mem _)) (pre ++ (es.take k).flatMap packE) ((es.drop (k + 1)).flatMap packE)
    have hz' : readZ ((pre ++ (es.take k).flatMap packE) ++ (packE es[k] ++ (es.drop (k + 1)).flatMap packE)) ((pre ++ (es.take k).flatMap packE).length : Int) = some (es[k], (pre ++ (es.take k).flatMap packE).length + (packE es[k]).length) := hz
    rw [hb, ← List.length_append, hz']
    simp only
    rw [flat_take es k (by omega), List.take_succ_eq_append_getElem (by omega)]
    simp only [List.length_append, Nat.add_assoc]
/-- What is packed is read as it was. -/
theorem read_pack {s : St} (h : packP s) : readM (packS s) = (s, true) := by
  obtain ⟨kept, late, lock⟩ := s
  obtain ⟨hs, hl⟩ := h
  simp only at hl
  subst hl
  have hs' := hs
  obtain ⟨⟨kl, kE⟩, -, -, s0, s30⟩ := hs'
  simp only at kl kE s0 s30
  obtain ⟨n, rfl⟩ := Int.eq_ofNat_of_zero_le s0
  have e0 : packS ⟨kept, [], (n : Int)⟩ = numB n ++ (numB kept.length ++ kept.flatMap packE) := by simp [packS, List.append_assoc]
  have e1 : packS ⟨kept, [], (n : Int)⟩ = (numB n ++ numB kept.length) ++ kept.flatMap packE := by simp [packS]
  have g1 : getZ (packS ⟨kept, [], (n : Int)⟩) 0 = some (n, (numB n).length) := by
    have := getZ_of (packS ⟨kept, [], (n : Int)⟩) 0
    rw [List.drop_zero] at this
    rw [show (0 : Int) = ((0 : Nat) : Int) from rfl, this, e0]
    exact getB_num _ _ (by omega)
  have g2 : getZ (packS ⟨kept, [], (n : Int)⟩) ((numB n).length : Int) = some (kept.length, (numB kept.length).length) := by
    rw [getZ_of, e0, List.drop_left]
    exact getB_num _ _ (by omega)
  have g3 : readK (packS ⟨kept, [], (n : Int)⟩) ((numB n).length + (numB kept.length).length) kept.length = some (kept, (packS ⟨kept, [], (n : Int)⟩).length) := by
    have := readK_pack (numB n ++ numB kept.length) kept kE kept.length (Nat.le_refl _)
    rw [List.take_length, List.length_append] at this
    rw [e1, this]
    simp only [List.length_append]
  unfold readM
  rw [g1]
  simp only
  rw [g2]
  simp only
  rw [g3]
  unfold readE
  simp only
  rw [if_pos ⟨rfl, hs⟩]
theorem readK_bytes {bs : List UInt8} {p : Nat} : ∀ {k : Nat} {es : List Ent} {q : Nat}, readK bs p k = some (es, q) → ∃ r, bs.drop p = es.flatMap packE ++ r ∧ q = p + (es.flatMap packE).length
  | 0, es, q, h => by
    simp only [readK, Option.some.injEq, Prod.mk.injEq] at h
    obtain ⟨rfl, rfl⟩ := h
    exact ⟨bs.drop p, by simp, by simp⟩
  | k + 1, es, q, h => by
    unfold readK at h
    split at h
    · cases h
    · rename_i es0 q0 h0
      obtain ⟨r0, h1, h2⟩ := readK_bytes h0
      split at h
      · cases h
      · rename_i e q' hz
        cases h
        obtain ⟨-, -, r, z3, z4⟩ := readZ_inv hz
        simp only [Int.toNat_natCast] at z3 z4
        have hr : bs.drop q0 = r0 := by rw [h2, ← List.drop_drop, h1, List.drop_left]
        rw [hr] at z3
        refine ⟨r, ?_, ?_⟩
        · rw [h1, z3, List.flatMap_append]
          simp [packE]
        · rw [z4, h2, List.flatMap_append]
          simp [packE]
          omega
/-- What is read packs to its bytes. -/
theorem pack_read {bs : List UInt8} {m : St} (h : readM bs = (m, true)) : packP m ∧ packS m = bs := by
  unfold readM at h
  split at h
  · cases h
  · rename_i a k1 hg1
    split at h
    · cases h
    · rename_i n k2 hg2
      unfold readE at h
      split at h
      · cases h
      · rename_i es q hk
        split at h
        · rename_i hc
          cases h
          obtain ⟨hq, hs⟩ := hc
          have a1 : getB (bs.drop 0) = some (a, k1) := by rw [← getZ_of]; exact hg1
          rw [List.drop_zero] at a1
          rw [getZ_of] at hg2
          obtain ⟨r1, b1, c1⟩ := getB_inv a1
          obtain ⟨r2, b2, c2⟩ := getB_inv hg2
          obtain ⟨r3, b3, c3⟩ := readK_bytes hk
          have hd := readK_inv (bs := bs) (p := k1 + k2) (by have := getZ_end (bs := bs) (x := k1) (n := n) (k := k2) (by rw [getZ_of]; exact hg2); exact this) hk
          have d1 : bs.drop k1 = r1 := by rw [b1, c1, List.drop_left]
          have d2 : bs.drop (k1 + k2) = r2 := by rw [← List.drop_drop, b2, c2, List.drop_left]
          have d3 : r3 = [] := by
            have := congrArg List.length b3
            rw [List.length_drop, List.length_append] at this
            exact List.eq_nil_of_length_eq_zero (by omega)
          refine ⟨⟨hs, rfl⟩, ?_⟩
          have : packS ⟨es, [], (a : Int)⟩ = numB a ++ (numB es.length ++ es.flatMap packE) := by simp [packS, List.append_assoc]
          rw [this, hd.1]
          conv => rhs; rw [b1, ← d1, b2, ← d2, b3, d3, List.append_nil]
        · cases h
theorem read_bad {bs : List UInt8} {m : St} (h : readM bs = (m, false)) : m = zeroSt := by
  unfold readM at h
  split at h
  · cases h; rfl
  · split at h
    · cases h; rfl
    · unfold readE at h
      split at h
      · cases h; rfl
      · split at h
        · cases h
        · cases h; rfl
theorem packS_len {s : St} (h : stP s) : (packS s).length ≤ 15300 ∧ 0 < (packS s).length := by
  have l1 := numB_len s.lock.toNat
  have l2 := numB_len s.kept.length
  have l3 := numB_pos s.lock.toNat
  have l4 := flat_len s.kept s.kept.length h.1.2 (Nat.le_refl _)
  have l5 := h.1.1
  rw [List.take_length] at l4
  unfold packS
  simp only [List.length_append]
  omega
end Go.Proofs.Ytognmmmplmideaa
