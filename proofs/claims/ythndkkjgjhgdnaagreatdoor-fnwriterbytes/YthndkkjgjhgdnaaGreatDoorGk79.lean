/- Several texts in one: EntE, PkD, PkE, EvS. -/
import Derived.Test.YthndkkjgjhgdnaaGreatDoorGk60
import Derived.Test.YthndkkjgjhgdnaaGreatDoorGaC
import Derived.Test.YthndkkjgjhgdnaaGreatDoorGk83
import Derived.Test.YthndkkjgjhgdnaaGreatDoorGk56
import Derived.Test.YthndkkjgjhgdnaaGreatDoorGaA
import Derived.Deep.RegionHeld3
namespace Go.Proofs.YthndkkjgjhgdnaaGreatDoor

theorem getF_inv (n k u x : Nat) (l : List UInt8) {y m : Nat} (h : getF n k u x l = some (y, m)) : ∃ d r, l = numF n d ++ r ∧ y = x + d * u ∧ m = k + (numF n d).length ∧ (0 < k → 0 < d) ∧ d < 128 ^ n := by
  induction n generalizing k u x l with
  | zero => simp [getF] at h
  | succ n ih =>
    cases l with
    | nil => simp [getF] at h
    | cons c r =>
      have hc256 : c.toNat < 256 := c.toNat_lt
      simp only [getF] at h
      by_cases hc : c.toNat < 128
      · rw [if_pos hc] at h
        by_cases hz : c.toNat = 0 ∧ 0 < k
        · rw [if_pos hz] at h; cases h
        · rw [if_neg hz] at h
          cases h
          refine ⟨c.toNat, r, ?_, by rw [Nat.mod_eq_of_lt hc], by rw [numF_small hc]; rfl, by omega, ?_⟩
          · rw [numF_small hc]; simp
          · have h1 : 0 < 128 ^ n := Nat.pow_pos (by omega)
            rw [Nat.pow_succ]
            omega
      · rw [if_neg hc] at h
        obtain ⟨d, r', h1, h2, h3, h4, h5⟩ := ih (k + 1) (u * 128) (x + c.toNat % 128 * u) r h
        have hd := h4 (by omega)
        have hbig : ¬ (c.toNat % 128 + 128 * d < 128) := by omega
        have e1 : (c.toNat % 128 + 128 * d) % 128 = c.toNat % 128 := by omega
        have e2 : (c.toNat % 128 + 128 * d) / 128 = d := by omega
        have e3 : UInt8.ofNat (c.toNat % 128 + 128) = c := by
          have : c.toNat % 128 + 128 = c.toNat := by omega
          rw [this]; simp
        refine ⟨c.toNat % 128 + 128 * d, r', ?_, ?_, ?_, by omega, ?_⟩
        · rw [numF_big hbig, e1, e2, e3, List.cons_append, ← h1]
        · rw [h2, Nat.add_mul, Nat.add_assoc, Nat.mul_comm u 128, ← Nat.mul_assoc, Nat.mul_comm d 128]
        · rw [h3, numF_big hbig, e2, List.length_cons]; omega
        · rw [Nat.pow_succ]; omega
theorem getB_inv {l : List UInt8} {y m : Nat} (h : getB l = some (y, m)) : ∃ r, l = numB y ++ r ∧ m = (numB y).length := by
  obtain ⟨d, r, h1, h2, h3, -, -⟩ := getF_inv 9 0 1 0 l h
  have e : y = d := by omega
  subst e
  exact ⟨r, h1, by rw [h3, Nat.zero_add]; rfl⟩
theorem gtextB_inv {l t : List UInt8} {p q : Nat} (h : gtextB l p = some (t, q)) : ∃ r, l.drop p = textB t ++ r ∧ q = p + (textB t).length := by
  simp only [gtextB] at h
  split at h
  · cases h
  · rename_i n k hg
    obtain ⟨r, h1, h2⟩ := getB_inv hg
    split at h
    · rename_i hn
      cases h
      have hd : l.drop (p + k) = r := by rw [← List.drop_drop, h1, h2]; simp
      have hlen : r.length = l.length - (p + k) := by rw [← hd, List.length_drop]
      have ht : ((l.drop (p + k)).take n).length = n := by rw [hd, List.length_take]; omega
      refine ⟨r.drop n, ?_, ?_⟩
      · rw [h1, textB, ht, hd, List.append_assoc, List.take_append_drop]
      · rw [textB, ht, List.length_append, ht, ← h2]; omega
    · cases h
theorem bitN_of {n3 : Nat} (h : ¬ 1 < n3) : bitN (n3 == 1) = n3 := by
  obtain rfl | rfl : n3 = 0 ∨ n3 = 1 := by omega
  · rfl
  · rfl
/-- What is read is packed as it was. -/
theorem readZ_inv {bs : List UInt8} {x : Int} {e : Ent} {q : Nat} (h : readZ bs x = some (e, q)) :
    0 ≤ x ∧ entP e ∧ ∃ r, bs.drop x.toNat = packB e.pl.toNat e.wave.toNat e.hole e.data.data.toList ++ r ∧ q = x.toNat + (packB e.pl.toNat e.wave.toNat e.hole e.data.data.toList).length := by
  simp only [readZ] at h
  split at h
  · cases h
  · rename_i n1 k1 hg1
    have hx : 0 ≤ x ∧ getB (bs.drop x.toNat) = some (n1, k1) := by
      rw [getZ] at hg1
      split at hg1
      · cases hg1
      · exact ⟨by omega, hg1⟩
    obtain ⟨r1, a1, b1⟩ := getB_inv hx.2
    simp only [readA] at h
    split at h
    · cases h
    · rename_i n2 k2 hg2
      obtain ⟨r2, a2, b2⟩ := getB_inv hg2
      simp only [readB] at h
      split at h
      · cases h
      · rename_i n3 k3 hg3
        obtain ⟨r3, a3, b3⟩ := getB_inv hg3
        split at h
        · cases h
        · rename_i h3
          simp only [readC] at h
          split at h
          · cases h
          · rename_i t q' hg4
            obtain ⟨r4, a4, b4⟩ := gtextB_inv hg4
            by_cases he : entP (entOf n1 n2 n3 t)
            · rw [entOk_yes he, if_pos rfl] at h
              cases h
              have d1 : bs.drop (x.toNat + k1) = r1 := by rw [← List.drop_drop, a1, b1]; simp
              have d2 : bs.drop (x.toNat + k1 + k2) = r2 := by rw [← List.drop_drop, a2, b2]; simp
              have d3 : bs.drop (x.toNat + k1 + k2 + k3) = r3 := by rw [← List.drop_drop, a3, b3]; simp
              refine ⟨hx.1, he, r4, ?_, ?_⟩
              · show _ = packB (n1 : Int).toNat (n2 : Int).toNat (n3 == 1) t.toArray.toList ++ r4
                rw [packB, Int.toNat_natCast, Int.toNat_natCast, bitN_of h3, a1, ← d1, a2, ← d2, a3, ← d3, a4]
                simp only [List.append_assoc]
              · show _ = _ + (packB (n1 : Int).toNat (n2 : Int).toNat (n3 == 1) t.toArray.toList).length
                rw [packB, Int.toNat_natCast, Int.toNat_natCast, bitN_of h3, b4]
                simp only [List.length_append, ← b1, ← b2, ← b3]
                omega
            · rw [entOk_no he] at h; cases h
theorem gtextB_app (pre t post : List UInt8) (ht : t.length ≤ 9223372036854775807) : gtextB (pre ++ (textB t ++ post)) pre.length = some (t, pre.length + (textB t).length) := by
  have hd : (pre ++ (textB t ++ post)).drop pre.length = textB t ++ post := List.drop_left
  have hg : getB ((pre ++ (textB t ++ post)).drop pre.length) = some (t.length, (numB t.length).length) := by
    rw [hd, textB, List.append_assoc]
    exact getB_num _ _ ht
  simp only [gtextB, hg]
  have hle : t.length + (pre.length + (numB t.length).length) ≤ (pre ++ (textB t ++ post)).length := by simp only [textB, List.length_append]; omega
  rw [if_pos hle]
  have h2 : (pre ++ (textB t ++ post)).drop (pre.length + (numB t.length).length) = t ++ post := by
    rw [← List.drop_drop, hd, textB, List.append_assoc, List.drop_left]
  rw [h2, List.take_left]
  simp only [textB, List.length_append, Option.some.injEq, Prod.mk.injEq, true_and]
  omega
/-- What is packed is read as itself. -/
theorem readZ_pack (e : Ent) (h : entP e) (pre post : List UInt8) :
    readZ (pre ++ (packB e.pl.toNat e.wave.toNat e.hole e.data.data.toList ++ post)) (pre.length : Int) = some (e, pre.length + (packB e.pl.toNat e.wave.toNat e.hole e.data.data.toList).length) := by
  obtain ⟨x, v, h0, d⟩ := e
  have he := h
  obtain ⟨hp, v0, v1, hv, hd, hh⟩ := h
  simp only at hp v0 v1 hv hd hh ⊢
  obtain ⟨p0, p1, p2, p3, p4⟩ := hp
  obtain ⟨n1, rfl⟩ := Int.eq_ofNat_of_zero_le (show 0 ≤ x by omega)
  obtain ⟨n2, rfl⟩ := Int.eq_ofNat_of_zero_le v0
  simp only [Int.toNat_natCast]
  have hds : d.data.toList.length = d.size := by rw [← Lib.size_eq]
  have hback : (⟨d.data.toList.toArray⟩ : ByteArray) = d := by simp
  generalize hT : d.data.toList = t at *
  generalize hbit : bitN h0 = n3
  have hn3 : ¬ 1 < n3 := by rw [← hbit]; cases h0 <;> decide
  have hb0 : (n3 == 1) = h0 := by rw [← hbit]; cases h0 <;> rfl
  have e0 : packB n1 n2 h0 t = numB n1 ++ (numB n2 ++ (numB n3 ++ textB t)) := by simp only [packB, hbit, List.append_assoc]
  rw [e0]
  simp only [readZ, getZ_of]
  have g1 : getB ((pre ++ (numB n1 ++ (numB n2 ++ (numB n3 ++ textB t)) ++ post)).drop pre.length) = some (n1, (numB n1).length) := by
    rw [List.drop_left, List.append_assoc]; exact getB_num _ _ (by omega)
  rw [g1]
  simp only [readA, Int.toNat_natCast]
  have s1 : pre ++ (numB n1 ++ (numB n2 ++ (numB n3 ++ textB t)) ++ post) = (pre ++ numB n1) ++ (numB n2 ++ (numB n3 ++ (textB t ++ post))) := by simp only [List.append_assoc]
  have g2 : getB ((pre ++ (numB n1 ++ (numB n2 ++ (numB n3 ++ textB t)) ++ post)).drop (pre.length + (numB n1).length)) = some (n2, (numB n2).length) := by
    rw [s1, ← List.length_append, List.drop_left]; exact getB_num _ _ (by omega)
  rw [g2]
  simp only [readB]
  have s2 : pre ++ (numB n1 ++ (numB n2 ++ (numB n3 ++ textB t)) ++ post) = (pre ++ numB n1 ++ numB n2) ++ (numB n3 ++ (textB t ++ post)) := by simp only [List.append_assoc]
  have g3 : getB ((pre ++ (numB n1 ++ (numB n2 ++ (numB n3 ++ textB t)) ++ post)).drop (pre.length + (numB n1).length + (numB n2).length)) = some (n3, (numB n3).length) := by
    rw [s2, ← List.length_append, ← List.length_append, List.drop_left]; exact getB_num _ _ (by omega)
  rw [g3]
  simp only [if_neg hn3, readC]
  have s3 : pre ++ (numB n1 ++ (numB n2 ++ (numB n3 ++ textB t)) ++ post) = (pre ++ numB n1 ++ numB n2 ++ numB n3) ++ (textB t ++ post) := by simp only [List.append_assoc]
  have g4 : gtextB (pre ++ (numB n1 ++ (numB n2 ++ (numB n3 ++ textB t)) ++ post)) (pre.length + (numB n1).length + (numB n2).length + (numB n3).length) = some (t, pre.length + (numB n1).length + (numB n2).length + (numB n3).length + (textB t).length) := by
    have := gtextB_app (pre ++ numB n1 ++ numB n2 ++ numB n3) t post (by omega)
    rw [← s3] at this
    simpa only [List.length_append] using this
  rw [g4]
  have ee : entOf n1 n2 n3 t = ⟨n1, n2, h0, d⟩ := by simp only [entOf, hb0, hback]
  simp only [ee, entOk_yes he, if_true, List.length_append, Option.some.injEq, Prod.mk.injEq, true_and]
  omega
end Go.Proofs.YthndkkjgjhgdnaaGreatDoor
namespace Go.Proofs.YthndkkjgjhgdnaaGreatDoor
open Go.ChangeShapes Go.WideShapes Go.ChangeAt Go.RowKit
set_option linter.unusedVariables false
set_option linter.unusedSimpArgs false
set_option maxRecDepth 100000

theorem getZ_step {bs : List UInt8} {q x k : Nat} (h : getZ bs (q : Int) = some (x, k)) : x ≤ 9223372036854775807 ∧ 1 ≤ k ∧ q + k ≤ bs.length := by
  have hb := getZ_bd h
  rw [getZ_of] at h
  obtain ⟨r, h1, h2⟩ := getB_inv h
  have h3 := numB_pos x
  have h4 := congrArg List.length h1
  rw [List.length_drop, List.length_append] at h4
  omega
theorem rdN_step {bs : List UInt8} {q : Nat} (hq : q ≤ bs.length) : (0 ≤ (rdN bs q true).1 ∧ (rdN bs q true).1 ≤ 9223372036854775807) ∧ q ≤ (rdN bs q true).2.1 ∧ (rdN bs q true).2.1 ≤ bs.length ∧ ((rdN bs q true).2.2 = true → q + 1 ≤ (rdN bs q true).2.1) := by
  cases hz : getZ bs (q : Int) with
  | none =>
    rw [rdN_none true hz]
    exact ⟨⟨by simp, by simp⟩, by simp, by simpa using hq, fun h => by cases h⟩
  | some r =>
    obtain ⟨x, k⟩ := r
    rw [rdN_some hz]
    have := getZ_step hz
    simp only
    omega
/-- So many numbers are read, as long as all is right. -/
def rdK (bs : List UInt8) : Nat → Nat → Bool → List Int × Nat × Bool
  | 0, q, ok => ([], q, ok)
  | n + 1, q, false => ([], q, false)
  | n + 1, q, true => ((rdN bs q true).1 :: (rdK bs n (rdN bs q true).2.1 (rdN bs q true).2.2).1, (rdK bs n (rdN bs q true).2.1 (rdN bs q true).2.2).2)
theorem rdK_off (bs : List UInt8) (n q : Nat) : rdK bs n q false = ([], q, false) := by cases n <;> rfl
theorem rdK_zero (bs : List UInt8) (q : Nat) (ok : Bool) : rdK bs 0 q ok = ([], q, ok) := rfl
theorem rdK_succ (bs : List UInt8) (n q : Nat) : rdK bs (n + 1) q true = ((rdN bs q true).1 :: (rdK bs n (rdN bs q true).2.1 (rdN bs q true).2.2).1, (rdK bs n (rdN bs q true).2.1 (rdN bs q true).2.2).2) := rfl
/-- A list of numbers is read. -/
def rdL (bs : List UInt8) (q : Nat) (ok : Bool) : List Int × Nat × Bool := rdK bs (rdN bs q ok).1.toNat (rdN bs q ok).2.1 (rdN bs q ok).2.2
theorem own_drawn17 {bk B n : Nat} {w w' : World} {v : Value} {l : List Value} (h : w.ownsRow B 3 1 v n l) (hd : Drawn bk w w') (hb : bk < B) : w'.ownsRow B 3 1 v n l := h.kept hd.row (by
  by_cases e : v.ownBlock = none
  · exact .inl e
  · exact .inr fun e2 => by have := (h.lt bk e2).1; omega)
set_option maxHeartbeats 8000000 in
theorem specNums17_any (B cb : Nat) (v : Value) (bs : List UInt8) (q : Nat) (ok : Bool) (w : World) (hc : Cu w B cb v q ok) (hv : Bs w v bs) (hl : bs.length ≤ 1048576) (hq : q ≤ bs.length) (hne : bs = [] ∨ blockOf v ≠ cb) :
    Calls Tryz.prog 32 #[.pointer (some ⟨cb, 0, none⟩)] w fun e w' => (∃ u, e = .returned u ∧ OwnN w' w.heap.size u (rdL bs q ok).1) ∧ Cu w' B cb v (rdL bs q ok).2.1 (rdL bs q ok).2.2 ∧ Drawn cb w w' := by
  have hcb := hc.lt
  have HV := dHide fun W (hd : Drawn cb w W) => hv.drawn hd hne
  have CN := dHide fun q ok W (hd : Drawn cb w W) (hc : Cu W B cb v q ok) => specNum17_any B cb v bs q ok W hc (dUnhide HV W hd) hl
  have C1 := dHide (dUnhide CN q ok w (Drawn.refl _ _) hc)
  have EL : Hid (rdL bs q ok = rdK bs (rdN bs q ok).1.toNat (rdN bs q ok).2.1 (rdN bs q ok).2.2) := rfl
  have HS : Hid ((0 ≤ (rdN bs q ok).1 ∧ (rdN bs q ok).1 ≤ 9223372036854775807) ∧ (rdN bs q ok).2.1 ≤ bs.length) := by
    cases ok
    · rw [rdN_off]; exact ⟨⟨by simp, by simp⟩, hq⟩
    · have := rdN_step hq; exact ⟨this.1, this.2.2.1⟩
  generalize rdN bs q ok = R at *
  generalize rdL bs q ok = L at *
  obtain ⟨nI, q1, ok1⟩ := R
  obtain ⟨⟨hn0, hn1⟩, hq1⟩ := dUnhide HS
  simp only at hn0 hn1 hq1 C1 EL
  obtain ⟨n, rfl⟩ := Int.eq_ofNat_of_zero_le hn0
  rw [Int.toNat_natCast] at EL
  clear hv hc HS hn0 hq
  go_enter Tryz.func32, Tryz.ntmps32
  go_wp2_with fail
  refine (dUnhide C1).mono ?_
  rintro e w1 ⟨rfl, hc1, hd1⟩
  have hs1 := hd1.size
  have hoz : (w1.alloc (.cells #[] 3)).ownsRow w1.heap.size 3 1 (.slice (some ⟨w1.heap.size, 0, none⟩) 0 0) 0 (ncells []) := by
    have := World.ownsRow_made (e := 3) (size := 1) (base := w1.heap.size) w1 #[] 0 (Nat.le_refl _) (by decide) (by simp)
    simpa [ncells] using this
  have ba : Below w1.heap.size w1 (w1.alloc (.cells #[] 3)) := (Below.refl _ _).alloc (Nat.le_refl _) _
  have HC2 := dHide (BxZ.below hc1 ba)
  have HD2 := dHide (hd1.trans (Drawn.of_below ba))
  have hb1 : cb < w1.heap.size := by omega
  have hn12 : w1.heap.size ≤ (w1.alloc (.cells #[] 3)).heap.size := by simp
  clear hc1 hd1 ba C1
  go_wp2
  generalize w1.alloc (.cells #[] 3) = w2 at *
  generalize w1.heap.size = n1 at *
  go_loopw [4, 5] (fun ov xv wr => ∃ (k : Nat) (xs : List Int) (p : Nat) (okb : Bool), xv = .int .i64 (k : Int) ∧ xs.length = k ∧ k ≤ n ∧ k ≤ bs.length + 1 ∧ (okb = true → k ≤ p) ∧ p ≤ bs.length ∧ Hid (rdK bs n q1 ok1 = (xs ++ (rdK bs (n - k) p okb).1, (rdK bs (n - k) p okb).2)) ∧ wr.ownsRow n1 3 1 ov xs.length (ncells xs) ∧ Hid (Cu wr B cb v p okb) ∧ Hid (Drawn cb w wr) ∧ n1 ≤ wr.heap.size) (fun _ xv _ => bs.length + 2 - (intOf xv).toNat)
  case atStart => exact ⟨0, [], q1, ok1, rfl, rfl, Nat.zero_le _, Nat.zero_le _, fun _ => Nat.zero_le _, hq1, by simp [Hid], hoz, HC2, HD2, hn12⟩
  case round =>
    clear HC2 HD2 hoz
    obtain ⟨k, xs, p, okb, rfl, hxl, hkn, hkb, hkp, hp, HK, hown, HC, HD, hsz⟩ := hrel
    have p2 := ((dUnhide HC).2 2 _ rfl).1
    have hcz : cb < wr.heap.size := by omega
    have GO : Hid (rdK bs (n - k) p okb = ([], p, okb) → (∃ u, Ending.returned u4 = .returned u ∧ OwnN wr w.heap.size u L.1) ∧ Cu wr B cb v L.2.1 L.2.2 ∧ Drawn cb w wr) := by
      intro e
      have e2 : L = (xs, p, okb) := by
        have := (dUnhide EL).trans (dUnhide HK)
        rw [e] at this
        simpa using this
      rw [e2]
      exact ⟨⟨_, rfl, (ownN_of_row hown).mono hs1⟩, dUnhide HC, dUnhide HD⟩
    by_cases hlt : (k : Int) < (n : Int)
    · cases okb
      · have G := dHide (dUnhide GO (rdK_off bs _ p))
        clear GO HK HC HD CN HV
        go_wp2
        go_ret
        exact dUnhide G
      · have hkp2 : k ≤ p := hkp rfl
        have C2 := dHide (dUnhide CN p true wr (dUnhide HD) (dUnhide HC))
        have HS : Hid ((0 ≤ (rdN bs p true).1 ∧ (rdN bs p true).1 ≤ 9223372036854775807) ∧ p ≤ (rdN bs p true).2.1 ∧ (rdN bs p true).2.1 ≤ bs.length ∧ ((rdN bs p true).2.2 = true → p + 1 ≤ (rdN bs p true).2.1)) := rdN_step hp
        obtain ⟨j, hj⟩ : ∃ j, n - k = j + 1 := ⟨n - k - 1, by omega⟩
        have hj2 : n - (k + 1) = j := by omega
        have HK2 : Hid (rdK bs n q1 ok1 = (xs ++ [(rdN bs p true).1] ++ (rdK bs j (rdN bs p true).2.1 (rdN bs p true).2.2).1, (rdK bs j (rdN bs p true).2.1 (rdN bs p true).2.2).2)) := by
          have := dUnhide HK
          rw [hj, rdK_succ] at this
          rw [Hid, this]
          simp
        generalize rdN bs p true = R at *
        obtain ⟨y, p', ok'⟩ := R
        obtain ⟨hy, hpp, hpl, hpk⟩ := dUnhide HS
        simp only at hy hpp hpl hpk HK2 C2
        have HO := dHide hown
        clear GO HK HS CN HV HC hown
        go_wp2_with fail
        refine (dUnhide C2).mono ?_
        rintro e w3 ⟨rfl, hc3, hd3⟩
        have ho3 := own_drawn17 (dUnhide HO) hd3 hb1
        clear C2 HO p2
        have hlt' := ho3.lt
        have HC3 := dHide hc3
        have HD3 := dHide ((dUnhide HD).trans hd3)
        have hs3 := hd3.size
        have ba3 : ∀ o, Below w3.heap.size w3 (w3.alloc o) := fun o => (Below.refl _ _).alloc (Nat.le_refl _) o
        clear hc3 hd3 HD
        go_wp2_with (at_builtin; refine appN _ rfl _ _ rfl n1 _ xs rfl (ho3.alloc _) ⟨w3.heap.size, 0, none⟩ 1 1 [y] rfl rfl (one_int _ _ _) ?c3 ?c4 ?_)
        case c3 => simp; omega
        case c4 => simp; omega
        intro v' w4 hown' hgrow
        have hs4 : n1 ≤ w4.heap.size := by have := hgrow.size; simp at this; omega
        have HC4 := dHide (BxZ.grown (BxZ.below (dUnhide HC3) (ba3 (.cells #[.int .i64 y] 3))) hgrow (fun e => by have := (hlt' _ e).1; omega))
        have HD4 := dHide (((dUnhide HD3).trans (Drawn.of_below (ba3 (.cells #[.int .i64 y] 3)))).grown hgrow (fun k hk => by have := (hlt' k hk).1; omega))
        have hown4 := own_lenN hown'
        clear ho3 hown' hgrow hlt' HC3 HD3
        go_wp2
        go_roundw
        case rel => exact ⟨k + 1, xs ++ [y], p', ok', by go_num, by simp; omega, by omega, by omega, fun h => by have := hpk h; omega, hpl, by rw [hj2]; exact dUnhide HK2, hown4, HC4, HD4, hs4⟩
        case measure => simp [intOf]; omega
    · have e0 : n - k = 0 := by omega
      have G := dHide (dUnhide GO (by rw [e0]; exact rdK_zero bs p okb))
      clear GO HK HC HD CN HV p2
      go_wp2
      go_ret
      exact dUnhide G
end Go.Proofs.YthndkkjgjhgdnaaGreatDoor
namespace Go.Proofs.YthndkkjgjhgdnaaGreatDoor
open Go.ChangeShapes Go.WideShapes Go.ChangeAt Go.RowKit
set_option linter.unusedVariables false
set_option linter.unusedSimpArgs false
set_option maxRecDepth 100000

/-- A text that is read by the cursor, and where it is then. -/
def rdT (bs : List UInt8) (q : Nat) (ok : Bool) : List UInt8 × Nat × Bool := if ok then (match gtextZ bs (q : Int) with | some (x, p) => (x, p, true) | none => ([], q, false)) else ([], q, false)
theorem rdT_off (bs : List UInt8) (q : Nat) : rdT bs q false = ([], q, false) := rfl
theorem rdT_none {bs : List UInt8} {q : Nat} (ok : Bool) (h : gtextZ bs (q : Int) = none) : rdT bs q ok = ([], q, false) := by
  cases ok
  · rfl
  · simp [rdT, h]
theorem rdT_some {bs : List UInt8} {q p : Nat} {x : List UInt8} (h : gtextZ bs (q : Int) = some (x, p)) : rdT bs q true = (x, p, true) := by simp [rdT, h]
set_option maxHeartbeats 4000000 in
theorem specText17_any (B cb : Nat) (v : Value) (bs : List UInt8) (q : Nat) (ok : Bool) (w : World) (hc : Cu w B cb v q ok) (hv : Bs w v bs) (hl : bs.length ≤ 1048576) :
    Calls Tryz.prog 43 #[.pointer (some ⟨cb, 0, none⟩)] w fun e w' => e = .returned (.string ⟨(rdT bs q ok).1.toArray⟩) ∧ Cu w' B cb v (rdT bs q ok).2.1 (rdT bs q ok).2.2 ∧ Drawn cb w w' := by
  have CG := dHide fun W (hb : Below w.heap.size w W) => specGetText_same v bs (q : Int) W (hv.below hb) (by omega)
  obtain ⟨-, a, cap, rfl, -⟩ := hv
  have HC := dHide fun W (hb : Below w.heap.size w W) => BxZ.below hc hb
  cases hz : gtextZ bs (q : Int) with
  | none =>
    have HR : Hid (rdT bs q ok = ([], q, false)) := rdT_none ok hz
    have CN := dHide fun W (hb : Below w.heap.size w W) => (dUnhide CG W hb).mono fun e w' h => (⟨by rw [h.1, hz]; rfl, h.2⟩ : e = .returned (.tuple #[.string ⟨#[]⟩, .int .i64 0, .bool false]) ∧ w' = W)
    rw [dUnhide HR]
    clear hz
    obtain ⟨b0, -⟩ := hc.2 0 _ rfl
    obtain ⟨b1, -⟩ := hc.2 1 _ rfl
    clear HR CG
    go_enter Tryz.func43, Tryz.ntmps43
    go_wp2_with fail
    go_quiet ((go_at_call 79; exact Calls.quiet_of_same (dUnhide CN _ (below_drewN (Below.refl _ _) _))))
    have Xd := dUnhide HC (w.drewN nq) (below_drewN (Below.refl _ _) nq)
    have Dd := (Drawn.refl cb w).drewN nq
    obtain ⟨d0, -⟩ := Xd.2 0 _ rfl
    obtain ⟨d1, g1⟩ := Xd.2 1 _ rfl
    obtain ⟨d2, g2⟩ := Xd.2 2 _ rfl
    generalize w.drewN nq = wd at *
    have F := dHide (And.intro (Xd.put 2 (.bool false)) (Dd.setCell 2 (.bool false)))
    clear Xd Dd CN HC hc
    go_wp2
    go_ret
    exact ⟨rfl, (dUnhide F).1, (dUnhide F).2⟩
  | some r =>
    obtain ⟨x, p⟩ := r
    have CN := dHide fun W (hb : Below w.heap.size w W) => (dUnhide CG W hb).mono fun e w' h => (⟨by rw [h.1, hz]; simp [gtextT], h.2⟩ : e = .returned (.tuple #[.string ⟨x.toArray⟩, .int .i64 (p : Int), .bool true]) ∧ w' = W)
    cases ok
    case false =>
      have HR : Hid (rdT bs q false = ([], q, false)) := rdT_off bs q
      rw [dUnhide HR]
      clear hz
      obtain ⟨b0, -⟩ := hc.2 0 _ rfl
      obtain ⟨b1, -⟩ := hc.2 1 _ rfl
      clear HR CG
      go_enter Tryz.func43, Tryz.ntmps43
      go_wp2_with fail
      go_quiet ((go_at_call 79; exact Calls.quiet_of_same (dUnhide CN _ (below_drewN (Below.refl _ _) _))))
      have Xd := dUnhide HC (w.drewN nq) (below_drewN (Below.refl _ _) nq)
      have Dd := (Drawn.refl cb w).drewN nq
      obtain ⟨d0, -⟩ := Xd.2 0 _ rfl
      obtain ⟨d1, g1⟩ := Xd.2 1 _ rfl
      obtain ⟨d2, g2⟩ := Xd.2 2 _ rfl
      generalize w.drewN nq = wd at *
      have F := dHide (And.intro (Xd.put 2 (.bool false)) (Dd.setCell 2 (.bool false)))
      clear Xd Dd CN HC hc
      go_wp2
      go_ret
      exact ⟨rfl, (dUnhide F).1, (dUnhide F).2⟩
    case true =>
      have HR : Hid (rdT bs q true = (x, p, true)) := rdT_some hz
      rw [dUnhide HR]
      clear hz
      obtain ⟨b0, -⟩ := hc.2 0 _ rfl
      obtain ⟨b1, -⟩ := hc.2 1 _ rfl
      clear HR CG
      go_enter Tryz.func43, Tryz.ntmps43
      go_wp2_with fail
      go_quiet ((go_at_call 79; exact Calls.quiet_of_same (dUnhide CN _ (below_drewN (Below.refl _ _) _))))
      have Xd := dUnhide HC (w.drewN nq) (below_drewN (Below.refl _ _) nq)
      have Dd := (Drawn.refl cb w).drewN nq
      obtain ⟨d0, -⟩ := Xd.2 0 _ rfl
      obtain ⟨d1, g1⟩ := Xd.2 1 _ rfl
      obtain ⟨d2, g2⟩ := Xd.2 2 _ rfl
      generalize w.drewN nq = wd at *
      have F := dHide (And.intro (Xd.put 1 (.int .i64 (p : Int))) (Dd.setCell 1 (.int .i64 (p : Int))))
      clear Xd Dd CN HC hc
      go_wp2
      go_ret
      exact ⟨rfl, (dUnhide F).1, (dUnhide F).2⟩
/-- All was read, and nothing was wrong. -/
def endB (bs : List UInt8) (q : Nat) (ok : Bool) : Bool := ok && decide (q = bs.length)
set_option maxHeartbeats 4000000 in
theorem specEnd17_any (B cb : Nat) (v : Value) (bs : List UInt8) (q : Nat) (ok : Bool) (w w0 : World) (hc : Cu w B cb v q ok) (hv : Bs w0 v bs) :
    Calls Tryz.prog 33 #[.pointer (some ⟨cb, 0, none⟩)] w fun e w' => e = .returned (.bool (endB bs q ok)) ∧ Below w.heap.size w w' := by
  obtain ⟨-, a, cap, rfl, -⟩ := hv
  obtain ⟨b0, -⟩ := hc.2 0 _ rfl
  obtain ⟨b1, -⟩ := hc.2 1 _ rfl
  obtain ⟨b2, -⟩ := hc.2 2 _ rfl
  clear hc
  have E : Hid (endB bs q ok = (ok && decide (q = bs.length))) := rfl
  rw [dUnhide E]
  clear E
  cases ok
  · go_enter Tryz.func33, Tryz.ntmps33
    go_wp2_with fail
    go_quiet (fail)
    go_wp2
    go_ret
    exact ⟨rfl, below_drewN (Below.refl _ _) nq⟩
  · have hq : (q : Int) = (bs.length : Int) ∨ (q : Int) ≠ (bs.length : Int) := by omega
    rcases hq with hq | hq
    · have e : Hid (decide (q = bs.length) = true) := by simp [Hid]; omega
      rw [dUnhide e]
      clear e
      go_enter Tryz.func33, Tryz.ntmps33
      go_wp2_with fail
      go_quiet (fail)
      go_wp2
      go_ret
      exact ⟨by simp [hq], below_drewN (Below.refl _ _) nq⟩
    · have e : Hid (decide (q = bs.length) = false) := by simp [Hid]; omega
      rw [dUnhide e]
      clear e
      go_enter Tryz.func33, Tryz.ntmps33
      go_wp2_with fail
      go_quiet (fail)
      go_wp2
      go_ret
      exact ⟨by simp [hq], below_drewN (Below.refl _ _) nq⟩
end Go.Proofs.YthndkkjgjhgdnaaGreatDoor
namespace Go.Proofs.YthndkkjgjhgdnaaGreatDoor
open Go.ChangeShapes Go.WideShapes Go.ChangeAt Go.RowKit
set_option linter.unusedVariables false
set_option linter.unusedSimpArgs false
set_option maxRecDepth 100000

/-- One of them. -/
structure Ev where
  kind : Int
  pl : Int
  data : ByteArray
def Ev.cl (e : Ev) : List Value := [.int .i64 e.kind, .int .i64 e.pl, .string e.data]
def Ev.val (e : Ev) : Value := .agg #[.int .i64 e.kind, .int .i64 e.pl, .string e.data]
theorem Ev.cl_len (e : Ev) : e.cl.length = 3 := rfl
def zeroEv : Ev := ⟨0, 0, ⟨#[]⟩⟩
/-- The cells of one of a slice. -/
def EvAt (w : World) (b o : Nat) (e : Ev) : Prop := w.cell? ⟨b, o, none⟩ = some (.int .i64 e.kind) ∧ w.cell? ⟨b, o + 1, none⟩ = some (.int .i64 e.pl) ∧ w.cell? ⟨b, o + 2, none⟩ = some (.string e.data)
theorem EvAt.below {w w' : World} {b o : Nat} {e : Ev} (h : EvAt w b o e) (hb : Below w.heap.size w w') : EvAt w' b o e := by
  obtain ⟨h0, h1, h2⟩ := h
  exact ⟨(hb.cell (p := ⟨b, o, none⟩) (dCell_lt h0)).trans h0, (hb.cell (p := ⟨b, o + 1, none⟩) (dCell_lt h1)).trans h1, (hb.cell (p := ⟨b, o + 2, none⟩) (dCell_lt h2)).trans h2⟩
theorem Rw.atEv {w : World} {a : Option Addr} {n cap : Nat} {es : List Ev} (h : Rw 3 Ev.cl w (.slice a n cap) es) {k : Nat} (hk : k < es.length) : ∃ b off, a = some ⟨b, off, none⟩ ∧ ∀ i (hi : i < es.length), EvAt w b (off + i * 3) es[i] := by
  obtain ⟨b, off, e, hc⟩ := h.elG hk
  exact ⟨b, off, e, fun i hi => ⟨hc i hi 0 _ rfl, hc i hi 1 _ rfl, hc i hi 2 _ rfl⟩⟩
/-- The bytes of the texts. -/
def sumEv (es : List Ev) : Nat := (es.map fun e => e.data.size).sum
theorem sumEv_take (es : List Ev) (k : Nat) (h : k < es.length) : sumEv (es.take (k + 1)) = sumEv (es.take k) + es[k].data.size := by
  unfold sumEv
  rw [List.take_succ_eq_append_getElem h, List.map_append, List.sum_append, List.map_cons, List.map_nil, List.sum_cons, List.sum_nil, Nat.add_zero]
theorem sumEv_le (es : List Ev) (k : Nat) : sumEv (es.take k) ≤ sumEv es := by
  unfold sumEv
  conv => rhs; rw [← List.take_append_drop k es, List.map_append, List.sum_append]
  exact Nat.le_add_right _ _
/-- Texts that are no longer than an int. -/
def txtEv (es : List Ev) : Prop := ∀ e ∈ es, e.data.size ≤ 9223372036854775807
def RdEventS (v : Value) (m : List Ev) (W : World) : Prop := Rw 3 Ev.cl W v m
def OwEventS (lo hi : Nat) (v : Value) (m : List Ev) (W : World) : Prop := OwG 3 Ev.cl lo hi v m W
def sizEventS (m : List Ev) : Nat := m.length + sumEv m
def cntEventS (m : List Ev) : Nat := 3 * m.length
def mkEv (k : Nat) : Ev := ⟨((k + 0 : Nat) : Int), ((k + 1 : Nat) : Int), markT (k + 2)⟩
def mkEventS (k : Nat) (m : List Ev) : List Ev := (List.range m.length).map fun i => mkEv (k + 3 * i)
theorem mkEventS_len (k : Nat) (m : List Ev) : (mkEventS k m).length = m.length := by simp [mkEventS]
theorem mkEventS_at (k : Nat) (m : List Ev) (i : Nat) (h : i < (mkEventS k m).length) : (mkEventS k m)[i] = mkEv (k + 3 * i) := by simp [mkEventS]
theorem OwEventS.rd {lo hi : Nat} {v : Value} {m : List Ev} {W : World} (h : OwEventS lo hi v m W) : RdEventS v m W := OwnRw.rw h.1
theorem RdEventS.below {v : Value} {m : List Ev} {W W' : World} (h : RdEventS v m W) (b : Below W.heap.size W W') : RdEventS v m W' := Rw.below h b
theorem formEventS {v : Value} {m : List Ev} {W : World} (h : RdEventS v m W) : ∃ a cap, v = .slice a m.length cap ∧ m.length ≤ 9223372036854775807 := by
  obtain ⟨h0, a, cap, rfl, -, -⟩ := h
  exact ⟨a, cap, rfl, h0⟩
theorem sitsEventS {w : World} {base : Nat} {v : Value} {m : List Ev} (h : OwnRw 3 Ev.cl w base v m) : Sits (OwEventS base w.heap.size v m) base w.heap.size w := OwG.sits ⟨h, h.ltZ Ev.cl_len (by decide)⟩ (Nat.le_refl _)
theorem cntEventS_le {m : List Ev} (h : sizEventS m ≤ 1048576) : cntEventS m ≤ 3145728 := by unfold sizEventS at h; unfold cntEventS; omega
theorem zallEv {w : World} {b off n k : Nat} {f : Nat → Ev} (h : RwZ 3 Ev.cl w b off n f) (hk : k < n) (e : Ev) :
    RwZ 3 Ev.cl (((w.setCell ⟨b, off + k * 3, none⟩ (.int .i64 e.kind)).setCell ⟨b, off + k * 3 + 1, none⟩ (.int .i64 e.pl)).setCell ⟨b, off + k * 3 + 2, none⟩ (.string e.data)) b off n (putZ f k e) := by
  have h1 := h.cell Ev.cl_len hk 0 (by decide) (.int .i64 e.kind) ⟨e.kind, (f k).pl, (f k).data⟩ (by rfl)
  have h2 := h1.cell Ev.cl_len hk 1 (by decide) (.int .i64 e.pl) ⟨e.kind, e.pl, (f k).data⟩ (by simp only [putZ_same]; rfl)
  rw [putZ_twice] at h2
  have h3 := h2.cell Ev.cl_len hk 2 (by decide) (.string e.data) ⟨e.kind, e.pl, e.data⟩ (by simp only [putZ_same]; rfl)
  rw [putZ_twice] at h3
  exact h3
theorem Wr.setEv {lo hi b o : Nat} {w wr : World} (h : Wr lo hi w wr) (h1 : lo ≤ b) (h2 : b < hi) (u : Value) : Wr lo hi w (wr.setCell ⟨b, o, none⟩ u) :=
  h.trans ⟨rfl, rfl, rfl, by simp, fun k hk hn => Below.heap_setCell _ _ _ k (fun e => by simp at e; omega)⟩
theorem mkEv_at (K : Nat) : mkEv K = ⟨(K : Int), (K : Int) + 1, markT (K + 2)⟩ := by
  unfold mkEv
  have e0 : ((K + 0 : Nat) : Int) = (K : Int) := by omega
  have e1 : ((K + 1 : Nat) : Int) = (K : Int) + 1 := by omega
  rw [e0, e1]
end Go.Proofs.YthndkkjgjhgdnaaGreatDoor
