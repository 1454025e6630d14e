/- Records as bytes: eras that spec's cursor reads, and a register of them (pure). -/
import Derived.Test.YtioocibgfhgkhaaGreatDoorHp1
import Derived.Test.YtioocibgfhgkhaaGreatDoorOpenR
import Derived.Test.YtioocibgfhgkhaaGreatDoorRgC
namespace Go.Proofs.YtioocibgfhgkhaaGreatDoor
open Go.ChangeShapes Go.WideShapes Go.ChangeAt Go.RowKit
set_option linter.unusedVariables false
set_option linter.unusedSimpArgs false

theorem rdN_bd {bs : List UInt8} {q : Nat} (ok : Bool) (hq : q ≤ bs.length) : 0 ≤ (rdN bs q ok).1 ∧ (rdN bs q ok).1 ≤ 9223372036854775807 := by
  cases ok
  · rw [rdN_off]; exact ⟨by simp, by simp⟩
  · exact (rdN_step hq).1
theorem rdN_go {bs : List UInt8} {q : Nat} (ok : Bool) (hq : q ≤ bs.length) : q ≤ (rdN bs q ok).2.1 ∧ (rdN bs q ok).2.1 ≤ bs.length ∧ ((rdN bs q ok).2.2 = true → q + 1 ≤ (rdN bs q ok).2.1) := by
  cases ok
  · exact ⟨Nat.le_refl _, hq, fun h => by cases h⟩
  · exact (rdN_step hq).2
theorem rdN_was {bs : List UInt8} {q : Nat} {ok : Bool} (h : (rdN bs q ok).2.2 = true) : ok = true := by
  cases ok
  · cases h
  · rfl
theorem rdK_was {bs : List UInt8} {n q : Nat} {ok : Bool} (h : (rdK bs n q ok).2.2 = true) : ok = true := by
  cases ok
  · rw [rdK_off] at h; cases h
  · rfl
theorem rdK_go (bs : List UInt8) (n q : Nat) (ok : Bool) (hq : q ≤ bs.length) : q ≤ (rdK bs n q ok).2.1 ∧ ((rdK bs n q ok).2.2 = true → (rdK bs n q ok).1.length + q ≤ (rdK bs n q ok).2.1) ∧ ∀ x ∈ (rdK bs n q ok).1, 0 ≤ x ∧ x ≤ 9223372036854775807 := by
  induction n generalizing q ok with
  | zero => exact ⟨Nat.le_refl _, fun _ => by simp [rdK], fun x hx => by simp [rdK] at hx⟩
  | succ n ih =>
    cases ok
    · exact ⟨Nat.le_refl _, (fun h => by cases h), fun x hx => by simp [rdK] at hx⟩
    · rw [rdK_succ]
      have hs := rdN_step hq
      obtain ⟨i1, i2, i3⟩ := ih (rdN bs q true).2.1 (rdN bs q true).2.2 hs.2.2.1
      refine ⟨Nat.le_trans hs.2.1 i1, fun h => ?_, fun x hx => ?_⟩
      · have h1 := hs.2.2.2 (rdK_was h)
        have h2 := i2 h
        simp only [List.length_cons]
        omega
      · simp only [List.mem_cons] at hx
        rcases hx with rfl | hx
        · exact hs.1
        · exact i3 x hx
theorem rdL_go (bs : List UInt8) (q : Nat) (ok : Bool) (hq : q ≤ bs.length) : q ≤ (rdL bs q ok).2.1 ∧ (rdL bs q ok).2.1 ≤ bs.length ∧ ((rdL bs q ok).2.2 = true → (rdL bs q ok).1.length + 1 + q ≤ (rdL bs q ok).2.1) ∧ ∀ x ∈ (rdL bs q ok).1, 0 ≤ x ∧ x ≤ 9223372036854775807 := by
  have h1 := rdN_go ok hq
  obtain ⟨i1, i2, i3⟩ := rdK_go bs (rdN bs q ok).1.toNat (rdN bs q ok).2.1 (rdN bs q ok).2.2 h1.2.1
  refine ⟨Nat.le_trans h1.1 i1, rdL_le bs q ok hq, fun h => ?_, i3⟩
  have h2 := h1.2.2 (rdK_was h)
  have h3 := i2 h
  unfold rdL
  omega
theorem rdL_was {bs : List UInt8} {q : Nat} {ok : Bool} (h : (rdL bs q ok).2.2 = true) : ok = true := rdN_was (rdK_was h)
/-- An era that is read by the cursor, and where it is then. -/
def rdEr (bs : List UInt8) (q : Nat) (ok : Bool) : Er × Nat × Bool :=
  (⟨(rdL bs q ok).1, (rdN bs (rdL bs q ok).2.1 (rdL bs q ok).2.2).1 == 1, (rdN bs (rdN bs (rdL bs q ok).2.1 (rdL bs q ok).2.2).2.1 (rdN bs (rdL bs q ok).2.1 (rdL bs q ok).2.2).2.2).1⟩,
    (rdN bs (rdN bs (rdL bs q ok).2.1 (rdL bs q ok).2.2).2.1 (rdN bs (rdL bs q ok).2.1 (rdL bs q ok).2.2).2.2).2.1,
    (rdN bs (rdN bs (rdL bs q ok).2.1 (rdL bs q ok).2.2).2.1 (rdN bs (rdL bs q ok).2.1 (rdL bs q ok).2.2).2.2).2.2 && decide ((rdN bs (rdL bs q ok).2.1 (rdL bs q ok).2.2).1 ≤ 1))
def rdErs (bs : List UInt8) : Nat → Nat → Bool → List Er × Nat × Bool
  | 0, q, ok => ([], q, ok)
  | n + 1, q, false => ([], q, false)
  | n + 1, q, true => ((rdEr bs q true).1 :: (rdErs bs n (rdEr bs q true).2.1 (rdEr bs q true).2.2).1, (rdErs bs n (rdEr bs q true).2.1 (rdEr bs q true).2.2).2)
theorem rdErs_off (bs : List UInt8) (n q : Nat) : rdErs bs n q false = ([], q, false) := by cases n <;> rfl
theorem rdErs_zero (bs : List UInt8) (q : Nat) (ok : Bool) : rdErs bs 0 q ok = ([], q, ok) := rfl
theorem rdErs_succ (bs : List UInt8) (n q : Nat) : rdErs bs (n + 1) q true = ((rdEr bs q true).1 :: (rdErs bs n (rdEr bs q true).2.1 (rdEr bs q true).2.2).1, (rdErs bs n (rdEr bs q true).2.1 (rdEr bs q true).2.2).2) := rfl
theorem rdErs_was {bs : List UInt8} {n q : Nat} {ok : Bool} (h : (rdErs bs n q ok).2.2 = true) : ok = true := by
  cases ok
  · rw [rdErs_off] at h; cases h
  · rfl
theorem rdEr_go (bs : List UInt8) (q : Nat) (ok : Bool) (hq : q ≤ bs.length) : q ≤ (rdEr bs q ok).2.1 ∧ (rdEr bs q ok).2.1 ≤ bs.length ∧ ((rdEr bs q ok).2.2 = true → (rdEr bs q ok).1.nodes.length + 1 + q ≤ (rdEr bs q ok).2.1) ∧ fitEr (rdEr bs q ok).1 := by
  obtain ⟨a1, a2, a3, a4⟩ := rdL_go bs q ok hq
  obtain ⟨b1, b2, b3⟩ := rdN_go (rdL bs q ok).2.2 a2
  obtain ⟨c1, c2, c3⟩ := rdN_go (rdN bs (rdL bs q ok).2.1 (rdL bs q ok).2.2).2.2 b2
  have d := rdN_bd (rdN bs (rdL bs q ok).2.1 (rdL bs q ok).2.2).2.2 b2
  refine ⟨by unfold rdEr; simp only; omega, by unfold rdEr; simp only; omega, fun h => ?_, ?_⟩
  · unfold rdEr at h ⊢
    simp only [Bool.and_eq_true] at h ⊢
    have h2 := rdN_was h.1
    have h3 := a3 (rdN_was h2)
    omega
  · unfold rdEr
    exact ⟨fun x hx => by have := a4 x hx; omega, by simp only; omega⟩
theorem rdErs_go (bs : List UInt8) (n q : Nat) (ok : Bool) (hq : q ≤ bs.length) : (rdErs bs n q ok).2.1 ≤ bs.length ∧ q ≤ (rdErs bs n q ok).2.1 ∧ ((rdErs bs n q ok).2.2 = true → (rdErs bs n q ok).1.length + sumN (rdErs bs n q ok).1 + q ≤ (rdErs bs n q ok).2.1) ∧ ∀ e ∈ (rdErs bs n q ok).1, fitEr e := by
  induction n generalizing q ok with
  | zero => exact ⟨hq, Nat.le_refl _, fun _ => by simp [rdErs, sumN], fun e he => by simp [rdErs] at he⟩
  | succ n ih =>
    cases ok
    · exact ⟨hq, Nat.le_refl _, (fun h => by cases h), fun e he => by simp [rdErs] at he⟩
    · rw [rdErs_succ]
      obtain ⟨a1, a2, a3, a4⟩ := rdEr_go bs q true hq
      obtain ⟨i0, i1, i2, i3⟩ := ih (rdEr bs q true).2.1 (rdEr bs q true).2.2 a2
      refine ⟨i0, Nat.le_trans a1 i1, fun h => ?_, fun e he => ?_⟩
      · have h1 := a3 (rdErs_was h)
        have h2 := i2 h
        have h4 : sumN ((rdEr bs q true).1 :: (rdErs bs n (rdEr bs q true).2.1 (rdEr bs q true).2.2).1) = (rdEr bs q true).1.nodes.length + sumN (rdErs bs n (rdEr bs q true).2.1 (rdEr bs q true).2.2).1 := by simp [sumN]
        rw [h4, List.length_cons]
        simp only at h2 ⊢
        omega
      · simp only [List.mem_cons] at he
        rcases he with rfl | he
        · exact a4
        · exact i3 e he
/-- What is read of a register, where that ends, and whether all was right. -/
def rgRa (bs : List UInt8) : Int × Nat × Bool := rdN bs 0 true
def rgRc (bs : List UInt8) : Int × Nat × Bool := rdN bs (rgRa bs).2.1 (rgRa bs).2.2
def rgRd (bs : List UInt8) : List Er × Nat × Bool := rdErs bs (rgRc bs).1.toNat (rgRc bs).2.1 (rgRc bs).2.2
def rgRm (bs : List UInt8) : Rg := ⟨(rgRd bs).1, (rgRa bs).1⟩
open Classical in
/-- RegRead. -/
noncomputable def rgR (ds : List Int) (cop : Int) (bs : List UInt8) : Rg × Bool := if endB bs (rgRd bs).2.1 (rgRd bs).2.2 = true ∧ regP ds cop (rgRm bs) then (rgRm bs, true) else (⟨[], 0⟩, false)
theorem rgR_yes (ds : List Int) (cop : Int) (bs : List UInt8) (h : endB bs (rgRd bs).2.1 (rgRd bs).2.2 = true ∧ regP ds cop (rgRm bs)) : rgR ds cop bs = (rgRm bs, true) := if_pos h
theorem rgR_no (ds : List Int) (cop : Int) (bs : List UInt8) (h : ¬ (endB bs (rgRd bs).2.1 (rgRd bs).2.2 = true ∧ regP ds cop (rgRm bs))) : rgR ds cop bs = (⟨[], 0⟩, false) := if_neg h
theorem rgRa_le (bs : List UInt8) : (rgRa bs).2.1 ≤ bs.length := (rdN_go true (Nat.zero_le _)).2.1
theorem rgRc_le (bs : List UInt8) : (rgRc bs).2.1 ≤ bs.length := (rdN_go _ (rgRa_le bs)).2.1
theorem rgRd_le (bs : List UInt8) : (rgRd bs).2.1 ≤ bs.length := (rdErs_go bs _ _ _ (rgRc_le bs)).1
theorem rgRm_ok (bs : List UInt8) : okRegister (rgRm bs) := ⟨(rdErs_go bs _ _ _ (rgRc_le bs)).2.2.2, by
  have := rdN_bd (bs := bs) true (Nat.zero_le bs.length)
  exact ⟨by unfold rgRm rgRa; simp only; omega, by unfold rgRm rgRa; simp only; omega⟩⟩
theorem rgRm_siz (bs : List UInt8) (h : (rgRd bs).2.2 = true) : sizRegister (rgRm bs) ≤ bs.length := by
  have h1 := (rdErs_go bs (rgRc bs).1.toNat (rgRc bs).2.1 (rgRc bs).2.2 (rgRc_le bs)).2.2.1 h
  have h2 := rgRd_le bs
  unfold rgRd at h2
  unfold sizRegister sizEraS rgRm rgRd
  simp only
  omega
end Go.Proofs.YtioocibgfhgkhaaGreatDoor
