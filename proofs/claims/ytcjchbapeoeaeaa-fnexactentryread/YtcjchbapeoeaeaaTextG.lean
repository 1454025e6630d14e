/- The contract of spec's GetText: it answers as the plain function gtextB at every argument, and writes nothing. -/
import Derived.Test.YtcjchbapeoeaeaaTextS
namespace Go.Proofs.Ytcjchbapeoeaeaa
open Go.ChangeShapes Go.WideShapes Go.ChangeAt Go.RowKit
set_option linter.unusedVariables false

/-- The text that stands at a place, and the place behind it. -/
def gtextB (l : List UInt8) (at0 : Nat) : Option (List UInt8 × Nat) := match getB (l.drop at0) with
  | none => none
  | some (n, k) => if n + (at0 + k) ≤ l.length then some ((l.drop (at0 + k)).take n, at0 + k + n) else none
/-- GetText's answer, as a value. -/
def gtextT (o : Option (List UInt8 × Nat)) : Value := match o with
  | none => .tuple #[.string ⟨#[]⟩, .int .i64 0, .bool false]
  | some (t, p) => .tuple #[.string ⟨t.toArray⟩, .int .i64 (p : Int), .bool true]
theorem getF_bd (n k u x : Nat) (l : List UInt8) {y m : Nat} (h : getF n k u x l = some (y, m)) (hu : u = 128 ^ k) (hk : k + n ≤ 9) (hx : x < 128 ^ k) : y ≤ 9223372036854775807 ∧ m ≤ k + l.length ∧ m ≤ 9 := by
  induction n generalizing k u x l with
  | zero => simp [getF] at h
  | succ n ih =>
    cases l with
    | nil => simp [getF] at h
    | cons d r =>
      subst hu
      have hs := pow_step k x d.toNat hx
      have h9 := pow_le9 (show k ≤ 8 by omega)
      simp only [getF] at h
      by_cases h1 : d.toNat < 128
      · rw [if_pos h1] at h
        by_cases h2 : d.toNat = 0 ∧ 0 < k
        · rw [if_pos h2] at h; cases h
        · rw [if_neg h2] at h
          simp only [Option.some.injEq, Prod.mk.injEq] at h
          obtain ⟨rfl, rfl⟩ := h
          refine ⟨by omega, by simp, by omega⟩
      · rw [if_neg h1] at h
        have := ih (k + 1) (128 ^ k * 128) _ r h (by rw [Nat.pow_succ]) (by omega) hs
        simp; omega
theorem getB_bd {l : List UInt8} {y m : Nat} (h : getB l = some (y, m)) : y ≤ 9223372036854775807 ∧ m ≤ l.length ∧ m ≤ 9 := by
  have := getF_bd 9 0 1 0 l h rfl (by omega) (by simp)
  simpa using this
theorem take_cells {w : World} {b off p n : Nat} {bs : List UInt8} (hc : ∀ i (h : i < bs.length), w.cell? ⟨b, off + i, none⟩ = some (.int .u8 (bs[i].toNat : Int))) (h : p + n ≤ bs.length) :
    ∀ j (hj : j < ((bs.drop p).take n).length), w.cell? ((⟨b, off + p, none⟩ : Addr).add j) = some (.int .u8 (((bs.drop p).take n)[j].toNat : Int)) := by
  intro j hj
  have hl : ((bs.drop p).take n).length = n := by simp; omega
  have e : (⟨b, off + p, none⟩ : Addr).add j = ⟨b, off + (p + j), none⟩ := by unfold Addr.add; split <;> simp_all <;> omega
  rw [e, hc (p + j) (by omega)]
  simp
theorem conv_cut {w : World} {b off p n cap : Nat} {bs : List UInt8} (hc : ∀ i (h : i < bs.length), w.cell? ⟨b, off + i, none⟩ = some (.int .u8 (bs[i].toNat : Int))) (h : p + n ≤ bs.length) :
    (convert 22 9 (.slice (some ⟨b, off + p, none⟩) n cap)).run Try.prog w = .ok (.string ⟨((bs.drop p).take n).toArray⟩) w := by
  have hl : ((bs.drop p).take n).length = n := by simp; omega
  have := run_convert_bytes_back (P := Try.prog) w 22 9 5 ⟨b, off + p, none⟩ cap ((bs.drop p).take n) Try.underlying22 Try.underlying5 Try.underlying9 (take_cells hc h)
  rwa [hl] at this
theorem conv_none {w : World} (b off : Nat) (cap : Nat) : (convert 22 9 (.slice (some ⟨b, off, none⟩) 0 cap)).run Try.prog w = .ok (.string ⟨#[]⟩) w := by
  have := run_convert_bytes_back (P := Try.prog) w 22 9 5 ⟨b, off, none⟩ cap [] Try.underlying22 Try.underlying5 Try.underlying9 (fun j hj => by simp at hj)
  exact this
set_option maxHeartbeats 1000000 in
theorem specGetText_out (v : Value) (bs : List UInt8) (x : Int) (w : World) (hv : Bs w v bs) (hx : x < 0 ∨ (bs.length : Int) ≤ x) :
    Calls Try.prog 44 #[v, .int .i64 x] w fun e w' => e = .returned (gtextT none) ∧ w = w' := by
  have C := dHide (specGet_out v bs x w hv hx)
  obtain ⟨h0, a, cap, rfl, hcap, hv⟩ := hv
  clear hv
  go_enter Try.func44, Try.ntmps44
  go_wp2_with fail
  refine (dUnhide C).mono ?_
  rintro e w1 ⟨rfl, rfl⟩
  go_wp2
  go_ret3
  exact ⟨rfl, rfl⟩
set_option maxHeartbeats 1000000 in
theorem specGetText_in (v : Value) (bs : List UInt8) (at0 : Nat) (w : World) (hv : Bs w v bs) (hx : at0 < bs.length) (hl : bs.length ≤ 9223372036854775000) :
    Calls Try.prog 44 #[v, .int .i64 (at0 : Int)] w fun e w' => e = .returned (gtextT (gtextB bs at0)) ∧ w = w' := by
  have C := dHide (specGet_in v bs at0 w hv hx hl)
  obtain ⟨h0, a, cap, rfl, hcap, hv⟩ := hv
  obtain ⟨b, off, rfl, hc⟩ := or_of_lt hv hx
  clear hv
  cases hg : getB (bs.drop at0) with
  | none =>
    have hfin : gtextB bs at0 = none := by simp only [gtextB, hg]
    have HF := dHide hfin
    rw [hg] at C
    clear hc hfin hg
    go_enter Try.func44, Try.ntmps44
    go_wp2_with fail
    refine (dUnhide C).mono ?_
    rintro e w1 ⟨rfl, rfl⟩
    simp only [getT]
    go_wp2
    go_ret3
    exact ⟨by rw [dUnhide HF]; rfl, rfl⟩
  | some r =>
    obtain ⟨n, k⟩ := r
    obtain ⟨b1, b2, b3⟩ := getB_bd hg
    rw [List.length_drop] at b2
    rw [hg] at C
    have hple : at0 + k ≤ bs.length := by omega
    by_cases hn : n + (at0 + k) ≤ bs.length
    · have hfin : gtextB bs at0 = some ((bs.drop (at0 + k)).take n, at0 + k + n) := by simp only [gtextB, hg]; rw [if_pos hn]
      have HF := dHide hfin
      have hcv := fun cap' => conv_cut (cap := cap') hc (show (at0 + k) + n ≤ bs.length by omega)
      have hcv0 := conv_none (w := w) b off
      generalize hp : at0 + k = p at *
      have HP := dHide hp
      clear hc hfin hg hp
      have t1 : ¬ ((bs.length : Int) - (p : Int) < (n : Int)) := by omega
      go_enter Try.func44, Try.ntmps44
      go_wp2_with fail
      refine (dUnhide C).mono ?_
      rintro e w1 ⟨rfl, rfl⟩
      simp only [getT]
      rw [dUnhide HP]
      by_cases hcp : cap = p
      · obtain rfl : n = 0 := by omega
        go_wp2
        all_goals
          go_ret3
          exact ⟨by rw [dUnhide HF]; simp only [gtextT, List.take_zero]; go_num, rfl⟩
      · go_wp2
        go_ret3
        exact ⟨by rw [dUnhide HF]; simp only [gtextT]; go_num, rfl⟩
    · have hfin : gtextB bs at0 = none := by simp only [gtextB, hg]; rw [if_neg hn]
      have HF := dHide hfin
      generalize hp : at0 + k = p at *
      have HP := dHide hp
      clear hc hfin hg hp
      have t1 : ((bs.length : Int) - (p : Int) < (n : Int)) := by omega
      go_enter Try.func44, Try.ntmps44
      go_wp2_with fail
      refine (dUnhide C).mono ?_
      rintro e w1 ⟨rfl, rfl⟩
      simp only [getT]
      rw [dUnhide HP]
      go_wp2
      go_ret3
      exact ⟨by rw [dUnhide HF]; rfl, rfl⟩
end Go.Proofs.Ytcjchbapeoeaeaa
