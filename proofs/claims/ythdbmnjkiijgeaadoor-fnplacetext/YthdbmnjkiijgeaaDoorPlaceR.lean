/- Contracts of spec's l1Read and PlaceRead: PlaceRead answers a place just for the text of a place. -/
import Derived.Test.YthdbmnjkiijgeaaDoorPlaceT
namespace Go.Proofs.YthdbmnjkiijgeaaDoor
open Go.ChangeShapes Go.WideShapes Go.ChangeAt Go.RowKit
set_option linter.unusedVariables false

def dig (c : UInt8) : Bool := decide (48 ≤ c.toNat ∧ c.toNat ≤ 57)
/-- The digits at the head, at most n of them. -/
def scan : Nat → List UInt8 → List UInt8
  | 0, _ => []
  | _, [] => []
  | n + 1, c :: r => if dig c then c :: scan n r else []
def digVal (x : Nat) (l : List UInt8) : Nat := l.foldl (fun x c => 10 * x + (c.toNat - 48)) x
/-- What l1Read answers: the number, or -1; the place behind. -/
def rdVal (l : List UInt8) (at0 : Nat) : Int := if (scan 11 (l.drop at0)).length = 0 ∨ 10 < (scan 11 (l.drop at0)).length then -1 else (digVal 0 (scan 11 (l.drop at0)) : Int)
def rdAt (l : List UInt8) (at0 : Nat) : Nat := at0 + (scan 11 (l.drop at0)).length
theorem scan_nil (n : Nat) (l : List UInt8) (h : l = [] ∨ n = 0 ∨ ∃ c r, l = c :: r ∧ dig c = false) : scan n l = [] := by
  rcases h with rfl | rfl | ⟨c, r, rfl, hc⟩
  · cases n <;> rfl
  · cases l <;> rfl
  · cases n
    · rfl
    · simp [scan, hc]
theorem scan_len (n : Nat) (l : List UInt8) : (scan n l).length ≤ n := by
  induction n generalizing l with
  | zero => cases l <;> simp [scan]
  | succ n ih =>
    cases l with
    | nil => simp [scan]
    | cons c r =>
      simp only [scan]
      split
      · have := ih r; simp; omega
      · simp
/-- Where l1Read stands: behind p - at0 digits, with the number X. -/
def RdInv (l : List UInt8) (at0 p X : Nat) : Prop :=
  X < 10 ^ (p - at0) ∧ p - at0 + (scan (11 - (p - at0)) (l.drop p)).length = (scan 11 (l.drop at0)).length ∧ digVal X (scan (11 - (p - at0)) (l.drop p)) = digVal 0 (scan 11 (l.drop at0))
theorem RdInv.start (l : List UInt8) (at0 : Nat) : RdInv l at0 at0 0 := by unfold RdInv; simp
theorem RdInv.step {l : List UInt8} {at0 p X : Nat} (h : RdInv l at0 p X) (h0 : at0 ≤ p) (h1 : p < l.length) (h2 : 48 ≤ l[p].toNat) (h3 : l[p].toNat ≤ 57) (h4 : p - at0 < 11) :
    RdInv l at0 (p + 1) (10 * X + (l[p].toNat - 48)) := by
  obtain ⟨a, b, c⟩ := h
  rw [List.drop_eq_getElem_cons h1] at b c
  have e : 11 - (p - at0) = (11 - (p + 1 - at0)) + 1 := by omega
  have hd : dig l[p] = true := by simp [dig]; omega
  rw [e] at b c
  simp only [scan, hd, if_true, List.length_cons] at b c
  refine ⟨?_, by omega, c⟩
  rw [show p + 1 - at0 = (p - at0) + 1 by omega, Nat.pow_succ]
  omega
theorem RdInv.done {l : List UInt8} {at0 p X : Nat} (h : RdInv l at0 p X) (hx : l.length ≤ p ∨ 11 ≤ p - at0 ∨ ∃ h : p < l.length, l[p].toNat < 48 ∨ 57 < l[p].toNat) :
    (scan 11 (l.drop at0)).length = p - at0 ∧ digVal 0 (scan 11 (l.drop at0)) = X := by
  obtain ⟨a, b, c⟩ := h
  have : scan (11 - (p - at0)) (l.drop p) = [] := by
    apply scan_nil
    rcases hx with h | h | ⟨h, hh⟩
    · exact .inl (List.drop_eq_nil_of_le h)
    · exact .inr (.inl (by omega))
    · exact .inr (.inr ⟨_, _, List.drop_eq_getElem_cons h, by simp [dig]; omega⟩)
  rw [this] at b c
  exact ⟨by simpa using b.symm, c.symm⟩
theorem RdInv.small {l : List UInt8} {at0 p X : Nat} (h : RdInv l at0 p X) (hp : p ≤ at0 + 11) : X ≤ 99999999999 := by
  have := Nat.lt_of_lt_of_le h.1 (Nat.pow_le_pow_right (n := 10) (by omega) (show p - at0 ≤ 11 by omega))
  omega
theorem byteL (s : ByteArray) (p : Nat) (h : p < s.size) : ∃ h' : p < s.data.toList.length, s.data.toList[p] = s[p] := by
  have h' : p < s.data.toList.length := by rw [← Lib.size_eq]; exact h
  exact ⟨h', by simp; rfl⟩
/-- What l1Read answers where it stops. -/
theorem rd_end {l : List UInt8} {at0 p X : Nat} (h0 : at0 ≤ p) (e : (scan 11 (l.drop at0)).length = p - at0 ∧ digVal 0 (scan 11 (l.drop at0)) = X) :
    rdAt l at0 = p ∧ rdVal l at0 = if p = at0 ∨ 10 < p - at0 then -1 else (X : Int) := by
  unfold rdAt rdVal
  rw [e.1, e.2]
  refine ⟨by omega, ?_⟩
  by_cases h : p = at0 ∨ 10 < p - at0
  · rw [if_pos h, if_pos (by omega)]
  · rw [if_neg h, if_neg (by omega)]
set_option maxHeartbeats 2000000 in
set_option maxRecDepth 100000 in
theorem l1Read_any (s : ByteArray) (at0 : Nat) (h : at0 ≤ 4294967296) (hs : s.size ≤ 4294967296) (w : World) :
    Calls Tryd.prog 33 #[.string s, .int .i64 at0] w fun e w' => e = .returned (.tuple #[.int .i64 (rdVal s.data.toList at0), .int .i64 (rdAt s.data.toList at0 : Nat)]) ∧ w = w' := by
  have hlen : s.data.toList.length = s.size := by rw [← Lib.size_eq]
  have HL := hide hlen
  clear hlen
  go_enter Tryd.func33, Tryd.ntmps33
  go_wp2
  go_loop [7, 1] (fun x v => ∃ p X : Nat, at0 ≤ p ∧ p ≤ at0 + 11 ∧ v = .int .i64 (p : Int) ∧ x = .int .i64 (X : Int) ∧ X ≤ 99999999999 ∧ Hid (RdInv s.data.toList at0 p X)) (fun _ v => at0 + 11 - (intOf v).toNat)
  case atStart => exact ⟨at0, 0, Nat.le_refl _, by omega, rfl, rfl, by omega, RdInv.start _ _⟩
  case round =>
    obtain ⟨p, X, h0, h11, rfl, rfl, hX, hinv⟩ := hrel
    have fin : Hid (∀ (hx : s.data.toList.length ≤ p ∨ 11 ≤ p - at0 ∨ ∃ h : p < s.data.toList.length, s.data.toList[p].toNat < 48 ∨ 57 < s.data.toList[p].toNat), rdAt s.data.toList at0 = p ∧ rdVal s.data.toList at0 = if p = at0 ∨ 10 < p - at0 then -1 else (X : Int)) := fun hx => rd_end h0 (RdInv.done hinv hx)
    by_cases hlt : p < s.size
    · obtain ⟨hp', hbyte⟩ := byteL s p hlt
      have HB := hide hbyte
      clear hbyte
      by_cases hc : 48 ≤ (s[p].toNat : Int) ∧ (s[p].toNat : Int) ≤ 57 ∧ p - at0 < 11
      · obtain ⟨c1, c2, c3⟩ := hc
        have hst : Hid (RdInv s.data.toList at0 (p + 1) (10 * X + (s[p].toNat - 48))) := by
          have := RdInv.step hinv h0 hp' (by rw [unhide HB]; omega) (by rw [unhide HB]; omega) c3
          rwa [unhide HB] at this
        go_wp2
        go_round
        case rel => exact ⟨p + 1, 10 * X + (s[p].toNat - 48), by omega, by omega, by go_num, by go_num, RdInv.small hst (by omega), hst⟩
        case measure => simp [intOf]; omega
      · have fx : Hid (rdAt s.data.toList at0 = p ∧ rdVal s.data.toList at0 = if p = at0 ∨ 10 < p - at0 then -1 else (X : Int)) := by
          refine unhide fin (.inr ?_)
          by_cases c : 11 ≤ p - at0
          · exact .inl c
          · exact .inr ⟨hp', by rw [unhide HB]; omega⟩
        clear fin hinv
        have ways : ¬ 48 ≤ (s[p].toNat : Int) ∨ (48 ≤ (s[p].toNat : Int) ∧ ¬ (s[p].toNat : Int) ≤ 57) ∨ (48 ≤ (s[p].toNat : Int) ∧ (s[p].toNat : Int) ≤ 57 ∧ ¬ ((p : Int) - (at0 : Int) < 11)) := by omega
        clear hc
        by_cases e1 : p = at0
        · have ho : (((p : Nat) : Int) == (at0 : Int)) = true := beq_iff_eq.2 (by omega)
          have ev := hide (show rdAt s.data.toList at0 = p ∧ rdVal s.data.toList at0 = -1 from ⟨fx.1, by rw [fx.2, if_pos (.inl e1)]⟩)
          have E1 := hide e1
          clear e1 fx
          rcases ways with c1 | ⟨c1, c2⟩ | ⟨c1, c2, c3⟩
          all_goals
            go_wp2
            go_ret2
            exact ⟨by rw [(unhide ev).1, (unhide ev).2]; rfl, rfl⟩
        · have ho : (((p : Nat) : Int) == (at0 : Int)) = false := beq_eq_false_iff_ne.2 (by omega)
          by_cases e2 : (10 : Int) < (p : Int) - (at0 : Int)
          · have ev := hide (show rdAt s.data.toList at0 = p ∧ rdVal s.data.toList at0 = -1 from ⟨fx.1, by rw [fx.2, if_pos (.inr (by omega))]⟩)
            have E1 := hide e1
            clear e1 fx
            rcases ways with c1 | ⟨c1, c2⟩ | ⟨c1, c2, c3⟩
            all_goals
              go_wp2
              go_ret2
              exact ⟨by rw [(unhide ev).1, (unhide ev).2]; rfl, rfl⟩
          · have ev := hide (show rdAt s.data.toList at0 = p ∧ rdVal s.data.toList at0 = (X : Int) from ⟨fx.1, by rw [fx.2, if_neg (by omega)]⟩)
            have E1 := hide e1
            clear e1 fx
            rcases ways with c1 | ⟨c1, c2⟩ | ⟨c1, c2, c3⟩
            all_goals
              go_wp2
              go_ret2
              exact ⟨by rw [(unhide ev).1, (unhide ev).2]; rfl, rfl⟩
    · have fx : Hid (rdAt s.data.toList at0 = p ∧ rdVal s.data.toList at0 = if p = at0 ∨ 10 < p - at0 then -1 else (X : Int)) := unhide fin (.inl (by rw [unhide HL]; omega))
      clear fin hinv
      by_cases e1 : p = at0
      · have ho : (((p : Nat) : Int) == (at0 : Int)) = true := beq_iff_eq.2 (by omega)
        have ev := hide (show rdAt s.data.toList at0 = p ∧ rdVal s.data.toList at0 = -1 from ⟨fx.1, by rw [fx.2, if_pos (.inl e1)]⟩)
        have E1 := hide e1
        clear e1 fx
        go_wp2
        go_ret2
        exact ⟨by rw [(unhide ev).1, (unhide ev).2]; rfl, rfl⟩
      · have ho : (((p : Nat) : Int) == (at0 : Int)) = false := beq_eq_false_iff_ne.2 (by omega)
        by_cases e2 : (10 : Int) < (p : Int) - (at0 : Int)
        · have ev := hide (show rdAt s.data.toList at0 = p ∧ rdVal s.data.toList at0 = -1 from ⟨fx.1, by rw [fx.2, if_pos (.inr (by omega))]⟩)
          have E1 := hide e1
          clear e1 fx
          go_wp2
          go_ret2
          exact ⟨by rw [(unhide ev).1, (unhide ev).2]; rfl, rfl⟩
        · have ev := hide (show rdAt s.data.toList at0 = p ∧ rdVal s.data.toList at0 = (X : Int) from ⟨fx.1, by rw [fx.2, if_neg (by omega)]⟩)
          have E1 := hide e1
          clear e1 fx
          go_wp2
          go_ret2
          exact ⟨by rw [(unhide ev).1, (unhide ev).2]; rfl, rfl⟩
end Go.Proofs.YthdbmnjkiijgeaaDoor
