/- The contract of spec's GetNum: it answers as the plain function getB at every argument, and writes nothing. -/
import Derived.Test.YtcjchbapeoeaeaaGetP
namespace Go.Proofs.Ytcjchbapeoeaeaa
open Go.ChangeShapes Go.WideShapes Go.ChangeAt Go.RowKit
set_option linter.unusedVariables false

set_option maxHeartbeats 1000000 in
theorem specGet_out (v : Value) (bs : List UInt8) (x : Int) (w : World) (hv : Bs w v bs) (hx : x < 0 ∨ (bs.length : Int) ≤ x) :
    Calls Try.prog 43 #[v, .int .i64 x] w fun e w' => e = .returned (.tuple #[.int .i64 0, .int .i64 0, .bool false]) ∧ w = w' := by
  obtain ⟨h0, a, cap, rfl, -, hv⟩ := hv
  clear hv
  by_cases h : x < 0
  · clear hx
    go_enter Try.func43, Try.ntmps43
    go_wp2
    go_ret3
    exact ⟨rfl, rfl⟩
  · have h2 : (bs.length : Int) ≤ x := by omega
    clear hx
    go_enter Try.func43, Try.ntmps43
    go_wp2
    go_ret3
    exact ⟨rfl, rfl⟩
set_option maxHeartbeats 2000000 in
set_option maxRecDepth 100000 in
theorem specGet_in (v : Value) (bs : List UInt8) (at0 : Nat) (w : World) (hv : Bs w v bs) (hx : at0 < bs.length) (hl : bs.length ≤ 9223372036854775000) :
    Calls Try.prog 43 #[v, .int .i64 (at0 : Int)] w fun e w' => e = .returned (getT (getB (bs.drop at0)) at0) ∧ w = w' := by
  obtain ⟨h0, a, cap, rfl, -, hv⟩ := hv
  obtain ⟨b, off, rfl, hc⟩ := or_of_lt hv hx
  have HC := dHide hc
  clear hc hv
  have a1 : ¬ ((at0 : Int) < 0) := by omega
  have a2 : ¬ ((bs.length : Int) ≤ (at0 : Int)) := by omega
  go_enter Try.func43, Try.ntmps43
  go_wp2
  go_loop [7, 8, 9] (fun x u j => ∃ k X : Nat, ∃ U : Int, j = .int .i64 (k : Int) ∧ x = .int .i64 (X : Int) ∧ u = .int .i64 U ∧ (k ≤ 8 → U = ((128 ^ k : Nat) : Int)) ∧ k ≤ 9 ∧ Hid (GetInv bs at0 k X)) (fun _ _ j => 9 - (intOf j).toNat)
  case atStart => exact ⟨0, 0, 1, rfl, rfl, rfl, fun _ => rfl, by omega, GetInv.start _ _⟩
  case round =>
    obtain ⟨k, X, U, rfl, rfl, rfl, hU, hk9, hinv⟩ := hrel
    by_cases hk : (k : Int) < 9
    · by_cases hlt : (at0 : Int) + (k : Int) < (bs.length : Int)
      · have hlt' : at0 + k < bs.length := by omega
        have c1 := dUnhide HC (at0 + k) hlt'
        have hstop := dHide (GetInv.stop hinv (by omega) hlt')
        have hmore := dHide (GetInv.more hinv (by omega) hlt')
        have hbd := pow_step k X bs[at0 + k].toNat (dUnhide hinv).2.2
        have hp8 := pow_le8 (show k ≤ 8 by omega)
        have hp9 := pow_le9 (show k ≤ 8 by omega)
        have hU' := hU (by omega)
        have hd256 : bs[at0 + k].toNat < 256 := bs[at0 + k].toNat_lt
        rw [Nat.pow_succ] at hp9 hbd
        have hnext : Hid (k + 1 ≤ 8 → wrap64 (((128 ^ k : Nat) : Int) * 128) = ((128 ^ (k + 1) : Nat) : Int)) := fun h => by
          have h9 := pow_le8 h
          rw [Nat.pow_succ] at h9 ⊢
          rw [show (((128 ^ k : Nat) : Int) * 128) = ((128 ^ k * 128 : Nat) : Int) by push_cast; rfl]
          exact IntWalk.wrap64_in _ (by omega)
        clear hinv hU HC
        generalize bs[at0 + k].toNat = d at *
        generalize 128 ^ k = P at *
        subst hU'
        have hPd : d % 128 * P ≤ 9223372036854775807 := by omega
        have hmul : wrap64 ((d : Int) % 128 * (P : Int)) = ((d % 128 * P : Nat) : Int) := by
          rw [show ((d : Int) % 128 * (P : Int)) = ((d % 128 * P : Nat) : Int) by push_cast; rfl]
          exact IntWalk.wrap64_in _ (by omega)
        generalize d % 128 * P = M at *
        by_cases hd : (d : Int) < 128
        · have hs := dUnhide hstop (by omega)
          by_cases hz : ((d : Int) == 0) = true
          · by_cases hk0 : (0 : Int) < (k : Int)
            · have HS := dHide (show getB (bs.drop at0) = none by rw [hs, if_pos ⟨by simpa using hz, by omega⟩])
              clear hs hstop hmore
              go_wp2
              go_ret3
              exact ⟨by rw [dUnhide HS]; rfl, rfl⟩
            · have HS := dHide (show getB (bs.drop at0) = some (X + M, k + 1) by rw [hs, if_neg (by omega)])
              clear hs hstop hmore
              go_wp2
              go_ret3
              exact ⟨by rw [dUnhide HS]; simp only [getT]; go_num, rfl⟩
          · have hz' : ((d : Int) == 0) = false := by simpa using hz
            have HS := dHide (show getB (bs.drop at0) = some (X + M, k + 1) by rw [hs, if_neg (by intro h; apply hz; rw [beq_iff_eq]; omega)])
            clear hs hstop hmore hz
            go_wp2
            go_ret3
            exact ⟨by rw [dUnhide HS]; simp only [getT]; go_num, rfl⟩
        · have hm := dHide (dUnhide hmore (by omega))
          clear hstop hmore
          go_wp2
          go_round
          case rel => exact ⟨k + 1, X + M, _, by go_num, by go_num, rfl, dUnhide hnext, by omega, hm⟩
          case measure => simp [intOf]; omega
      · have HS := dHide (GetInv.none hinv (.inr (by omega)))
        go_wp2
        go_ret3
        exact ⟨by rw [dUnhide HS]; rfl, rfl⟩
    · have HS := dHide (GetInv.none hinv (.inl (by omega)))
      go_wp2
      go_ret3
      exact ⟨by rw [dUnhide HS]; rfl, rfl⟩
end Go.Proofs.Ytcjchbapeoeaeaa
