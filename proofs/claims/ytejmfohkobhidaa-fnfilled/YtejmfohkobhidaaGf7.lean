/- Several texts in one: WitA, BigB. -/
import Derived.Test.YtejmfohkobhidaaGaA
namespace Go.Proofs.Ytejmfohkobhidaa
open Go.ChangeShapes Go.WideShapes Go.ChangeAt Go.RowKit
set_option linter.unusedVariables false

set_option maxHeartbeats 1000000 in
theorem within_any (v : Value) (xs : List Int) (y : Int) (w : World) (hv : Ns w v xs) :
    Calls Try.prog 23 #[v, .int .i64 y] w fun e w' => RetB (y ∈ xs) e ∧ w' = w := by
  obtain ⟨h0, a, cap, rfl, -, hv⟩ := hv
  have HV := dHide hv
  clear hv
  go_enter Try.func23, Try.ntmps23
  go_wp2
  go_loop [5] (fun x => ∃ k : Nat, x = .int .i64 (k : Int) ∧ k ≤ xs.length ∧ Hid (∀ i (h : i < xs.length), i < k → xs[i] ≠ y)) (fun x => xs.length - (intOf x).toNat)
  case atStart => exact ⟨0, rfl, Nat.zero_le _, fun i h h' => by omega⟩
  case round =>
    obtain ⟨k, rfl, hk, hinv⟩ := hrel
    by_cases hlt : (k : Int) < (xs.length : Int)
    · obtain ⟨b, off, rfl, hc⟩ : ∃ b off, a = some ⟨b, off, none⟩ ∧ ∀ i (h : i < xs.length), w.cell? ⟨b, off + i, none⟩ = some (.int .i64 xs[i]) := orN_of_lt (dUnhide HV) (k := k) (by omega)
      have hkl : k < xs.length := by omega
      have c1 := hc k hkl
      obtain ⟨x, hx⟩ : ∃ x, xs[k] = x := ⟨_, rfl⟩
      have HX := dHide hx
      rw [hx] at c1
      clear hx hc
      by_cases hxy : x = y
      · have hxy' : (x == y) = true := by simp [hxy]
        have hyes : Hid (y ∈ xs) := by rw [← hxy, ← dUnhide HX]; exact List.getElem_mem hkl
        clear hinv HX HV hxy
        go_wp2
        go_ret
        exact ⟨RetB.yes (dUnhide hyes), rfl⟩
      · have hxy' : (x == y) = false := by simp [hxy]
        have hst : Hid (∀ i (h : i < xs.length), i < k + 1 → xs[i] ≠ y) := fun i h h' => by
          rcases Nat.lt_or_ge i k with hlt' | hge
          · exact dUnhide hinv i h hlt'
          · obtain rfl : i = k := by omega
            rw [dUnhide HX]
            exact hxy
        clear hinv HX HV hxy
        go_wp2
        go_round
        case rel => exact ⟨k + 1, by go_num, by omega, hst⟩
        case measure => simp [intOf]; omega
    · have hno : Hid (¬ y ∈ xs) := fun h => by
        obtain ⟨i, hi, e⟩ := List.getElem_of_mem h
        exact dUnhide hinv i hi (by omega) e
      clear hinv HV
      go_wp2
      go_ret
      exact ⟨RetB.no (dUnhide hno), rfl⟩
end Go.Proofs.Ytejmfohkobhidaa
namespace Go.Proofs.Ytejmfohkobhidaa
open Go.ChangeShapes Go.WideShapes Go.ChangeAt Go.RowKit
set_option linter.unusedVariables false

theorem big_yes (a : Option Addr) (len cap : Nat) (h : 1048576 < len) (h' : len ≤ 9223372036854775807) (w : World) :
    Calls Try.prog 6 #[.slice a len cap] w fun e w' => e = .returned (.bool true) ∧ w = w' := by
  have hz : (1048576 : Int) < (len : Int) := by omega
  go_enter Try.func6, Try.ntmps6
  go_wp2
  go_ret
  exact ⟨rfl, rfl⟩
theorem big_no (a : Option Addr) (len cap : Nat) (h : ¬ 1048576 < len) (w : World) :
    Calls Try.prog 6 #[.slice a len cap] w fun e w' => e = .returned (.bool false) ∧ w = w' := by
  have hz : ¬ ((1048576 : Int) < (len : Int)) := by omega
  go_enter Try.func6, Try.ntmps6
  go_wp2
  go_ret
  exact ⟨rfl, rfl⟩
end Go.Proofs.Ytejmfohkobhidaa
