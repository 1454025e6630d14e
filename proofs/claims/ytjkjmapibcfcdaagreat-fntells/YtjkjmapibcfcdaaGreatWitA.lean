/- The laws' helper within. -/
import Derived.Test.YtjkjmapibcfcdaaGreatGaA
namespace Go.Proofs.YtjkjmapibcfcdaaGreat
open Go.ChangeShapes Go.WideShapes Go.ChangeAt Go.RowKit
set_option linter.unusedVariables false

set_option maxHeartbeats 1000000 in
theorem within_any (v : Value) (xs : List Int) (y : Int) (w : World) (hv : Ns w v xs) :
  Calls Tryz.prog 11 #[v, .int .i64 y] w fun e w' => RetB (y ∈ xs) e ∧ w' = w := by
 obtain ⟨h0, a, cap, rfl, -, hv⟩ := hv
 have HV := dH hv
 clear hv
 go_enter Tryz.func11, Tryz.ntmps11
 go_wp2
 go_loop [5] (fun x => ∃ k : Nat, x = .int .i64 (k : Int) ∧ k ≤ xs.length ∧ Hid (∀ i (h : i < xs.length), i < k → xs[i] ≠ y)) (fun x => xs.length - (intOf x).toNat)
 case atStart => exact ⟨0, rfl, Nat.zero_le _, fun i h h' => by omega⟩
 case round =>
  obtain ⟨k, rfl, hk, hinv⟩ := hrel
  by_cases hlt : (k : Int) < (xs.length : Int)
  ·obtain ⟨b, off, rfl, hc⟩ : ∃ b off, a = some ⟨b, off, none⟩ ∧ ∀ i (h : i < xs.length), w.cell? ⟨b, off + i, none⟩ = some (.int .i64 xs[i]) := orN_of_lt (dU HV) (k := k) (by omega)
   have hkl : k < xs.length := by omega
   have c1 := hc k hkl
   obtain ⟨x, hx⟩ : ∃ x, xs[k] = x := ⟨_, rfl⟩
   have HX := dH hx
   rw [hx] at c1
   clear hx hc
   by_cases hxy : x = y
   ·have hxy' : (x == y) = true := by simp [hxy]
    have hyes : Hid (y ∈ xs) := by rw [← hxy, ← dU HX]; exact List.getElem_mem hkl
    clear hinv HX HV hxy
    go_wp2
    go_ret
    exact ⟨RetB.yes (dU hyes), rfl⟩
   ·have hxy' : (x == y) = false := by simp [hxy]
    have hst : Hid (∀ i (h : i < xs.length), i < k + 1 → xs[i] ≠ y) := fun i h h' => by
     rcases Nat.lt_or_ge i k with hlt' | hge
     ·exact dU hinv i h hlt'
     ·obtain rfl : i = k := by omega
      rw [dU HX]
      exact hxy
    clear hinv HX HV hxy
    go_wp2
    go_round
    case rel => exact ⟨k + 1, by go_num, by omega, hst⟩
    case measure => simp [intOf]; omega
  ·have hno : Hid (¬ y ∈ xs) := fun h => by
    obtain ⟨i, hi, e⟩ := List.getElem_of_mem h
    exact dU hinv i hi (by omega) e
   clear hinv HV
   go_wp2
   go_ret
   exact ⟨RetB.no (dU hno), rfl⟩
end Go.Proofs.YtjkjmapibcfcdaaGreat
