/- spec's l4Asc, ConfigOk, NodesOk. -/
import Derived.Test.YtognmmmplmideaaInP
import Derived.Test.YtognmmmplmideaaIntsP
import Derived.Test.YtognmmmplmideaaRetP
namespace Go.Proofs.Ytognmmmplmideaa
open Go.ChangeShapes Go.WideShapes Go.ChangeAt Go.RowKit
set_option linter.unusedVariables false

/-- Ascending numbers from lo to hi. -/
def ascP (xs : List Int) (lo hi : Int) : Prop := ∀ i (h : i < xs.length), lo ≤ xs[i] ∧ xs[i] ≤ hi ∧ ∀ (h' : 0 < i), xs[i - 1]'(by omega) < xs[i]
set_option maxHeartbeats 2000000 in
theorem l4Asc_any (v : Value) (xs : List Int) (lo hi : Int) (w : World) (hv : Ns w v xs) :
    Calls Try.prog 107 #[v, .int .i64 lo, .int .i64 hi] w fun e w' => RetB (ascP xs lo hi) e ∧ Drew w w' := by
  obtain ⟨h0, a, cap, rfl, -, hv⟩ := hv
  have HV := dHide hv
  clear hv
  go_enter Try.func107, Try.ntmps107
  go_wp2
  go_loopw [7] (fun x w' => ∃ k : Nat, x = .int .i64 (k : Int) ∧ k ≤ xs.length ∧ Hid (∀ i (h : i < xs.length), i < k → lo ≤ xs[i] ∧ xs[i] ≤ hi ∧ ∀ (h' : 0 < i), xs[i - 1]'(by omega) < xs[i]) ∧ Drew w w') (fun x _ => xs.length - (intOf x).toNat)
  case atStart => exact ⟨0, rfl, Nat.zero_le _, fun i h h' => by omega, Drew.refl _⟩
  case round =>
    obtain ⟨k, rfl, hk, hinv, hdr⟩ := hrel
    by_cases hlt : (k : Int) < (xs.length : Int)
    · obtain ⟨b, off, rfl, hc⟩ : ∃ b off, a = some ⟨b, off, none⟩ ∧ ∀ i (h : i < xs.length), w.cell? ⟨b, off + i, none⟩ = some (.int .i64 xs[i]) := orN_of_lt (dUnhide HV) (k := k) (by omega)
      have hc : ∀ i (h : i < xs.length), wr.cell? ⟨b, off + i, none⟩ = some (.int .i64 xs[i]) := fun i h => (hdr.cell _).trans (hc i h)
      have hkl : k < xs.length := by omega
      have c1 := hc k hkl
      obtain ⟨x, hx⟩ : ∃ x, xs[k] = x := ⟨_, rfl⟩
      have HX := dHide hx
      rw [hx] at c1
      clear hx
      by_cases hin : x < lo ∨ hi < x
      · have hno : Hid (¬ ascP xs lo hi) := fun h => by
          have := h k hkl
          rw [dUnhide HX] at this
          omega
        have CI := dHide (fun W => l1In_no x lo hi hin W)
        clear hc HV hinv HX hin
        go_wp2
        go_quiet (first | (go_at_call 53; refine Calls.quiet_of_same (dUnhide CI _)))
        go_wp2
        go_ret
        exact ⟨RetB.no (dUnhide hno), hdr.drewN _⟩
      · have i1 : lo ≤ x := by omega
        have i2 : x ≤ hi := by omega
        have CI := dHide (fun W => l1In_yes x lo hi i1 i2 W)
        clear hin
        by_cases hk0 : (0 : Int) < (k : Int)
        · have c2 := hc (k - 1) (by omega)
          obtain ⟨y, hy⟩ : ∃ y, xs[k - 1] = y := ⟨_, rfl⟩
          have HY := dHide hy
          rw [hy] at c2
          clear hy
          obtain ⟨j, rfl⟩ : ∃ j, k = j + 1 := ⟨k - 1, by omega⟩
          have e1 : wr.cell? ⟨b, off + j, none⟩ = some (.int .i64 y) := by simpa using c2
          have t1 : (0 : Int) ≤ (j : Int) := by omega
          have t2 : (j : Int) < (xs.length : Int) := by omega
          have t3 : IntKind.i64.wrap (((j + 1 : Nat) : Int) - 1) = (j : Int) := by rw [IntKind.wrap_i64]; omega
          have t4 : IntKind.i64.wrap ((j : Int) + 1 - 1) = (j : Int) := by rw [IntKind.wrap_i64]; omega
          by_cases hyx : x ≤ y
          · have hd : decide (x ≤ y) = true := decide_eq_true hyx
            have hno : Hid (¬ ascP xs lo hi) := fun h => by
              have := (h (j + 1) hkl).2.2 (by omega)
              rw [dUnhide HX] at this
              have hyy : xs[j] = y := dUnhide HY
              simp only [Nat.add_sub_cancel, hyy] at this
              omega
            clear hc HV hinv HX HY c2
            go_wp2
            go_quiet (first | (go_at_call 53; refine Calls.quiet_of_same (dUnhide CI _)))
            go_wp2
            go_ret
            exact ⟨RetB.no (dUnhide hno), hdr.drewN _⟩
          · have hd : decide (x ≤ y) = false := decide_eq_false hyx
            have hst : Hid (∀ i (h : i < xs.length), i < j + 1 + 1 → lo ≤ xs[i] ∧ xs[i] ≤ hi ∧ ∀ (h' : 0 < i), xs[i - 1]'(by omega) < xs[i]) := fun i h h' => by
              rcases Nat.lt_or_ge i (j + 1) with hlt' | hge
              · exact dUnhide hinv i h hlt'
              · obtain rfl : i = j + 1 := by omega
                have hyy : xs[j] = y := dUnhide HY
                rw [dUnhide HX]
                exact ⟨i1, i2, fun _ => by simp only [Nat.add_sub_cancel, hyy]; omega⟩
            clear hc HV hinv HX HY c2
            go_wp2
            go_quiet (first | (go_at_call 53; refine Calls.quiet_of_same (dUnhide CI _)))
            go_wp2
            go_roundw
            case rel => exact ⟨j + 1 + 1, by go_num, by omega, hst, hdr.drewN _⟩
            case measure => simp [intOf]; omega
        · obtain rfl : k = 0 := by omega
          have c1' : wr.cell? ⟨b, off, none⟩ = some (.int .i64 x) := by simpa using c1
          have t1 : (0 : Int) < (xs.length : Int) := by omega
          have hst : Hid (∀ i (h : i < xs.length), i < 0 + 1 → lo ≤ xs[i] ∧ xs[i] ≤ hi ∧ ∀ (h' : 0 < i), xs[i - 1]'(by omega) < xs[i]) := fun i h h' => by
            obtain rfl : i = 0 := by omega
            rw [dUnhide HX]
            exact ⟨i1, i2, fun h => by omega⟩
          clear hc HV hinv HX
          go_wp2
          go_quiet (first | (go_at_call 53; refine Calls.quiet_of_same (dUnhide CI _)))
          go_wp2
          go_roundw
          case rel => exact ⟨0 + 1, by go_num, by omega, hst, hdr.drewN _⟩
          case measure => simp [intOf]; omega
    · have hyes : Hid (ascP xs lo hi) := fun i h => dUnhide hinv i h (by omega)
      clear hinv HV
      go_wp2
      go_ret
      exact ⟨RetB.yes (dUnhide hyes), hdr⟩
/-- A config that is right. -/
def cfgP (ds : List Int) (cop : Int) : Prop := (1 ≤ ds.length ∧ ds.length ≤ 8) ∧ (1 ≤ cop ∧ cop ≤ 4) ∧ ∀ i (h : i < ds.length), 0 ≤ ds[i] ∧ ds[i] ≤ 7
set_option maxHeartbeats 2000000 in
theorem specCfg_any (sv : Value) (ds : List Int) (cop : Int) (w : World) (hv : Ns w sv ds) :
    Calls Try.prog 49 #[.agg #[sv, .int .i64 cop]] w fun e w' => RetB (cfgP ds cop) e ∧ Below w.heap.size w w' := by
  obtain ⟨h0, a, cap, rfl, -, hv⟩ := hv
  have HV := dHide hv
  clear hv
  have hb0 : ∀ o, Below w.heap.size w (w.alloc o) := fun o => (Below.refl _ _).alloc (Nat.le_refl _) o
  by_cases h1 : 1 ≤ ds.length ∧ ds.length ≤ 8
  · have CL := dHide fun W => l1In_yes (ds.length : Int) 1 8 (by omega) (by omega) W
    by_cases h2 : 1 ≤ cop ∧ cop ≤ 4
    · have CC := dHide fun W => l1In_yes cop 1 4 (by omega) (by omega) W
      have hl := h1.2
      go_enter Try.func49, Try.ntmps49
      go_wp2_with (first | (go_at_call_of 53 cop; refine (dUnhide CC _).mono ?_; rintro e w' ⟨rfl, rfl⟩) | (go_at_call 53; refine (dUnhide CL _).mono ?_; rintro e w' ⟨rfl, rfl⟩))
      go_loopw [3] (fun x wr => ∃ k : Nat, x = .int .i64 (k : Int) ∧ k ≤ ds.length ∧ Hid (∀ i (h : i < ds.length), i < k → 0 ≤ ds[i] ∧ ds[i] ≤ 7) ∧ wr.cell? ⟨w.heap.size, 0, none⟩ = some (.slice a ds.length cap) ∧ Below w.heap.size w wr) (fun x _ => ds.length - (intOf x).toNat)
      case atStart => exact ⟨0, rfl, Nat.zero_le _, fun i h h' => by omega, by simp, hb0 _⟩
      case round =>
        obtain ⟨k, rfl, hk, hinv, hbx, hb⟩ := hrel
        by_cases hlt : (k : Int) < (ds.length : Int)
        · obtain ⟨b, off, rfl, hc⟩ : ∃ b off, a = some ⟨b, off, none⟩ ∧ ∀ i (h : i < ds.length), w.cell? ⟨b, off + i, none⟩ = some (.int .i64 ds[i]) := orN_of_lt (dUnhide HV) (k := k) (by omega)
          have hkl : k < ds.length := by omega
          have c1 : wr.cell? ⟨b, off + k, none⟩ = some (.int .i64 ds[k]) := (hb.cell (p := ⟨b, off + k, none⟩) (dCell_lt (hc k hkl))).trans (hc k hkl)
          obtain ⟨x, hx⟩ : ∃ x, ds[k] = x := ⟨_, rfl⟩
          have HX := dHide hx
          rw [hx] at c1
          clear hx hc
          by_cases hin : x < 0 ∨ 7 < x
          · have CI := dHide fun W => l1In_no x 0 7 hin W
            have hno : Hid (¬ cfgP ds cop) := fun h => by
              have := h.2.2 k hkl
              rw [dUnhide HX] at this
              omega
            clear hin hinv HX HV
            go_wp2_with (go_at_call 53; refine (dUnhide CI _).mono ?_; rintro e w' ⟨rfl, rfl⟩)
            go_ret
            exact ⟨RetB.no (dUnhide hno), hb⟩
          · have CI := dHide fun W => l1In_yes x 0 7 (by omega) (by omega) W
            have hst : Hid (∀ i (h : i < ds.length), i < k + 1 → 0 ≤ ds[i] ∧ ds[i] ≤ 7) := fun i h h' => by
              rcases Nat.lt_or_ge i k with hlt' | hge
              · exact dUnhide hinv i h hlt'
              · obtain rfl : i = k := by omega
                rw [dUnhide HX]
                omega
            clear hin hinv HX HV
            go_wp2_with (go_at_call 53; refine (dUnhide CI _).mono ?_; rintro e w' ⟨rfl, rfl⟩)
            go_roundw
            case rel => exact ⟨k + 1, by go_num, by omega, hst, hbx, hb⟩
            case measure => simp [intOf]; omega
        · have hyes : Hid (cfgP ds cop) := ⟨h1, h2, fun i h => dUnhide hinv i h (by omega)⟩
          clear hinv HV
          go_wp2
          go_ret
          exact ⟨RetB.yes (dUnhide hyes), hb⟩
    · have CC := dHide fun W => l1In_no cop 1 4 (by omega) W
      have hno : Hid (¬ cfgP ds cop) := fun h => h2 h.2.1
      clear h2 HV
      go_enter Try.func49, Try.ntmps49
      go_wp2_with (first | (go_at_call_of 53 cop; refine (dUnhide CC _).mono ?_; rintro e w' ⟨rfl, rfl⟩) | (go_at_call 53; refine (dUnhide CL _).mono ?_; rintro e w' ⟨rfl, rfl⟩))
      go_ret
      exact ⟨RetB.no (dUnhide hno), hb0 _⟩
  · have CL := dHide fun W => l1In_no (ds.length : Int) 1 8 (by omega) W
    have hno : Hid (¬ cfgP ds cop) := fun h => h1 h.1
    clear h1 HV
    go_enter Try.func49, Try.ntmps49
    go_wp2_with (go_at_call 53; refine (dUnhide CL _).mono ?_; rintro e w' ⟨rfl, rfl⟩)
    go_ret
    exact ⟨RetB.no (dUnhide hno), hb0 _⟩
end Go.Proofs.Ytognmmmplmideaa
