/- impl's ascendingBelow, ConfigOk, NodesOk, SpanOf. -/
import Derived.Test.YtognmmmplmideaaImpDb
namespace Go.Proofs.Ytognmmmplmideaa
open Go.ChangeShapes Go.WideShapes Go.ChangeAt Go.RowKit
set_option linter.unusedVariables false

set_option maxHeartbeats 2000000 in
theorem ascBelow_any (v : Value) (xs : List Int) (n : Int) (w : World) (hv : Ns w v xs) :
    Calls Try.prog 113 #[v, .int .i64 n] w fun e w' => RetB (ascP xs 0 (n - 1)) e ∧ w' = w := by
  obtain ⟨h0, a, cap, rfl, -, hv⟩ := hv
  have HV := dHide hv
  clear hv
  go_enter Try.func113, Try.ntmps113
  go_wp2
  go_loop [5, 10] (fun l x => ∃ (k : Nat) (p : Int), l = .int .i64 p ∧ x = .int .i64 (k : Int) ∧ k ≤ xs.length ∧ -1 ≤ p ∧ Hid ((k = 0 → p = -1) ∧ ∀ (h : k - 1 < xs.length), 0 < k → p = xs[k - 1]) ∧ Hid (∀ i (h : i < xs.length), i < k → 0 ≤ xs[i] ∧ xs[i] ≤ n - 1 ∧ ∀ (h' : 0 < i), xs[i - 1]'(by omega) < xs[i])) (fun _ x => xs.length - (intOf x).toNat)
  case atStart => exact ⟨0, -1, rfl, rfl, Nat.zero_le _, by omega, ⟨fun _ => rfl, fun h h' => by omega⟩, fun i h h' => by omega⟩
  case round =>
    obtain ⟨k, p, rfl, rfl, hk, hp1, hp, hinv⟩ := hrel
    by_cases hlt : (k : Int) < (xs.length : Int)
    · obtain ⟨b, off, rfl, hc⟩ : ∃ b off, a = some ⟨b, off, none⟩ ∧ ∀ i (h : i < xs.length), w.cell? ⟨b, off + i, none⟩ = some (.int .i64 xs[i]) := orN_of_lt (dUnhide HV) (k := k) (by omega)
      have hkl : k < xs.length := by omega
      have c1 := hc k hkl
      obtain ⟨x, hx⟩ : ∃ x, xs[k] = x := ⟨_, rfl⟩
      have HX := dHide hx
      rw [hx] at c1
      clear hx hc HV
      by_cases hle : x ≤ p
      · have hno : Hid (¬ ascP xs 0 (n - 1)) := fun h => by
          have h1 := h k hkl
          rw [dUnhide HX] at h1
          rcases Nat.eq_zero_or_pos k with hk0 | hk0
          · have := (dUnhide hp).1 hk0
            omega
          · have h2 := h1.2.2 hk0
            have h3 := (dUnhide hp).2 (by omega) hk0
            omega
        have hd : decide (x ≤ p) = true := decide_eq_true hle
        clear hinv hp HX hp1
        go_wp2
        go_ret
        exact ⟨RetB.no (dUnhide hno), rfl⟩
      · have hd : decide (x ≤ p) = false := decide_eq_false hle
        by_cases hge : n ≤ x
        · have hno : Hid (¬ ascP xs 0 (n - 1)) := fun h => by
            have h1 := h k hkl
            rw [dUnhide HX] at h1
            omega
          have hd2 : decide (n ≤ x) = true := decide_eq_true hge
          clear hinv hp HX hp1
          go_wp2
          go_ret
          exact ⟨RetB.no (dUnhide hno), rfl⟩
        · have hd2 : decide (n ≤ x) = false := decide_eq_false hge
          have hst : Hid (∀ i (h : i < xs.length), i < k + 1 → 0 ≤ xs[i] ∧ xs[i] ≤ n - 1 ∧ ∀ (h' : 0 < i), xs[i - 1]'(by omega) < xs[i]) := fun i h h' => by
            rcases Nat.lt_or_ge i k with hlt' | hge'
            · exact dUnhide hinv i h hlt'
            · obtain rfl : i = k := by omega
              have h1 := dUnhide HX
              refine ⟨by omega, by omega, fun h' => ?_⟩
              have h3 := (dUnhide hp).2 (by omega) h'
              omega
          have hpx : Hid (((k + 1 : Nat) = 0 → x = -1) ∧ ∀ (h : k + 1 - 1 < xs.length), 0 < k + 1 → x = xs[k + 1 - 1]) := ⟨fun h => by omega, fun h h' => by simp only [Nat.add_sub_cancel]; exact (dUnhide HX).symm⟩
          have hx1 : -1 ≤ x := by omega
          clear hinv hp HX hp1
          go_wp2
          go_round
          case rel => exact ⟨k + 1, x, rfl, by go_num, by omega, hx1, hpx, hst⟩
          case measure => simp [intOf]; omega
    · have hyes : Hid (ascP xs 0 (n - 1)) := fun i h => dUnhide hinv i h (by omega)
      clear hinv HV hp
      go_wp2
      go_ret
      exact ⟨RetB.yes (dUnhide hyes), rfl⟩
set_option maxHeartbeats 2000000 in
theorem implCfg_any (sv : Value) (ds : List Int) (cop : Int) (w : World) (hv : Ns w sv ds) (ha : allInt ds) (hl : ds.length ≤ 1048576) (c0 : -9223372036854775808 ≤ cop) (c1 : cop ≤ 9223372036854775807) :
    Calls Try.prog 56 #[.agg #[sv, .int .i64 cop]] w fun e w' => RetB (cfgP ds cop) e ∧ Below w.heap.size w w' := by
  obtain ⟨h0, a, cap, rfl, -, hv⟩ := hv
  have HV := dHide hv
  clear hv ha
  have hb0 : ∀ o, Below w.heap.size w (w.alloc o) := fun o => (Below.refl _ _).alloc (Nat.le_refl _) o
  by_cases h1 : (ds.length : Int) < 1
  · have hno : Hid (¬ cfgP ds cop) := fun h => by have := h.1; omega
    have hd : decide ((ds.length : Int) < 1) = true := decide_eq_true h1
    clear h1 HV
    go_enter Try.func56, Try.ntmps56
    go_wp2
    go_ret
    exact ⟨RetB.no (dUnhide hno), hb0 _⟩
  · have hd : decide ((ds.length : Int) < 1) = false := decide_eq_false h1
    by_cases h2 : (8 : Int) < (ds.length : Int)
    · have hno : Hid (¬ cfgP ds cop) := fun h => by have := h.1; omega
      have hd2 : decide ((8 : Int) < (ds.length : Int)) = true := decide_eq_true h2
      clear h1 HV
      go_enter Try.func56, Try.ntmps56
      go_wp2
      go_ret
      exact ⟨RetB.no (dUnhide hno), hb0 _⟩
    · have hd2 : decide ((8 : Int) < (ds.length : Int)) = false := decide_eq_false h2
      go_enter Try.func56, Try.ntmps56
      go_wp2
      go_loopw [18] (fun x wr => ∃ k : Nat, x = .int .i64 (k : Int) ∧ k ≤ ds.length ∧ Hid (∀ i (h : i < ds.length), i < k → 0 ≤ ds[i] ∧ ds[i] ≤ 7) ∧ wr.cell? ⟨w.heap.size, 1, none⟩ = some (.int .i64 cop) ∧ Below w.heap.size w wr) (fun x _ => ds.length - (intOf x).toNat)
      case atStart => exact ⟨0, rfl, Nat.zero_le _, (fun i h h' => by omega), by simp, hb0 _⟩
      case round =>
        obtain ⟨k, rfl, hk, hinv, hbx, hb⟩ := hrel
        by_cases hlt : (k : Int) < (ds.length : Int)
        · obtain ⟨b, off, rfl, hc⟩ : ∃ b off, a = some ⟨b, off, none⟩ ∧ ∀ i (h : i < ds.length), w.cell? ⟨b, off + i, none⟩ = some (.int .i64 ds[i]) := orN_of_lt (dUnhide HV) (k := k) (by omega)
          have hkl : k < ds.length := by omega
          have e1 : wr.cell? ⟨b, off + k, none⟩ = some (.int .i64 ds[k]) := (hb.cell (p := ⟨b, off + k, none⟩) (dCell_lt (hc k hkl))).trans (hc k hkl)
          obtain ⟨x, hx⟩ : ∃ x, ds[k] = x := ⟨_, rfl⟩
          have HX := dHide hx
          rw [hx] at e1
          clear hx hc
          by_cases hin : x < 0
          · have hno : Hid (¬ cfgP ds cop) := fun h => by
              have := h.2.2 k hkl
              rw [dUnhide HX] at this
              omega
            have hd3 : decide (x < 0) = true := decide_eq_true hin
            clear hin hinv HX HV h1 h2
            go_wp2
            go_ret
            exact ⟨RetB.no (dUnhide hno), hb⟩
          · have hd3 : decide (x < 0) = false := decide_eq_false hin
            by_cases hin2 : 7 < x
            · have hno : Hid (¬ cfgP ds cop) := fun h => by
                have := h.2.2 k hkl
                rw [dUnhide HX] at this
                omega
              have hd4 : decide (7 < x) = true := decide_eq_true hin2
              clear hin hin2 hinv HX HV h1 h2
              go_wp2
              go_ret
              exact ⟨RetB.no (dUnhide hno), hb⟩
            · have hd4 : decide (7 < x) = false := decide_eq_false hin2
              have hst : Hid (∀ i (h : i < ds.length), i < k + 1 → 0 ≤ ds[i] ∧ ds[i] ≤ 7) := fun i h h' => by
                rcases Nat.lt_or_ge i k with hlt' | hge
                · exact dUnhide hinv i h hlt'
                · obtain rfl : i = k := by omega
                  rw [dUnhide HX]
                  omega
              clear hin hin2 hinv HX HV h1 h2
              go_wp2
              go_roundw
              case rel => exact ⟨k + 1, by go_num, by omega, hst, hbx, hb⟩
              case measure => simp [intOf]; omega
        · have hall : Hid (∀ i (h : i < ds.length), 0 ≤ ds[i] ∧ ds[i] ≤ 7) := fun i h => dUnhide hinv i h (by omega)
          by_cases h3 : 1 ≤ cop
          · have hd3 : decide (1 ≤ cop) = true := decide_eq_true h3
            have R : RetB (cfgP ds cop) (.returned (.bool (decide (cop ≤ 4)))) := ⟨_, rfl, fun h => ⟨by omega, ⟨h3, of_decide_eq_true h⟩, dUnhide hall⟩, fun h => decide_eq_true h.2.1.2⟩
            clear hinv HV hall h1 h2
            go_wp2
            go_ret
            exact ⟨R, hb⟩
          · have hd3 : decide (1 ≤ cop) = false := decide_eq_false h3
            have R : RetB (cfgP ds cop) (.returned (.bool false)) := RetB.no fun h => h3 h.2.1.1
            clear hinv HV hall h1 h2
            go_wp2
            go_ret
            exact ⟨R, hb⟩
end Go.Proofs.Ytognmmmplmideaa
