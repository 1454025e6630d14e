/- The walk of the law FnSureTo. -/
import Derived.Test.YtfipenjojgflmaaDwE
import Derived.Test.YtfipenjojgflmaaBigB
import Derived.Test.YtfipenjojgflmaaGaA
namespace Go.Proofs.Ytfipenjojgflmaa
open Go.ChangeShapes Go.WideShapes Go.ChangeAt Go.RowKit
set_option linter.unusedVariables false
set_option linter.unusedSimpArgs false

theorem sure_spec : ∀ ms : List Wd, sureL ms ≤ ms.length ∧ (∀ i (h : i < ms.length), i < sureL ms → ms[i].done = true) ∧ ∀ h : sureL ms < ms.length, ms[sureL ms].done = false
  | [] => ⟨Nat.le_refl _, (fun i h => by simp at h), fun h => by simp at h⟩
  | e :: l => by
    obtain ⟨h1, h2, h3⟩ := sure_spec l
    cases hd : e.done with
    | true =>
      have es : sureL (e :: l) = sureL l + 1 := by simp [sureL, hd]
      rw [es]
      refine ⟨by simpa using h1, fun i hi hlt => ?_, fun h => ?_⟩
      · cases i with
        | zero => simpa using hd
        | succ i => simpa using h2 i (by simpa using hi) (by omega)
      · simp only [es, List.getElem_cons_succ]
        exact h3 (by simpa using h)
    | false =>
      have es : sureL (e :: l) = 0 := by simp [sureL, hd]
      rw [es]
      refine ⟨Nat.zero_le _, fun i hi hlt => by omega, fun h => ?_⟩
      simp only [es, List.getElem_cons_zero]
      exact hd
set_option maxHeartbeats 8000000 in
set_option maxRecDepth 100000 in
theorem walkFnSureTo (a0 : Option Addr) (len0 cap0 : Nat) (z0 : List Int) (w : World) (w0 : IsRow .u8 w a0 len0 cap0 z0) :
    Calls Try.prog 6 #[.slice a0 len0 cap0] w fun e w' => e = .returned (.bool true) ∧ Below w.heap.size w w' := by
  have hr := row8_of w0
  have hlen := hr.1
  clear w0
  by_cases hbig : 1048576 < len0
  · have CB := dHide (big_yes a0 len0 cap0 hbig hlen)
    go_enter Try.func6, Try.ntmps6
    go_wp2_with fail
    refine (dUnhide CB _).mono ?_
    rintro e w1 ⟨rfl, rfl⟩
    go_wp2
    go_ret
    exact ⟨rfl, Below.refl _ _⟩
  have CB := dHide (big_no a0 len0 cap0 hbig)
  have CD := dHide (drawWriterSure_any a0 len0 cap0 w hr)
  have ba : ∀ (w : World) o, Below w.heap.size w (w.alloc o) := fun w o => (Below.refl _ _).alloc (Nat.le_refl _) o
  clear hbig hr
  go_enter Try.func6, Try.ntmps6
  go_wp2_with fail
  refine (dUnhide CB _).mono ?_
  rintro e w1 ⟨rfl, rfl⟩
  clear CB
  go_wp2_with fail
  refine (dUnhide CD).mono ?_
  rintro e w1 ⟨⟨u, m, rfl, R1, fit⟩, B1⟩
  obtain ⟨a, c, rfl⟩ := R1.shape
  clear CD
  have hml : m.words.length ≤ 60 := fit.1
  have bA := ba w1 (.cells #[.int .i64 m.epoch, .slice a m.words.length c] 29)
  have X2 := Bx.new w1 [.int .i64 m.epoch, .slice a m.words.length c] 29
  have R2 := (R1.below bA).rd
  have B2 := belowThen B1 bA
  clear R1 B1 bA
  go_wp2_with fail
  generalize hbx : w1.heap.size = bx at *
  generalize w1.alloc (.cells #[.int .i64 m.epoch, .slice a m.words.length c] 29) = w2 at *
  clear hbx
  obtain ⟨s1, s2, s3⟩ := sure_spec m.words
  have S2 := dHide s2
  have S3 := dHide s3
  have C1 := dHide (implSure_any (.agg #[.int .i64 m.epoch, .slice a m.words.length c]) m w2 (by omega) ⟨_, rfl, R2⟩)
  have x0 := X2 0 _ rfl
  have x1 := X2 1 _ rfl
  clear s2 s3
  go_wp2_with fail
  refine (dUnhide C1).mono ?_
  rintro e w3 ⟨rfl, b3⟩
  have X3 := X2.below b3
  have R3 := RdK.below R2 b3
  have B3 := belowThen B2 b3
  have C2 := dHide (specSure_any (.agg #[.int .i64 m.epoch, .slice a m.words.length c]) m w3 ⟨_, rfl, R3⟩)
  have y0 := X3 0 _ rfl
  have y1 := X3 1 _ rfl
  clear C1 X2 R2 B2 b3 x0 x1
  go_wp2_with fail
  refine (dUnhide C2).mono ?_
  rintro e w4 ⟨rfl, b4⟩
  have X4 := X3.below b4
  have R4 := RdK.below R3 b4
  have B4 := belowThen B3 b4
  have v0 := X4 0 _ rfl
  have v1 := X4 1 _ rfl
  obtain ⟨rs, rm, rw4, -⟩ := R4
  have hrl : rs.length = m.words.length := by rw [← rm, List.length_map]
  have WA : Hid (∀ i (h : i < m.words.length), ∃ b off, a = some ⟨b, off, none⟩ ∧ w4.cell? ⟨b, off + i * 3 + 2, none⟩ = some (.bool m.words[i].done)) := fun i h => by
    obtain ⟨b, off, ea, hw⟩ := rw4.word (show i < rs.length by omega)
    have q := (hw i (by omega)).2.2
    have em : rs[i].m = m.words[i] := by
      have e9 : m.words[i] = (rs.map Nst.m)[i]'(by rw [List.length_map]; omega) := by simp only [rm]
      rw [e9, List.getElem_map]
    rw [em] at q
    exact ⟨b, off, ea, q⟩
  have hd0 : ((sureL m.words : Int) != (sureL m.words : Int)) = false := by simp
  have hn0 : ¬ ((sureL m.words : Int) < 0) := by omega
  have hn1 : ¬ ((m.words.length : Int) < (sureL m.words : Int)) := by omega
  generalize sureL m.words = n at *
  clear C2 X3 R3 B3 b4 y0 y1 rw4 rm hrl
  go_wp2
  go_loopw [5] (fun y wr => ∃ k : Nat, y = .int .i64 (k : Int) ∧ k ≤ n ∧ wr = w4) (fun y _ => n - (intOf y).toNat)
  case atStart => exact ⟨0, rfl, Nat.zero_le _, rfl⟩
  case round =>
    obtain ⟨k, rfl, hkn, rfl⟩ := hrel
    by_cases hlt : (k : Int) < (n : Int)
    · obtain ⟨b, off, rfl, q⟩ := dUnhide WA k (by omega)
      rw [dUnhide S2 k (by omega) (by omega)] at q
      have hkl : (k : Int) < (m.words.length : Int) := by omega
      go_wp2
      go_roundw
      case rel => exact ⟨k + 1, by go_num, by omega, by trivial⟩
      case measure => simp [intOf]; omega
    · by_cases hnl : n = m.words.length
      · have hq : ((n : Int) == (m.words.length : Int)) = true := by simp [hnl]
        clear S2 S3 WA
        go_wp2
        go_ret
        exact ⟨rfl, B4⟩
      · have hq : ((n : Int) == (m.words.length : Int)) = false := by simp; omega
        have hnl2 : n < m.words.length := by omega
        obtain ⟨b, off, rfl, q⟩ := dUnhide WA n hnl2
        rw [dUnhide S3 hnl2] at q
        have hkl : (n : Int) < (m.words.length : Int) := by omega
        clear S2 S3 WA
        go_wp2
        go_ret
        exact ⟨rfl, B4⟩
end Go.Proofs.Ytfipenjojgflmaa
