/- What was sent, marked. -/
import Derived.Test.YtaamipmlalplbaaSeS
namespace Go.Proofs.Ytaamipmlalplbaa
open Go.ChangeShapes Go.WideShapes Go.ChangeAt Go.RowKit
set_option linter.unusedVariables false
set_option linter.unusedSimpArgs false
set_option maxRecDepth 100000

set_option maxHeartbeats 4000000 in
theorem markSentS_w (lo hi : Nat) (v : Value) (m : List Se) (k0 : Nat) (w : World) (hk : k0 ≤ 134217728) (hl : cntSentS m ≤ 134217728) (hf : hi ≤ w.heap.size) (h : OwSentS lo hi v m w) :
    Calls Try.prog 33 #[v, .int .i64 (k0 : Int)] w fun e w' => e = .returned (.int .i64 ((k0 + cntSentS m : Nat) : Int)) ∧ Wr lo hi w w' := by
  obtain ⟨hown, hlt⟩ := h
  obtain ⟨a, cap, rfl, -⟩ := formSentS (OwnRw.rw hown)
  have hlen : m.length ≤ 134217728 := by unfold cntSentS at hl; omega
  have hcn : Hid (k0 + cntSentS m = k0 + 3 * m.length) := rfl
  by_cases hm : m.length = 0
  · obtain rfl : m = [] := List.length_eq_zero_iff.1 hm
    clear hown hlt hm
    simp only [List.length_nil] at *
    go_enter Try.func33, Try.ntmps33
    go_wp2
    go_rounds 1
    go_ret
    exact ⟨by simp [cntSentS], Wr.refl _ _ _⟩
  · obtain ⟨b, off, rfl, hb1, hz0⟩ := hown.rwZ zeroSe (by omega)
    have hb2 : b < hi := by
      rcases hlt with h | h
      · exact absurd (by rw [h]; rfl) hm
      · exact h
    have HZ0 := dHide hz0
    clear hown hlt hz0 hm
    go_enter Try.func33, Try.ntmps33
    go_wp2
    go_loopw [5, 1] (fun x y wr => ∃ (k K : Nat), ∃ f : Nat → Se, x = .int .i64 (k : Int) ∧ y = .int .i64 (K : Int) ∧ k ≤ m.length ∧ Hid (K = k0 + 3 * k) ∧ Hid (RwZ 3 Se.cl wr b off m.length f) ∧ Hid (Wr lo hi w wr)) (fun x _ _ => m.length - (intOf x).toNat)
    case atStart => exact ⟨0, k0, _, rfl, rfl, Nat.zero_le _, rfl, dUnhide HZ0, Wr.refl _ _ _⟩
    case round =>
      obtain ⟨k, K, f, rfl, rfl, hkk, hK, hz, hw⟩ := hrel
      by_cases hlt : (k : Int) < (m.length : Int)
      · have hkl : k < m.length := by omega
        have hKb : K ≤ 8589934592 := by have := dUnhide hK; omega
        have hKb2 : K ≤ 2147483648 := by have := dUnhide hK; omega
        obtain ⟨z0, f0⟩ := (dUnhide hz) k hkl 0 _ rfl
        simp only [Nat.add_zero] at z0 f0
        have CT := dHide fun W => markText_any (K + 1) (by omega) (by omega) W
        have e3 : ((K + 1 : Nat) : Int) = (K : Int) + 1 := by omega
        rw [e3] at CT
        have Z0x := (dUnhide hz).cell Se.cl_len hkl 0 (by decide) (.int .i64 (K : Int)) ⟨(K : Int), (f k).data, (f k).sure⟩ (by rfl)
        simp only [Nat.add_zero] at Z0x
        have HZ3 := dHide Z0x
        have HW3 := dHide ((dUnhide hw).setSe (o := off + k * 3) hb1 hb2 (.int .i64 (K : Int)))
        clear e3 Z0x hz hw
        go_wp2_with fail
        generalize wr.setCell ⟨b, off + k * 3, none⟩ (.int .i64 (K : Int)) = V at *
        refine (dUnhide CT _).mono ?_
        rintro r w2 ⟨rfl, b2⟩
        have Z4 := (dUnhide HZ3).below b2
        obtain ⟨z1, f1⟩ := Z4 k hkl 1 _ rfl
        obtain ⟨z2, f2⟩ := Z4 k hkl 2 _ rfl
        have Z5 := Z4.cell Se.cl_len hkl 1 (by decide) (.string (markT (K + 1))) ⟨(K : Int), markT (K + 1), (f k).sure⟩ (by simp only [putZ_same]; rfl)
        obtain ⟨z3, f3⟩ := Z5 k hkl 2 _ rfl
        have Z6 := Z5.cell Se.cl_len hkl 2 (by decide) (.bool (((K : Int) + 1 + 1) % 3 == 0)) ⟨(K : Int), markT (K + 1), (((K : Int) + 1 + 1) % 3 == 0)⟩ (by simp only [putZ_same]; rfl)
        have HZ6 := dHide Z6
        have W6 := dHide ((((dUnhide HW3).trans (Wr.of_below b2)).setSe (o := off + k * 3 + 1) hb1 hb2 (.string (markT (K + 1)))).setSe (o := off + k * 3 + 2) hb1 hb2 (.bool (((K : Int) + 1 + 1) % 3 == 0)))
        have hK2 : Hid (K + 3 = k0 + 3 * (k + 1)) := by rw [Hid, dUnhide hK]; omega
        simp only [putZ_same] at z1 z2 z3
        clear CT b2 Z4 Z5 Z6 HZ3 HW3 z0 f0 hK
        generalize markT (K + 1) = MT at *
        go_wp2
        go_roundw
        case rel => exact ⟨k + 1, K + 3, _, by go_num, by go_num, by omega, hK2, dUnhide HZ6, dUnhide W6⟩
        case measure => simp [intOf]; omega
      · have e1 : k = m.length := by omega
        have e2 : Hid ((K : Int) = ((k0 + cntSentS m : Nat) : Int)) := by rw [Hid, dUnhide hK, dUnhide hcn, e1]
        clear hz hK HZ0 hcn
        go_wp2
        go_ret
        exact ⟨by have e := dUnhide e2; simp only [Int.natCast_add] at e; simp [e], dUnhide hw⟩
end Go.Proofs.Ytaamipmlalplbaa
