/- Registers drawn: l7DrawSet. -/
import Derived.Test.YtfipenjojgflmaaDoorDrwE
import Derived.Test.YtfipenjojgflmaaDoorGaC
import Derived.Test.YtfipenjojgflmaaDoorGaA
import Derived.Test.YtfipenjojgflmaaDoorRetQ
namespace Go.Proofs.YtfipenjojgflmaaDoor
open Go.ChangeShapes Go.WideShapes Go.ChangeAt Go.RowKit
set_option linter.unusedVariables false
set_option linter.unusedSimpArgs false
set_option maxRecDepth 100000

set_option maxHeartbeats 4000000 in
theorem l7DrawSet_any (bk : Nat) (sv : Value) (ds : List Int) (cop : Int) (w : World) (hc : Cur w bk) (hv : Ns w sv ds) (hl : ds.length ≤ 9) (hne : ds = [] ∨ blockOf sv ≠ bk) :
    Calls Tryd.prog 23 #[.pointer (some ⟨bk, 0, none⟩), .agg #[sv, .int .i64 cop]] w fun e w' => (∃ (u : Value) (zs : List Int), e = .returned u ∧ OwnN w' w.heap.size u zs ∧ zs.length ≤ 40 ∧ (∀ z ∈ zs, -1 ≤ z ∧ z ≤ 9)) ∧ Cur w' bk ∧ Drawn bk w w' := by
  have hlt := hc.lt
  have ba : ∀ (w : World) o, Below w.heap.size w (w.alloc o) := fun w o => (Below.refl _ _).alloc (Nat.le_refl _) o
  have HV := dHide hv
  obtain ⟨-, a, cap, rfl, -, -⟩ := hv
  have b0 := ba w (.cells #[.slice a ds.length cap, .int .i64 cop] 26)
  have X0 := Bx.new w [.slice a ds.length cap, .int .i64 cop] 26
  have hc0 := hc.below b0
  have V0 := (dUnhide HV).below b0
  clear hc HV
  go_enter Tryd.func23, Tryd.ntmps23
  go_wp2_with fail
  generalize w.alloc (.cells #[.slice a ds.length cap, .int .i64 cop] 26) = w0 at *
  refine (l4DrawNodes_any bk _ ds cop w0 hc0 V0 hl).mono ?_
  rintro e w1 ⟨⟨u1, zs1, rfl, O1, hz1, A1⟩, hc1, hd1⟩
  have X1 := dHide (X0.drawn hd1 (by omega))
  have V1 := dHide (V0.drawn hd1 hne)
  have D1 := dHide ((Drawn.of_below b0).trans hd1)
  have N1 := dHide ((ownN_of_row O1).mono (base' := w.heap.size) b0.size)
  have C1 := dHide hc1
  clear X0 V0 hc0 O1 hd1 hc1 hne
  go_wp2
  go_loopw [5, 6] (fun o xi wr => ∃ (k : Nat) (zs : List Int), xi = .int .i64 (k : Int) ∧ k ≤ ds.length ∧ Hid (OwnN wr w.heap.size o zs) ∧ zs.length ≤ 20 + k ∧ Hid (∀ z ∈ zs, -1 ≤ z ∧ z ≤ 9) ∧ Hid (Below w1.heap.size w1 wr)) (fun _ xi _ => ds.length - (intOf xi).toNat)
  case atStart => exact ⟨0, zs1, rfl, Nat.zero_le _, N1, by omega, A1, Below.refl _ _⟩
  case round =>
    obtain ⟨k, zs, rfl, hk, HO, hzl, HA, HB⟩ := hrel
    have X2 := (dUnhide X1).below (dUnhide HB)
    have x0 := X2 0 _ rfl
    have x1 := X2 1 _ rfl
    by_cases hkn : (k : Int) < (ds.length : Int)
    · have CH := dHide (specHolds_any _ _ ds zs cop wr ((dUnhide V1).below (dUnhide HB)) (dUnhide HO).bs (by omega))
      go_wp2_with fail
      refine (dUnhide CH).mono ?_
      rintro e w3 ⟨hr3, b3⟩
      have HB3 := dHide (belowThen (dUnhide HB) b3)
      have HO3 := dHide ((dUnhide HO).below b3)
      clear CH HB HO X2 x0 x1
      by_cases hh : holdsP ds cop zs
      · obtain rfl := hr3.of_yes hh
        have C3 := dHide ((dUnhide C1).below (dUnhide HB3))
        have D3 := dHide ((dUnhide D1).trans (Drawn.of_below (dUnhide HB3)))
        have HA := dUnhide HA
        go_wp2
        go_ret
        first | exact ⟨⟨_, zs, rfl, dUnhide HO3, by omega, HA⟩, dUnhide C3, dUnhide D3⟩ | exact ⟨⟨_, rfl, zs, dUnhide HO3, by omega, HA⟩, dUnhide C3, dUnhide D3⟩
      · obtain rfl := hr3.of_no hh
        have PT := dHide (l4Put_any _ zs (k : Int) w3 (dUnhide HO3).bs (by omega))
        clear hr3 hh
        go_wp2_with fail
        refine (dUnhide PT).mono ?_
        rintro e w4 ⟨⟨u4, zs4, rfl, O4, hz4, P4⟩, b4⟩
        have HB4 := dHide (belowThen (dUnhide HB3) b4)
        have hs3 := (dUnhide HB3).size
        have O4' := dHide ((ownN_of_row O4).mono (base' := w.heap.size) (by have := (dUnhide D1).size; omega))
        have HA4 : Hid (∀ z ∈ zs4, -1 ≤ z ∧ z ≤ 9) := fun z h => by
          rcases P4 z h with h1 | h1
          · rw [h1]; omega
          · exact dUnhide HA z h1
        clear PT HB3 HO3 O4 P4 b4 HA
        go_wp2
        go_roundw
        case rel => exact ⟨k + 1, zs4, by go_num, by omega, O4', by omega, HA4, HB4⟩
        case measure => simp [intOf]; omega
    · have C3 := dHide ((dUnhide C1).below (dUnhide HB))
      have D3 := dHide ((dUnhide D1).trans (Drawn.of_below (dUnhide HB)))
      have HA := dUnhide HA
      go_wp2
      go_ret
      first | exact ⟨⟨_, zs, rfl, dUnhide HO, by omega, HA⟩, dUnhide C3, dUnhide D3⟩ | exact ⟨⟨_, rfl, zs, dUnhide HO, by omega, HA⟩, dUnhide C3, dUnhide D3⟩
end Go.Proofs.YtfipenjojgflmaaDoor
