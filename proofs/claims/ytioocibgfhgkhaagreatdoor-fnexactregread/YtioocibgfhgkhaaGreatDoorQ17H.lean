/- RegRead: both answers. -/
import Derived.Test.YtioocibgfhgkhaaGreatDoorPkP
import Derived.Test.YtioocibgfhgkhaaGreatDoorPvH
import Derived.Test.YtioocibgfhgkhaaGreatDoorOpenR
import Derived.Test.YtioocibgfhgkhaaGreatDoorSitY
namespace Go.Proofs.YtioocibgfhgkhaaGreatDoor
open Go.ChangeShapes Go.WideShapes Go.ChangeAt Go.RowKit
set_option linter.unusedVariables false
set_option linter.unusedSimpArgs false

theorem NAp.sitsG {w : World} {base : Nat} {a : Option Addr} {c : Nat} {m : Rg} (h : NAp w base (.slice a m.eras.length c) m.eras) : Sits (OwRegister base w.heap.size (.agg #[.slice a m.eras.length c, .int .i64 m.trim]) m) base w.heap.size w := (OwK.sits h.ow (Nat.le_refl _)).imp fun W hW => ⟨_, rfl, hW⟩
theorem rgR_cnt (ds : List Int) (cop : Int) (bs : List UInt8) (hl : bs.length ≤ 1048576) : cntRegister (rgR ds cop bs).1 ≤ 16777216 := by
  by_cases h : endB bs (rgRd bs).2.1 (rgRd bs).2.2 = true ∧ regP ds cop (rgRm bs)
  · rw [rgR_yes ds cop bs h]
    have h1 : (rgRd bs).2.2 = true := by
      have := h.1
      unfold endB at this
      rw [Bool.and_eq_true] at this
      exact this.1
    have h2 := rgRm_siz bs h1
    unfold sizRegister sizEraS at h2
    show cntRegister (rgRm bs) ≤ 16777216
    unfold cntRegister cntEraS
    omega
  · rw [rgR_no ds cop bs h]
    simp [cntRegister, cntEraS, sumN]
theorem bothRegRead_ (m0 : List Int × Int) (m1 : List UInt8) (ok0 : okConfig m0) (ok1 : okByteS m1) (hs0 : sizConfig m0 ≤ 1048576) (hs1 : sizByteS m1 ≤ 1048576) (w : World) (hS : Hnd w) : ∃ (R : Rg) (s1 : Bool), cntRegister R ≤ 16777216 ∧ (∀ W v0 v1, RdConfig v0 m0 W → RdByteS v1 m1 W → Calls Tryz.prog 6 #[v0, v1] W fun e w' => ∃ u, e = .returned (.tuple #[u, .bool s1]) ∧ Sits (OwRegister W.heap.size w'.heap.size u R) W.heap.size w'.heap.size w' ∧ Below W.heap.size W w') ∧ (∀ W, Below w.heap.size w W → ∀ v0 v1, RdConfig v0 m0 W → RdByteS v1 m1 W → Calls Tryz.prog 9 #[v0, v1] W fun e w' => ∃ u, e = .returned (.tuple #[u, .bool s1]) ∧ Sits (OwRegister W.heap.size w'.heap.size u R) W.heap.size w'.heap.size w' ∧ Below W.heap.size W w') := by
  refine ⟨(rgR m0.1 m0.2 m1).1, (rgR m0.1 m0.2 m1).2, rgR_cnt _ _ _ hs1, fun W v0 v1 h0 h1 => ?_, fun W hW v0 v1 h0 h1 => ?_⟩
  · refine (specRegRead_any v0 v1 m0 m1 W h0 h1 hs1).mono ?_
    rintro e w' ⟨⟨a, c, rfl, hO⟩, hB⟩
    exact ⟨_, rfl, hO.sitsG, hB⟩
  · refine (implRegRead_any v0 v1 m0 m1 W (hS.below hW (Nat.le_refl _)) h0 ok0 hs0 h1 hs1).mono ?_
    rintro e w' ⟨⟨a, c, rfl, hO⟩, hB⟩
    exact ⟨_, rfl, hO.sitsG, hB⟩
end Go.Proofs.YtioocibgfhgkhaaGreatDoor
