/- ConfigRead: both answers. -/
import Derived.Test.YtioocibgfhgkhaaDoorPvD
import Derived.Test.YtioocibgfhgkhaaDoorGaD
import Derived.Test.YtioocibgfhgkhaaDoorSitY
import Derived.Test.YtioocibgfhgkhaaDoorGaB
namespace Go.Proofs.YtioocibgfhgkhaaDoor
open Go.ChangeShapes Go.WideShapes Go.ChangeAt Go.RowKit
set_option linter.unusedVariables false
set_option linter.unusedSimpArgs false

theorem OwnN.sitsC {w : World} {base : Nat} {v : Value} {xs : List Int} {c : Int} (h : OwnN w base v xs) : Sits (OwConfig base w.heap.size (.agg #[v, .int .i64 c]) (xs, c)) base w.heap.size w := h.sits.imp fun W hW => ⟨v, rfl, hW⟩
theorem cfgR_len (bs : List UInt8) (hl : bs.length ≤ 1048576) : (cfgR bs).1.length ≤ 1048576 := by
  by_cases h : endB bs (rdN bs (rdL bs 0 true).2.1 (rdL bs 0 true).2.2).2.1 (rdN bs (rdL bs 0 true).2.1 (rdL bs 0 true).2.2).2.2 = true ∧ cfgP (rdL bs 0 true).1 (rdN bs (rdL bs 0 true).2.1 (rdL bs 0 true).2.2).1
  · rw [cfgR_yes bs h]
    have := h.2.1.2
    simp only
    omega
  · rw [cfgR_no bs h]
    simp
theorem bothConfigRead_ (m0 : List UInt8) (ok0 : okByteS m0) (hs0 : sizByteS m0 ≤ 1048576) (w : World) (hS : Hnd w) : ∃ (R : List Int × Int) (s1 : Bool), cntConfig R ≤ 16777216 ∧ (∀ W v0, RdByteS v0 m0 W → Calls Tryd.prog 5 #[v0] W fun e w' => ∃ u, e = .returned (.tuple #[u, .bool s1]) ∧ Sits (OwConfig W.heap.size w'.heap.size u R) W.heap.size w'.heap.size w' ∧ Below W.heap.size W w') ∧ (∀ W, Below w.heap.size w W → ∀ v0, RdByteS v0 m0 W → Calls Tryd.prog 7 #[v0] W fun e w' => ∃ u, e = .returned (.tuple #[u, .bool s1]) ∧ Sits (OwConfig W.heap.size w'.heap.size u R) W.heap.size w'.heap.size w' ∧ Below W.heap.size W w') := by
  refine ⟨((cfgR m0).1, (cfgR m0).2.1), (cfgR m0).2.2, ?_, fun W v0 h => ?_, fun W hW v0 h => ?_⟩
  · unfold cntConfig
    have := cfgR_len m0 hs0
    simp only
    omega
  · refine (specConfigRead_any v0 m0 W h hs0).mono ?_
    rintro e w' ⟨⟨u, rfl, hO⟩, hB⟩
    exact ⟨_, rfl, hO.sitsC, hB⟩
  · refine (implConfigRead_any v0 m0 W (hS.below hW (Nat.le_refl _)) h hs0).mono ?_
    rintro e w' ⟨⟨u, rfl, hO⟩, hB⟩
    exact ⟨_, rfl, hO.sitsC, hB⟩
end Go.Proofs.YtioocibgfhgkhaaDoor
