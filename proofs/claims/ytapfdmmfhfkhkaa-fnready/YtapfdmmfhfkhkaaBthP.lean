/- Those of a list that are in another one, too: spec's l9Both. -/
import Derived.Test.YtapfdmmfhfkhkaaGaC
namespace Go.Proofs.Ytapfdmmfhfkhkaa
open Go.ChangeShapes Go.WideShapes Go.ChangeAt Go.RowKit
set_option linter.unusedVariables false
set_option linter.unusedSimpArgs false
set_option maxRecDepth 100000

def bothL (xs set : List Int) : List Int := lessL xs (lessL xs set)
theorem bothL_len (xs set : List Int) : (bothL xs set).length ≤ xs.length := lessL_len _ _
set_option maxHeartbeats 1000000 in
theorem l9Both_any (u v : Value) (xs set : List Int) (w : World) (hu : Ns w u xs) (hv : Ns w v set) (hl : xs.length ≤ 1000000000) :
  Calls Try.prog 101 #[u, v] w fun e w' => (∃ o, e = .returned o ∧ OwnN w' w.heap.size o (bothL xs set)) ∧ Below w.heap.size w w' := by
 have C1 := dHide (l4Less_any u v xs set w hu hv hl)
 have C2 := dHide fun W (hb : Below w.heap.size w W) o (ho : Ns W o (lessL xs set)) => l4Less_any u o xs (lessL xs set) W (hu.below hb) ho hl
 clear hu hv
 go_enter Try.func101, Try.ntmps101
 go_wp2_with fail
 refine (dUnhide C1).mono ?_
 rintro e w1 ⟨⟨o1, rfl, R1⟩, b1⟩
 have C3 := dHide (dUnhide C2 w1 b1 o1 (ownN_of_row R1).bs)
 clear C1 C2 R1
 go_wp2_with fail
 refine (dUnhide C3).mono ?_
 rintro e w2 ⟨⟨o2, rfl, R2⟩, b2⟩
 have O2 := dHide ((ownN_of_row R2).mono b1.size)
 have B2 := belowThen b1 b2
 clear C3 R2
 go_wp2_with fail
 go_ret
 exact ⟨⟨_, rfl, dUnhide O2⟩, B2⟩
end Go.Proofs.Ytapfdmmfhfkhkaa
