/- spec's MendAck (printed by tools/mkmni.py). -/
import Derived.Test.YtjbfpmackocgnaaGreatMnB
import Derived.Test.YtjbfpmackocgnaaGreatMnC
import Derived.Test.YtjbfpmackocgnaaGreatMnH
import Derived.Test.YtjbfpmackocgnaaGreatPutO
import Derived.Deep.RegionHeld3
import Derived.Deep.DeepCutAuto
namespace Go.Proofs.YtjbfpmackocgnaaGreat
open Go.ChangeShapes Go.WideShapes Go.ChangeAt Go.RowKit
set_option linter.unusedVariables false
set_option linter.unusedSimpArgs false
set_option maxRecDepth 100000

/-- Nothing. -/
def zeroMn : Mn := ⟨0, 0, [], [], false, []⟩
theorem OwMend.zero (lo hi : Nat) (W : World) : OwMend lo hi (.agg #[.int .i64 0, .int .i64 0, .slice none 0 0, .slice none 0 0, .bool false, .slice none 0 0]) zeroMn W :=
  ⟨.slice none 0 0, .slice none 0 0, .slice none 0 0, [], rfl, rfl, ⟨⟨by simp [zeroMn], none, 0, rfl, by simp [zeroMn], .inl rfl⟩, .inl rfl⟩, ⟨OwnRw.nil _ _ _ _ (by simp), .inl rfl⟩, ⟨OwnRw.nil _ _ _ _ (by simp), .inl rfl, (fun p hp => by cases hp), (fun i j hi => by simp at hi), fun i hi => by simp at hi⟩, .inl rfl, .inl rfl, .inl rfl⟩
end Go.Proofs.YtjbfpmackocgnaaGreat
