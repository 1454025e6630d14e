/- impl's EntryPack. -/
import Derived.Test.YtognmmmplmideaaImpCc
import Derived.Deep.RegionHeld3
namespace Go.Proofs.Ytognmmmplmideaa
open Go.ChangeShapes Go.WideShapes Go.ChangeAt Go.RowKit
set_option linter.unusedVariables false

/-- An array of bytes, as a row. -/
theorem room_own (w : World) (B : Nat) (cs : Array Value) (n : Nat) (T : TypeId) (hs : cs.size = n) (hn : n ≤ maxLen) (hB : B ≤ w.heap.size) : OwnX (w.alloc (.cells cs T)) B (.slice (some ⟨w.heap.size, 0, none⟩) 0 n) [] :=
  ⟨T, World.ownsRow_made w cs n hB hn (by omega)⟩
end Go.Proofs.Ytognmmmplmideaa
