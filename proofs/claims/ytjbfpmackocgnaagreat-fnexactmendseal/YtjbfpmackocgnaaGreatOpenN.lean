/- Lists of entries among a law's arguments. -/
import Derived.Test.YtjbfpmackocgnaaGreatOpenM
namespace Go.Proofs.YtjbfpmackocgnaaGreat
open Go.ChangeShapes Go.WideShapes Go.ChangeAt Go.RowKit
set_option linter.unusedVariables false
set_option maxRecDepth 100000
variable {H : Type} {enc : TypeId × Value → H} {W : World} {r : Reach} {b0 base : Nat} {held : Bool} {v : Value} {d : DataW H} {p : List MemPlace}

def okEntryS (m : List Ent) : Prop := fitE m
def IsEntryS (v : Value) (m : List Ent) (w : World) : Prop := RdEntryS v m w ∧ okEntryS m
theorem txtES_of {m : List Ent} (h : okEntryS m) : txtE m := fun e he => (h e he).2.2.2.2
theorem open_SEntry (hv : Value.okWide Tryz.prog W r b0 52 v) (h : DataW.Trod enc Tryz.prog W base (fun _ => true) held 52 v d p) : ∃ m : List Ent, IsEntryS v m W := by
  obtain ⟨a0, len0, cap0, rfl⟩ := okWide_slice Tryz.underlying52 hv
  obtain ⟨fuel, hf⟩ := h
  obtain ⟨sv, bs, hcs, h1, h2⟩ := ents_read hf
  simp [Value.cells] at hcs
  subst hcs
  exact ⟨bs, h1, h2⟩
end Go.Proofs.YtjbfpmackocgnaaGreat
