/- Records as bytes: spec's RegPack. -/
import Derived.Test.YtioocibgfhgkhaaGreatDoorHp1
import Derived.Test.YtioocibgfhgkhaaGreatDoorPkH
import Derived.Test.YtioocibgfhgkhaaGreatDoorRgC
import Derived.Deep.RegionHeld3
import Derived.Deep.DeepCutAuto
namespace Go.Proofs.YtioocibgfhgkhaaGreatDoor
open Go.ChangeShapes Go.WideShapes Go.ChangeAt Go.RowKit
set_option linter.unusedVariables false
set_option linter.unusedSimpArgs false
set_option maxRecDepth 100000

/-- The bytes of an era, and of a register. -/
def erB (e : Er) : List UInt8 := lstB e.nodes ++ numB (bitN e.closed) ++ numB e.last.toNat
def rgB (m : Rg) : List UInt8 := numB m.trim.toNat ++ numB m.eras.length ++ m.eras.flatMap erB
open Classical in
/-- RegPack. -/
noncomputable def rgM (ds : List Int) (cop : Int) (m : Rg) : List UInt8 × Bool := if regP ds cop m then (rgB m, true) else ([], false)
theorem rgM_yes {ds : List Int} {cop : Int} {m : Rg} (h : regP ds cop m) : rgM ds cop m = (rgB m, true) := if_pos h
theorem rgM_no {ds : List Int} {cop : Int} {m : Rg} (h : ¬ regP ds cop m) : rgM ds cop m = ([], false) := if_neg h
theorem ersB_len (es : List Er) : (es.flatMap erB).length ≤ 9 * sumN es + 27 * es.length := by
  induction es with
  | nil => simp
  | cons e es ih =>
    have h1 := lstB_len e.nodes
    have h2 := numB_len (bitN e.closed)
    have h3 := numB_len e.last.toNat
    have h4 : sumN (e :: es) = e.nodes.length + sumN es := by simp [sumN]
    have h5 : (erB e).length ≤ 9 * e.nodes.length + 27 := by unfold erB; simp only [List.length_append]; omega
    rw [List.flatMap_cons, List.length_append, List.length_cons, h4]
    omega
theorem ersB_take (es : List Er) (k : Nat) (h : k < es.length) : (es.take (k + 1)).flatMap erB = (es.take k).flatMap erB ++ erB es[k] := by
  rw [List.take_succ_eq_append_getElem h, List.flatMap_append, List.flatMap_cons, List.flatMap_nil, List.append_nil]
theorem natI_holds {ds : List Int} {cop : Int} {xs : List Int} (h : holdsP ds cop xs) : natI xs := fun x hx => by
  obtain ⟨i, hi, rfl⟩ := List.getElem_of_mem hx
  have h1 := h.1.2 i hi
  have h2 := h.1.1.1
  omega
/-- A row of bytes is not a block whose first cell is no byte. -/
theorem own_apartV {w : World} {B b n : Nat} {v u : Value} {bs : List UInt8} (h : w.ownsRow B 5 1 v n (bcells bs)) (hn : 0 < bs.length) (hc : w.cell? ⟨b, 0, none⟩ = some u) (hu : ∀ z, u ≠ .int .u8 z) : v.ownBlock ≠ some b := by
  have e : n = bs.length := by have := h.1; simp [bcells] at this; omega
  obtain ⟨g, cap, rfl⟩ := own_some h (by omega)
  intro e2
  have e3 : g = b := by simpa [Value.ownBlock] using e2
  subst e3
  have h1 := h.cells rfl 0 (.int .u8 (bs[0].toNat : Int)) (by simp only [bcells, List.getElem?_map, List.getElem?_eq_getElem hn, Option.map_some])
  have h2 : (⟨g, 0, none⟩ : Addr).add 0 = ⟨g, 0, none⟩ := rfl
  rw [h2, hc] at h1
  exact hu _ (Option.some.inj h1)
end Go.Proofs.YtioocibgfhgkhaaGreatDoor
