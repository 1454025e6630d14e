/- Records as bytes: spec's ReaderPack. -/
import Derived.Test.YtioocibgfhgkhaaGreatDoorHp1
import Derived.Deep.RegionHeld3
import Derived.Deep.DeepCutAuto
namespace Go.Proofs.YtioocibgfhgkhaaGreatDoor
open Go.ChangeShapes Go.WideShapes Go.ChangeAt Go.RowKit
set_option linter.unusedVariables false
set_option linter.unusedSimpArgs false
set_option maxRecDepth 100000

/-- The bytes of an event, and of a reader. -/
def evB (e : Ev) : List UInt8 := numB e.kind.toNat ++ numB e.pl.toNat ++ textB e.data.data.toList
def rdB (m : Rr) : List UInt8 := numB m.epoch.toNat ++ numB m.off.toNat ++ numB m.out.length ++ m.out.flatMap evB
open Classical in
/-- ReaderPack. -/
noncomputable def rdM (m : Rr) : List UInt8 × Bool := if rdPk m then (rdB m, true) else ([], false)
theorem rdM_yes {m : Rr} (h : rdPk m) : rdM m = (rdB m, true) := if_pos h
theorem rdM_no {m : Rr} (h : ¬ rdPk m) : rdM m = ([], false) := if_neg h
theorem evB_len {e : Ev} (h : evPk e) : (evB e).length ≤ 67 := by
  have h1 := numB_len e.kind.toNat
  have h2 := numB_len e.pl.toNat
  have h3 := numB_len e.data.data.toList.length
  have h4 : e.data.data.toList.length = e.data.size := by rw [← Lib.size_eq]
  have h5 := h.2.2
  unfold evB textB
  simp only [List.length_append]
  omega
theorem evsB_len (es : List Ev) (h : ∀ e ∈ es, evPk e) : (es.flatMap evB).length ≤ 67 * es.length := by
  induction es with
  | nil => simp
  | cons e es ih =>
    have h1 := evB_len (h e (by simp))
    have h2 := ih fun x hx => h x (by simp [hx])
    rw [List.flatMap_cons, List.length_append, List.length_cons]
    omega
theorem evsB_take (es : List Ev) (k : Nat) (h : k < es.length) : (es.take (k + 1)).flatMap evB = (es.take k).flatMap evB ++ evB es[k] := by
  rw [List.take_succ_eq_append_getElem h, List.flatMap_append, List.flatMap_cons, List.flatMap_nil, List.append_nil]
/-- A row of bytes is not a block whose first cell is an int. -/
theorem own_apart17 {w : World} {B b n : Nat} {v : Value} {bs : List UInt8} {x : Int} (h : w.ownsRow B 5 1 v n (bcells bs)) (hn : 0 < bs.length) (hc : w.cell? ⟨b, 0, none⟩ = some (.int .i64 x)) : v.ownBlock ≠ some b := by
  have e : n = bs.length := by have := h.1; simp [bcells] at this; omega
  obtain ⟨g, cap, rfl⟩ := own_some h (by omega)
  intro e2
  have e3 : g = b := by simpa [Value.ownBlock] using e2
  subst e3
  have h1 := h.cells rfl 0 (.int .u8 (bs[0].toNat : Int)) (by simp only [bcells, List.getElem?_map, List.getElem?_eq_getElem hn, Option.map_some])
  have h2 : (⟨g, 0, none⟩ : Addr).add 0 = ⟨g, 0, none⟩ := rfl
  rw [h2, hc] at h1
  simp at h1
end Go.Proofs.YtioocibgfhgkhaaGreatDoor
