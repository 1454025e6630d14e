/- impl's: the atomic pointer's methods. -/
import Derived.Test.YtfipenjojgflmaaDoorAtP
namespace Go.Proofs.YtfipenjojgflmaaDoor
open Go.ChangeShapes Go.WideShapes Go.ChangeAt Go.RowKit
set_option linter.unusedVariables false
set_option linter.unusedSimpArgs false
set_option maxRecDepth 100000

/-- Block b is a register's. -/
def Shp (w : World) (b : Nat) : Prop := w.shape? b = some (29, 2)
theorem sizeR : (Tryd.prog.info? 29).map (·.size) = some 2 := by kernel_rfl
theorem liesR : liesAt Tryd.prog Tryd.prog.depth 29 (2 / Tryd.prog.cellsOf 29) 0 29 1 = true := by kernel_rfl
theorem convTo (w : World) (b : Nat) (h : Shp w b) : (Go.convert 51 79 (.pointer (some ⟨b, 0, none⟩))).run Tryd.prog w = .ok (.pointer (some ⟨b, 0, none⟩)) w := by
  obtain ⟨i, hi, his⟩ := Option.map_eq_some_iff.1 sizeR
  have h1 : w.shape? b = some (29, 2) := h
  simp [Go.convert, run_underlying Tryd.underlying51, run_underlying Tryd.underlying79, Conv.unsafePointer, Conv.seenAt, viewAt, cellsIn, sizeOf, typeInfo, hi, his, h1, go_sem]
theorem convFrom (w : World) (b : Nat) (h : Shp w b) : (Go.convert 79 51 (.pointer (some ⟨b, 0, none⟩))).run Tryd.prog w = .ok (.pointer (some ⟨b, 0, none⟩)) w := by
  obtain ⟨i, hi, his⟩ := Option.map_eq_some_iff.1 sizeR
  have h1 : w.shape? b = some (29, 2) := h
  have h2 := liesR
  simp [Go.convert, run_underlying Tryd.underlying51, run_underlying Tryd.underlying79, Conv.unsafePointer, Conv.seenAt, viewAt, variablesAt, sizeOf, typeInfo, hi, his, h1, h2, go_sem]
theorem Shp.lt {w : World} {b : Nat} (h : Shp w b) : b < w.heap.size := by
  rcases Nat.lt_or_ge b w.heap.size with h1 | h1
  · exact h1
  · have : w.heap[b]? = none := by simp [h1]
    unfold Shp at h
    simp [World.shape?, this] at h
theorem Shp.of_block {w w' : World} {b : Nat} (h : Shp w b) (e : w'.heap[b]? = w.heap[b]?) : Shp w' b := by
  unfold Shp at *
  unfold World.shape? at *
  rw [e]
  exact h
theorem Shp.below {w w' : World} {b : Nat} (h : Shp w b) (hb : Below w.heap.size w w') : Shp w' b := h.of_block (hb.block b h.lt)
theorem Shp.new (w : World) (x y : Value) : Shp (w.alloc (.cells #[x, y] 29)) w.heap.size := by
  have := MapKept.heap_alloc w (.cells #[x, y] 29)
  unfold Shp World.shape?
  rw [this.1]
  rfl
theorem shape_setCell (w : World) (a : Addr) (u : Value) (b : Nat) : (w.setCell a u).shape? b = w.shape? b := by
  unfold World.shape? World.setCell
  simp only [Array.getElem?_modify]
  by_cases e : a.block = b
  · simp only [e, if_true]
    cases h : w.heap[b]? with
    | none => rfl
    | some o =>
      cases o with
      | cells c t f =>
        simp only [Option.map_some]
        split <;> simp
      | _ => rfl
  · simp [e]
theorem Shp.set {w : World} {b : Nat} {a : Addr} (h : Shp w b) (u : Value) : Shp (w.setCell a u) b := by
  unfold Shp at *
  rw [shape_setCell]
  exact h
theorem atStore (w : World) (b rb : Nat) (old : Value) (hc : w.cell? ⟨b, 0, none⟩ = some old) (hf : w.frozen? ⟨b, 0, none⟩ = false) (hR : Shp w rb) :
    Calls Tryd.prog 54 #[.pointer (some ⟨b, 0, none⟩), .pointer (some ⟨rb, 0, none⟩)] w fun e w' => e = .returned (.tuple #[]) ∧ w' = w.setCell ⟨b, 0, none⟩ (.pointer (some ⟨rb, 0, none⟩)) := by
  have h1 := convTo w rb hR
  have h2 := run_storeP w b old (some ⟨rb, 0, none⟩) hc hf
  go_enter Tryd.func54, Tryd.ntmps54
  go_wp2
  exact bodyPost_end (results_none rfl _ _ _) rfl ⟨rfl, rfl⟩
theorem atLoad (w : World) (b rb : Nat) (hc : w.cell? ⟨b, 0, none⟩ = some (.pointer (some ⟨rb, 0, none⟩))) (hR : Shp w rb) :
    Calls Tryd.prog 58 #[.pointer (some ⟨b, 0, none⟩)] w fun e w' => e = .returned (.pointer (some ⟨rb, 0, none⟩)) ∧ w' = w := by
  have h1 := convFrom w rb hR
  have h2 := run_loadP w b (some ⟨rb, 0, none⟩) hc
  go_enter Tryd.func58, Tryd.ntmps58
  go_wp2
  go_ret
  exact ⟨rfl, rfl⟩
theorem atCas (w : World) (b ra rn : Nat) (T : TypeId) (cs : Array Value) (hb : w.heap[b]? = some (.cells cs T (0, 0))) (hc : w.cell? ⟨b, 0, none⟩ = some (.pointer (some ⟨ra, 0, none⟩))) (hA : Shp w ra) (hN : Shp w rn) :
    Calls Tryd.prog 69 #[.pointer (some ⟨b, 0, none⟩), .pointer (some ⟨ra, 0, none⟩), .pointer (some ⟨rn, 0, none⟩)] w fun e w' => e = .returned (.bool true) ∧ w' = w.setCell ⟨b, 0, none⟩ (.pointer (some ⟨rn, 0, none⟩)) := by
  have h1 := convTo w ra hA
  have h3 := convTo w rn hN
  have h2 := run_casP w b ⟨ra, 0, none⟩ ⟨rn, 0, none⟩ T cs hb hc
  go_enter Tryd.func69, Tryd.ntmps69
  go_wp2
  go_ret
  exact ⟨rfl, rfl⟩
end Go.Proofs.YtfipenjojgflmaaDoor
