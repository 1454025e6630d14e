/- The laws' own helper toByteS: a copy of a slice of bytes in new memory. -/
import Derived.Test.YthndkkjgjhgdnaaDoorGaA
import Derived.Laws.MakeOwn
import Derived.OwnWalk
namespace Go.Proofs.YthndkkjgjhgdnaaDoor
open Go.ChangeShapes Go.WideShapes Go.ChangeAt Go.RowKit
set_option linter.unusedVariables false

theorem info8 : (Tryd.prog.info? 5).map (fun i => (i.zero, i.size, i.bytes)) = some (some (.int .u8 0), 1, 1) := by kernel_rfl
/-- n noughts. -/
def zeros8 (n : Nat) : Array Value := madeCells (Value.int .u8 0).cells n
theorem zeros8_size (n : Nat) : (zeros8 n).size = n := by simp [zeros8, size_madeCells]
theorem zeros8_at (n i : Nat) (h : i < n) : (zeros8 n)[i]? = some (.int .u8 0) := by
  simp [zeros8, madeCells, h, Nat.mod_one, Value.cells]
theorem make8 (n : Nat) (h : n ≤ 1099511627776) (w : World) : (Instr.makeSlice 22 (.int .i64 (n : Int)) (.int .i64 (n : Int))).run Tryd.prog w = .ok (.slice (some ⟨w.heap.size, 0, none⟩) n n) (w.alloc (.cells (zeros8 n) 5)) := by
  obtain ⟨i0, hi, hz0, hz1, hz2⟩ := info_parts info8
  have := run_make (P := Tryd.prog) w 22 5 i0 (.int .u8 0) Tryd.underlying22 hi hz0 .i64 .i64 (n : Int) (n : Int) (by omega) (by omega) (by rw [hz2]; omega) (by omega)
  rw [hz1] at this
  simpa [zeros8] using this
/-- Where toByteS stands: k bytes are copied into block g. -/
def CopyInv (w wr : World) (g k : Nat) (bs : List UInt8) : Prop :=
  (∀ i (h : i < bs.length), ∃ c : Int, wr.cell? ⟨g, i, none⟩ = some (.int .u8 c) ∧ (i < k → c = (bs[i].toNat : Int)) ∧ wr.frozen? ⟨g, i, none⟩ = false) ∧ k ≤ bs.length ∧ Below w.heap.size w wr ∧ w.heap.size ≤ g ∧ g < wr.heap.size
theorem CopyInv.start {w : World} {bs : List UInt8} : CopyInv w (w.alloc (.cells (zeros8 bs.length) 5)) w.heap.size 0 bs := by
  refine ⟨fun i hi => ⟨0, ?_, fun h => by omega, ?_⟩, Nat.zero_le _, (Below.refl _ _).alloc (Nat.le_refl _) _, Nat.le_refl _, by simp⟩
  · have := MapKept.heap_alloc w (.cells (zeros8 bs.length) 5)
    simp only [World.cell?, this.1]
    exact zeros8_at _ _ hi
  · have := MapKept.heap_alloc w (.cells (zeros8 bs.length) 5)
    simp only [World.frozen?, this.1]
    simp
theorem CopyInv.now {w wr : World} {g k : Nat} {bs : List UInt8} (h : Hid (CopyInv w wr g k bs)) (hk : k < bs.length) : (∃ c : Int, wr.cell? ⟨g, k, none⟩ = some (.int .u8 c)) ∧ wr.frozen? ⟨g, k, none⟩ = false := by
  obtain ⟨c, h1, -, h3⟩ := h.1 k hk
  exact ⟨⟨c, h1⟩, h3⟩
theorem CopyInv.step {w wr : World} {g k : Nat} {bs : List UInt8} (h : Hid (CopyInv w wr g k bs)) (hk : k < bs.length) {x : Int} (hx : x = (bs[k].toNat : Int)) : CopyInv w (wr.setCell ⟨g, k, none⟩ (.int .u8 x)) g (k + 1) bs := by
  obtain ⟨h1, h2, h3, h4, h5⟩ := h
  refine ⟨fun i hi => ?_, hk, h3.setCell h4 _, h4, by simpa using h5⟩
  obtain ⟨c, c1, c2, c3⟩ := h1 i hi
  by_cases e : i = k
  · subst e
    exact ⟨x, World.cell?_setCell_same _ _ _ c1, fun _ => hx, (World.frozen?_setCell _ _ _ _).trans c3⟩
  · exact ⟨c, set_other c1 (by omega), fun hi' => c2 (by omega), (World.frozen?_setCell _ _ _ _).trans c3⟩
theorem CopyInv.done {w wr : World} {g : Nat} {bs : List UInt8} (h : Hid (CopyInv w wr g bs.length bs)) (h0 : bs.length ≤ 9223372036854775807) : OwnB wr w.heap.size (.slice (some ⟨g, 0, none⟩) bs.length bs.length) bs := by
  obtain ⟨h1, h2, h3, h4, h5⟩ := h
  refine ⟨h0, some ⟨g, 0, none⟩, _, rfl, ⟨Nat.le_refl _, h0⟩, .inr ⟨g, 0, rfl, h4, fun i hi => ?_⟩⟩
  obtain ⟨c, c1, c2, c3⟩ := h1 i hi
  rw [← c2 hi, Nat.zero_add]
  exact ⟨c1, c3⟩
end Go.Proofs.YthndkkjgjhgdnaaDoor
