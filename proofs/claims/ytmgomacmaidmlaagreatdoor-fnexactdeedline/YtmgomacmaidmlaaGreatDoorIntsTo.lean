/- The laws' own helper toIntS: a copy of a slice of bytes in new memory. -/
import Derived.Test.YtmgomacmaidmlaaGreatDoorIntsP
import Derived.Laws.MakeOwn
import Derived.OwnWalk
namespace Go.Proofs.YtmgomacmaidmlaaGreatDoor
open Go.ChangeShapes Go.WideShapes Go.ChangeAt Go.RowKit
set_option linter.unusedVariables false

theorem infoN : (Tryz.prog.info? 3).map (fun i => (i.zero, i.size, i.bytes)) = some (some (.int .i64 0), 1, 8) := by kernel_rfl
/-- n noughts. -/
def zerosN (n : Nat) : Array Value := madeCells (Value.int .i64 0).cells n
theorem zerosN_size (n : Nat) : (zerosN n).size = n := by simp [zerosN, size_madeCells]
theorem zerosN_at (n i : Nat) (h : i < n) : (zerosN n)[i]? = some (.int .i64 0) := by
  simp [zerosN, madeCells, h, Nat.mod_one, Value.cells]
theorem makeN (n : Nat) (h : n ≤ 1099511627776) (w : World) : (Instr.makeSlice 33 (.int .i64 (n : Int)) (.int .i64 (n : Int))).run Tryz.prog w = .ok (.slice (some ⟨w.heap.size, 0, none⟩) n n) (w.alloc (.cells (zerosN n) 3)) := by
  obtain ⟨i0, hi, hz0, hz1, hz2⟩ := info_parts infoN
  have := run_make (P := Tryz.prog) w 33 3 i0 (.int .i64 0) Tryz.underlying33 hi hz0 .i64 .i64 (n : Int) (n : Int) (by omega) (by omega) (by rw [hz2]; omega) (by omega)
  rw [hz1] at this
  simpa [zerosN] using this
/-- Where toIntS stands: k bytes are copied into block g. -/
def CopyInvN (w wr : World) (g k : Nat) (bs : List Int) : Prop :=
  (∀ i (h : i < bs.length), ∃ c : Int, wr.cell? ⟨g, i, none⟩ = some (.int .i64 c) ∧ (i < k → c = bs[i]) ∧ wr.frozen? ⟨g, i, none⟩ = false) ∧ k ≤ bs.length ∧ Below w.heap.size w wr ∧ w.heap.size ≤ g ∧ g < wr.heap.size
theorem CopyInvN.start {w : World} {bs : List Int} : CopyInvN w (w.alloc (.cells (zerosN bs.length) 3)) w.heap.size 0 bs := by
  refine ⟨fun i hi => ⟨0, ?_, fun h => by omega, ?_⟩, Nat.zero_le _, (Below.refl _ _).alloc (Nat.le_refl _) _, Nat.le_refl _, by simp⟩
  · have := MapKept.heap_alloc w (.cells (zerosN bs.length) 3)
    simp only [World.cell?, this.1]
    exact zerosN_at _ _ hi
  · have := MapKept.heap_alloc w (.cells (zerosN bs.length) 3)
    simp only [World.frozen?, this.1]
    simp
theorem CopyInvN.now {w wr : World} {g k : Nat} {bs : List Int} (h : Hid (CopyInvN w wr g k bs)) (hk : k < bs.length) : (∃ c : Int, wr.cell? ⟨g, k, none⟩ = some (.int .i64 c)) ∧ wr.frozen? ⟨g, k, none⟩ = false := by
  obtain ⟨c, h1, -, h3⟩ := h.1 k hk
  exact ⟨⟨c, h1⟩, h3⟩
theorem CopyInvN.step {w wr : World} {g k : Nat} {bs : List Int} (h : Hid (CopyInvN w wr g k bs)) (hk : k < bs.length) {x : Int} (hx : x = bs[k]) : CopyInvN w (wr.setCell ⟨g, k, none⟩ (.int .i64 x)) g (k + 1) bs := by
  obtain ⟨h1, h2, h3, h4, h5⟩ := h
  refine ⟨fun i hi => ?_, hk, h3.setCell h4 _, h4, by simpa using h5⟩
  obtain ⟨c, c1, c2, c3⟩ := h1 i hi
  by_cases e : i = k
  · subst e
    exact ⟨x, World.cell?_setCell_same _ _ _ c1, fun _ => hx, (World.frozen?_setCell _ _ _ _).trans c3⟩
  · exact ⟨c, set_other c1 (by omega), fun hi' => c2 (by omega), (World.frozen?_setCell _ _ _ _).trans c3⟩
theorem CopyInvN.done {w wr : World} {g : Nat} {bs : List Int} (h : Hid (CopyInvN w wr g bs.length bs)) (h0 : bs.length ≤ 9223372036854775807) : OwnN wr w.heap.size (.slice (some ⟨g, 0, none⟩) bs.length bs.length) bs := by
  obtain ⟨h1, h2, h3, h4, h5⟩ := h
  refine ⟨h0, some ⟨g, 0, none⟩, _, rfl, ⟨Nat.le_refl _, h0⟩, .inr ⟨g, 0, rfl, h4, fun i hi => ?_⟩⟩
  obtain ⟨c, c1, c2, c3⟩ := h1 i hi
  rw [← c2 hi, Nat.zero_add]
  exact ⟨c1, c3⟩
end Go.Proofs.YtmgomacmaidmlaaGreatDoor
