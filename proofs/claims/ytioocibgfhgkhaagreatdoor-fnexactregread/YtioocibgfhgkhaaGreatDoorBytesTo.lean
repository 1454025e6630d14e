/- The laws' own helper toByteS: a copy of a slice of bytes in new memory. -/
import Derived.Test.YtioocibgfhgkhaaGreatDoorGaA
import Derived.Laws.MakeOwn
import Derived.OwnWalk
namespace Go.Proofs.YtioocibgfhgkhaaGreatDoor
open Go.ChangeShapes Go.WideShapes Go.ChangeAt Go.RowKit
set_option linter.unusedVariables false

theorem info8 : (Tryz.prog.info? 5).map (fun i => (i.zero, i.size, i.bytes)) = some (some (.int .u8 0), 1, 1) := by kernel_rfl
/-- n noughts. -/
def zeros8 (n : Nat) : Array Value := madeCells (Value.int .u8 0).cells n
theorem zeros8_size (n : Nat) : (zeros8 n).size = n := by simp [zeros8, size_madeCells]
theorem zeros8_at (n i : Nat) (h : i < n) : (zeros8 n)[i]? = some (.int .u8 0) := by
  simp [zeros8, madeCells, h, Nat.mod_one, Value.cells]
theorem make8 (n : Nat) (h : n ≤ 1099511627776) (w : World) : (Instr.makeSlice 25 (.int .i64 (n : Int)) (.int .i64 (n : Int))).run Tryz.prog w = .ok (.slice (some ⟨w.heap.size, 0, none⟩) n n) (w.alloc (.cells (zeros8 n) 5)) := by
  obtain ⟨i0, hi, hz0, hz1, hz2⟩ := info_parts info8
  have := run_make (P := Tryz.prog) w 25 5 i0 (.int .u8 0) Tryz.underlying25 hi hz0 .i64 .i64 (n : Int) (n : Int) (by omega) (by omega) (by rw [hz2]; omega) (by omega)
  rw [hz1] at this
  simpa [zeros8] using this
/-- Where toByteS stands: k bytes are copied into block g. -/
def CopyInv (w wr : World) (g k : Nat) (bs : List UInt8) : Prop :=
  (∀ i (h : i < bs.length), ∃ c : Int, wr.cell? ⟨g, i, none⟩ = some (.int .u8 c) ∧ (i < k → c = (bs[i].toNat : Int)) ∧ wr.frozen? ⟨g, i, none⟩ = false) ∧ k ≤ bs.length ∧ Below w.heap.size w wr ∧ w.heap.size ≤ g ∧ g < wr.heap.size
theorem CopyInv.start {w : World} {bs : List UInt8} : CopyInv w (w.alloc (.cells (zeros8 bs.length) 5)) w.heap.size 0 bs := by
  refine ⟨fun i hi => ⟨0, ?_, fun h => by omega, ?_⟩, Nat.zero_le _, (Below.refl _ _).alloc (Nat.le_refl _) _, Nat.le_refl _, by simp⟩
  · have := MapKept.heap_alloc w (.cells (zeros8 bs.length) 5)
    simp only [World.cell?, this.1]
    exact zeros8_at _ _ hi
  · have := MapKept.heap_alloc w (.cells (zeros8 bs.length) 5)
    simp only [World.frozen?, this.1]
    simp
theorem CopyInv.now {w wr : World} {g k : Nat} {bs : List UInt8} (h : Hid (CopyInv w wr g k bs)) (hk : k < bs.length) : (∃ c : Int, wr.cell? ⟨g, k, none⟩ = some (.int .u8 c)) ∧ wr.frozen? ⟨g, k, none⟩ = false := by
  obtain ⟨c, h1, -, h3⟩ := h.1 k hk
  exact ⟨⟨c, h1⟩, h3⟩
theorem CopyInv.step {w wr : World} {g k : Nat} {bs : List UInt8} (h : Hid (CopyInv w wr g k bs)) (hk : k < bs.length) {x : Int} (hx : x = (bs[k].toNat : Int)) : CopyInv w (wr.setCell ⟨g, k, none⟩ (.int .u8 x)) g (k + 1) bs := by
  obtain ⟨h1, h2, h3, h4, h5⟩ := h
  refine ⟨fun i hi => ?_, hk, h3.setCell h4 _, h4, by simpa using h5⟩
  obtain ⟨c, c1, c2, c3⟩ := h1 i hi
  by_cases e : i = k
  · subst e
    exact ⟨x, World.cell?_setCell_same _ _ _ c1, fun _ => hx, (World.frozen?_setCell _ _ _ _).trans c3⟩
  · exact ⟨c, set_other c1 (by omega), fun hi' => c2 (by omega), (World.frozen?_setCell _ _ _ _).trans c3⟩
theorem CopyInv.done {w wr : World} {g : Nat} {bs : List UInt8} (h : Hid (CopyInv w wr g bs.length bs)) (h0 : bs.length ≤ 9223372036854775807) : OwnB wr w.heap.size (.slice (some ⟨g, 0, none⟩) bs.length bs.length) bs := by
  obtain ⟨h1, h2, h3, h4, h5⟩ := h
  refine ⟨h0, some ⟨g, 0, none⟩, _, rfl, ⟨Nat.le_refl _, h0⟩, .inr ⟨g, 0, rfl, h4, fun i hi => ?_⟩⟩
  obtain ⟨c, c1, c2, c3⟩ := h1 i hi
  rw [← c2 hi, Nat.zero_add]
  exact ⟨c1, c3⟩
set_option maxHeartbeats 1000000 in
theorem toByteS_any (v : Value) (bs : List UInt8) (w : World) (hl : bs.length ≤ 1099511627776) (hv : Bs w v bs) :
    Calls Tryz.prog 8 #[v] w fun e w' => (∃ u, e = .returned u ∧ OwnB w' w.heap.size u bs) ∧ Below w.heap.size w w' := by
  obtain ⟨h0, a, cap, rfl, -, hv⟩ := hv
  have HV := dHide hv
  have hmk := make8 bs.length hl
  clear hv
  go_enter Tryz.func8, Tryz.ntmps8
  go_wp2
  go_loopw [4] (fun x wr => ∃ k : Nat, x = .int .i64 (k : Int) ∧ k ≤ bs.length ∧ Hid (CopyInv w wr w.heap.size k bs)) (fun x _ => bs.length - (intOf x).toNat)
  case atStart => exact ⟨0, rfl, Nat.zero_le _, CopyInv.start⟩
  case round =>
    obtain ⟨k, rfl, hk, hinv⟩ := hrel
    by_cases hlt : (k : Int) < (bs.length : Int)
    · obtain ⟨b, off, rfl, hc⟩ : ∃ b off, a = some ⟨b, off, none⟩ ∧ ∀ i (h : i < bs.length), w.cell? ⟨b, off + i, none⟩ = some (.int .u8 (bs[i].toNat : Int)) :=
        or_of_lt (dUnhide HV) (k := k) (by omega)
      have c0 := hc k (by omega)
      have c1 : wr.cell? ⟨b, off + k, none⟩ = some (.int .u8 (bs[k].toNat : Int)) := ((dUnhide hinv).2.2.1.cell (p := ⟨b, off + k, none⟩) (dCell_lt c0)).trans c0
      have hst : Hid (∀ x, x = (bs[k].toNat : Int) → CopyInv w (wr.setCell ⟨w.heap.size, k, none⟩ (.int .u8 x)) w.heap.size (k + 1) bs) := fun x hx => CopyInv.step hinv (by omega) hx
      obtain ⟨⟨c, c2⟩, f2⟩ := CopyInv.now hinv (show k < bs.length by omega)
      generalize bs[k] = y at *
      clear hc HV c0 hinv
      go_wp2
      go_roundw
      case rel => exact ⟨k + 1, by go_num, by omega, dUnhide hst _ rfl⟩
      case measure => simp [intOf]; omega
    · obtain rfl : k = bs.length := by omega
      go_wp2
      go_ret
      exact ⟨⟨_, rfl, CopyInv.done hinv h0⟩, (dUnhide hinv).2.2.1⟩
end Go.Proofs.YtioocibgfhgkhaaGreatDoor
