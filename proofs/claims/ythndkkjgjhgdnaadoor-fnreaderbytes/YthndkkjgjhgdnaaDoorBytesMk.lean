/- The laws' own helpers markByteS and heldByteS: the one writes numbers that count up into a slice of bytes, the other finds them there. -/
import Derived.Test.YthndkkjgjhgdnaaDoorGaA
namespace Go.Proofs.YthndkkjgjhgdnaaDoor
open Go.ChangeShapes Go.WideShapes Go.ChangeAt Go.RowKit
set_option linter.unusedVariables false

/-- The marks from k on, n of them. -/
def marks (k n : Nat) : List UInt8 := (List.range n).map fun i => UInt8.ofNat (k + i)
theorem marks_len (k n : Nat) : (marks k n).length = n := by simp [marks]
theorem marks_at (k n i : Nat) (h : i < (marks k n).length) : (marks k n)[i] = UInt8.ofNat (k + i) := by simp [marks]
theorem mark_num (k : Nat) : ((UInt8.ofNat k).toNat : Int) = (k : Int) % 256 := by simp
theorem wrap_u8_nat (k : Int) : IntKind.u8.wrap k = k % 256 := by rw [IntKind.wrap_u8]
/-- Where markByteS stands: behind k marks. -/
def MarkInv (w wr : World) (b off k0 k : Nat) (bs : List UInt8) : Prop :=
  (∀ i, i < bs.length → ∃ c : Int, wr.cell? ⟨b, off + i, none⟩ = some (.int .u8 c) ∧ (i < k → c = ((k0 + i : Nat) : Int) % 256) ∧ wr.frozen? ⟨b, off + i, none⟩ = false) ∧ k ≤ bs.length ∧ Drawn b w wr ∧ (k = 0 → wr = w)
theorem MarkInv.start {w : World} {b off k0 : Nat} {bs : List UInt8} (hc : Hid (∀ i (h : i < bs.length), w.cell? ⟨b, off + i, none⟩ = some (.int .u8 (bs[i].toNat : Int)) ∧ w.frozen? ⟨b, off + i, none⟩ = false)) : MarkInv w w b off k0 0 bs :=
  ⟨fun i hi => ⟨_, (hc i hi).1, fun h => by omega, (hc i hi).2⟩, Nat.zero_le _, Drawn.refl _ _, fun _ => rfl⟩
theorem MarkInv.now {w wr : World} {b off k0 k : Nat} {bs : List UInt8} (h : Hid (MarkInv w wr b off k0 k bs)) (hk : k < bs.length) : (∃ c : Int, wr.cell? ⟨b, off + k, none⟩ = some (.int .u8 c)) ∧ wr.frozen? ⟨b, off + k, none⟩ = false := by
  obtain ⟨c, h1, -, h3⟩ := h.1 k hk
  exact ⟨⟨c, h1⟩, h3⟩
theorem MarkInv.step {w wr : World} {b off k0 k : Nat} {bs : List UInt8} (h : Hid (MarkInv w wr b off k0 k bs)) (hk : k < bs.length) {x : Int} (hx : x = ((k0 + k : Nat) : Int) % 256) : MarkInv w (wr.setCell ⟨b, off + k, none⟩ (.int .u8 x)) b off k0 (k + 1) bs := by
  obtain ⟨h1, h2, h3, -⟩ := h
  refine ⟨fun i hi => ?_, hk, h3.setCell _ _, fun h => by omega⟩
  obtain ⟨c, c1, c2, c3⟩ := h1 i hi
  by_cases e : i = k
  · subst e
    exact ⟨x, World.cell?_setCell_same _ _ _ c1, fun _ => hx, (World.frozen?_setCell _ _ _ _).trans c3⟩
  · exact ⟨c, set_other c1 (by omega), fun hi' => c2 (by omega), (World.frozen?_setCell _ _ _ _).trans c3⟩
theorem MarkInv.done {w wr : World} {b off k0 cap base : Nat} {bs : List UInt8} (h : Hid (MarkInv w wr b off k0 bs.length bs)) (h0 : bs.length ≤ 9223372036854775807) (hcap : bs.length ≤ cap ∧ cap ≤ 9223372036854775807) (hb : base ≤ b) : OwnB wr base (.slice (some ⟨b, off, none⟩) bs.length cap) (marks k0 bs.length) := by
  obtain ⟨h1, h2, h3, -⟩ := h
  refine ⟨by rw [marks_len]; exact h0, some ⟨b, off, none⟩, cap, by rw [marks_len], by rw [marks_len]; exact hcap, .inr ⟨b, off, rfl, hb, fun i hi => ?_⟩⟩
  have hi' : i < bs.length := by simpa [marks_len] using hi
  obtain ⟨c, c1, c2, c3⟩ := h1 i hi'
  rw [marks_at, mark_num, ← c2 hi']
  exact ⟨c1, c3⟩
end Go.Proofs.YthndkkjgjhgdnaaDoor
