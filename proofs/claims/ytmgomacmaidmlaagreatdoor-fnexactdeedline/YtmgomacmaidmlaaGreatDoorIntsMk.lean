/- The laws' own helpers markIntS and heldIntS: the one writes numbers that count up into a slice of bytes, the other finds them there. -/
import Derived.Test.YtmgomacmaidmlaaGreatDoorIntsP
namespace Go.Proofs.YtmgomacmaidmlaaGreatDoor
open Go.ChangeShapes Go.WideShapes Go.ChangeAt Go.RowKit
set_option linter.unusedVariables false

/-- The marksN from k on, n of them. -/
def marksN (k n : Nat) : List Int := (List.range n).map fun i => ((k + i : Nat) : Int)
theorem marksN_len (k n : Nat) : (marksN k n).length = n := by simp [marksN]
theorem marksN_at (k n i : Nat) (h : i < (marksN k n).length) : (marksN k n)[i] = ((k + i : Nat) : Int) := by simp [marksN]
/-- Where markIntS stands: behind k marksN. -/
def MarkInvN (w wr : World) (b off k0 k : Nat) (bs : List Int) : Prop :=
  (∀ i, i < bs.length → ∃ c : Int, wr.cell? ⟨b, off + i, none⟩ = some (.int .i64 c) ∧ (i < k → c = ((k0 + i : Nat) : Int)) ∧ wr.frozen? ⟨b, off + i, none⟩ = false) ∧ k ≤ bs.length ∧ Drawn b w wr ∧ (k = 0 → wr = w)
theorem MarkInvN.start {w : World} {b off k0 : Nat} {bs : List Int} (hc : Hid (∀ i (h : i < bs.length), w.cell? ⟨b, off + i, none⟩ = some (.int .i64 bs[i]) ∧ w.frozen? ⟨b, off + i, none⟩ = false)) : MarkInvN w w b off k0 0 bs :=
  ⟨fun i hi => ⟨_, (hc i hi).1, fun h => by omega, (hc i hi).2⟩, Nat.zero_le _, Drawn.refl _ _, fun _ => rfl⟩
theorem MarkInvN.now {w wr : World} {b off k0 k : Nat} {bs : List Int} (h : Hid (MarkInvN w wr b off k0 k bs)) (hk : k < bs.length) : (∃ c : Int, wr.cell? ⟨b, off + k, none⟩ = some (.int .i64 c)) ∧ wr.frozen? ⟨b, off + k, none⟩ = false := by
  obtain ⟨c, h1, -, h3⟩ := h.1 k hk
  exact ⟨⟨c, h1⟩, h3⟩
theorem MarkInvN.step {w wr : World} {b off k0 k : Nat} {bs : List Int} (h : Hid (MarkInvN w wr b off k0 k bs)) (hk : k < bs.length) {x : Int} (hx : x = ((k0 + k : Nat) : Int)) : MarkInvN w (wr.setCell ⟨b, off + k, none⟩ (.int .i64 x)) b off k0 (k + 1) bs := by
  obtain ⟨h1, h2, h3, -⟩ := h
  refine ⟨fun i hi => ?_, hk, h3.setCell _ _, fun h => by omega⟩
  obtain ⟨c, c1, c2, c3⟩ := h1 i hi
  by_cases e : i = k
  · subst e
    exact ⟨x, World.cell?_setCell_same _ _ _ c1, fun _ => hx, (World.frozen?_setCell _ _ _ _).trans c3⟩
  · exact ⟨c, set_other c1 (by omega), fun hi' => c2 (by omega), (World.frozen?_setCell _ _ _ _).trans c3⟩
theorem MarkInvN.done {w wr : World} {b off k0 cap base : Nat} {bs : List Int} (h : Hid (MarkInvN w wr b off k0 bs.length bs)) (h0 : bs.length ≤ 9223372036854775807) (hcap : bs.length ≤ cap ∧ cap ≤ 9223372036854775807) (hb : base ≤ b) : OwnN wr base (.slice (some ⟨b, off, none⟩) bs.length cap) (marksN k0 bs.length) := by
  obtain ⟨h1, h2, h3, -⟩ := h
  refine ⟨by rw [marksN_len]; exact h0, some ⟨b, off, none⟩, cap, by rw [marksN_len], by rw [marksN_len]; exact hcap, .inr ⟨b, off, rfl, hb, fun i hi => ?_⟩⟩
  have hi' : i < bs.length := by simpa [marksN_len] using hi
  obtain ⟨c, c1, c2, c3⟩ := h1 i hi'
  rw [marksN_at, ← c2 hi']
  exact ⟨c1, c3⟩
end Go.Proofs.YtmgomacmaidmlaaGreatDoor
