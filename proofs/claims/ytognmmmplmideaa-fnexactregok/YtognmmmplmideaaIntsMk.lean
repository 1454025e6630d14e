/- The laws' own helpers markIntS and heldIntS: the one writes numbers that count up into a slice of bytes, the other finds them there. -/
import Derived.Test.YtognmmmplmideaaIntsP
namespace Go.Proofs.Ytognmmmplmideaa
open Go.ChangeShapes Go.WideShapes Go.ChangeAt Go.RowKit
set_option linter.unusedVariables false

/-- The marksN from k on, n of them. -/
def marksN (k n : Nat) : List Int := (List.range n).map fun i => ((k + i : Nat) : Int)
theorem marksN_len (k n : Nat) : (marksN k n).length = n := by simp [marksN]
theorem marksN_at (k n i : Nat) (h : i < (marksN k n).length) : (marksN k n)[i] = ((k + i : Nat) : Int) := by simp [marksN]
/-- Where markIntS stands: behind k marksN. -/
def MarkInvN (w wr : World) (b off k0 k : Nat) (bs : List Int) : Prop :=
  (∀ i, i < bs.length → ∃ c : Int, wr.cell? ⟨b, off + i, none⟩ = some (.int .i64 c) ∧ (i < k → c = ((k0 + i : Nat) : Int)) ∧ wr.frozen? ⟨b, off + i, none⟩ = false) ∧ k ≤ bs.length ∧ Drawn b w wr ∧ (k = 0 → wr = w)
theorem MarkInvN.start {w : World} {b off k0 : Nat} {bs : List Int} (hc : Hid (∀ i (h : i < bs.length), w.cell? ⟨b, off + i, none⟩ = some (.int .i64 bs[i]) ∧ w.frozen? ⟨b, off + i, none⟩ = false)) : MarkInvN w w b off k0 0 bs :=
  ⟨fun i hi => ⟨_, (hc i hi).1, fun h => by omega, (hc i hi).2⟩, Nat.zero_le _, Drawn.refl _ _, fun _ => rfl⟩
theorem MarkInvN.now {w wr : World} {b off k0 k : Nat} {bs : List Int} (h : Hid (MarkInvN w wr b off k0 k bs)) (hk : k < bs.length) : (∃ c : Int, wr.cell? ⟨b, off + k, none⟩ = some (.int .i64 c)) ∧ wr.frozen? ⟨b, off + k, none⟩ = false := by
  obtain ⟨c, h1, -, h3⟩ := h.1 k hk
  exact ⟨⟨c, h1⟩, h3⟩
theorem MarkInvN.step {w wr : World} {b off k0 k : Nat} {bs : List Int} (h : Hid (MarkInvN w wr b off k0 k bs)) (hk : k < bs.length) {x : Int} (hx : x = ((k0 + k : Nat) : Int)) : MarkInvN w (wr.setCell ⟨b, off + k, none⟩ (.int .i64 x)) b off k0 (k + 1) bs := by
  obtain ⟨h1, h2, h3, -⟩ := h
  refine ⟨fun i hi => ?_, hk, h3.setCell _ _, fun h => by omega⟩
  obtain ⟨c, c1, c2, c3⟩ := h1 i hi
  by_cases e : i = k
  · subst e
    exact ⟨x, World.cell?_setCell_same _ _ _ c1, fun _ => hx, (World.frozen?_setCell _ _ _ _).trans c3⟩
  · exact ⟨c, set_other c1 (by omega), fun hi' => c2 (by omega), (World.frozen?_setCell _ _ _ _).trans c3⟩
theorem MarkInvN.done {w wr : World} {b off k0 cap base : Nat} {bs : List Int} (h : Hid (MarkInvN w wr b off k0 bs.length bs)) (h0 : bs.length ≤ 9223372036854775807) (hcap : bs.length ≤ cap ∧ cap ≤ 9223372036854775807) (hb : base ≤ b) : OwnN wr base (.slice (some ⟨b, off, none⟩) bs.length cap) (marksN k0 bs.length) := by
  obtain ⟨h1, h2, h3, -⟩ := h
  refine ⟨by rw [marksN_len]; exact h0, some ⟨b, off, none⟩, cap, by rw [marksN_len], by rw [marksN_len]; exact hcap, .inr ⟨b, off, rfl, hb, fun i hi => ?_⟩⟩
  have hi' : i < bs.length := by simpa [marksN_len] using hi
  obtain ⟨c, c1, c2, c3⟩ := h1 i hi'
  rw [marksN_at, ← c2 hi']
  exact ⟨c1, c3⟩
set_option maxHeartbeats 1000000 in
theorem markIntS_any (v : Value) (base k0 : Nat) (bs : List Int) (w : World) (hk0 : k0 ≤ 4294967296) (hl : bs.length ≤ 4294967296) (hv : OwnN w base v bs) :
    Calls Try.prog 29 #[v, .int .i64 (k0 : Int)] w fun e w' => e = .returned (.int .i64 ((k0 + bs.length : Nat) : Int)) ∧ OwnN w' base v (marksN k0 bs.length) ∧ Drawn (blockOf v) w w' ∧ (bs = [] → w' = w) := by
  obtain ⟨h0, a, cap, rfl, hcap, hv⟩ := hv
  rcases hv with rfl | ⟨b, off, rfl, hb, hc⟩
  · go_enter Try.func29, Try.ntmps29
    go_wp2
    go_rounds 1
    go_ret
    exact ⟨rfl, ⟨by simp [marksN], a, cap, rfl, hcap, .inl rfl⟩, Drawn.refl _ _, fun _ => rfl⟩
  · have HC := dHide hc
    clear hc
    go_enter Try.func29, Try.ntmps29
    go_wp2
    go_loopw [5, 1] (fun x y wr => ∃ k : Nat, x = .int .i64 (k : Int) ∧ y = .int .i64 ((k0 + k : Nat) : Int) ∧ k ≤ bs.length ∧ Hid (MarkInvN w wr b off k0 k bs)) (fun x _ _ => bs.length - (intOf x).toNat)
    case atStart => exact ⟨0, rfl, by go_num, Nat.zero_le _, MarkInvN.start HC⟩
    case round =>
      obtain ⟨k, rfl, rfl, hk, hinv⟩ := hrel
      by_cases hlt : (k : Int) < (bs.length : Int)
      · obtain ⟨⟨c, c1⟩, f1⟩ := MarkInvN.now hinv (show k < bs.length by omega)
        go_wp2
        go_roundw
        case rel => exact ⟨k + 1, by go_num, by go_num, by omega, MarkInvN.step hinv (by omega) (by go_num)⟩
        case measure => simp [intOf]; omega
      · obtain rfl : k = bs.length := by omega
        go_wp2
        go_ret
        exact ⟨by go_num, MarkInvN.done hinv h0 hcap hb, (dUnhide hinv).2.2.1, fun h => (dUnhide hinv).2.2.2 (by rw [h]; rfl)⟩
set_option maxHeartbeats 1000000 in
theorem heldIntS_yes (v : Value) (k0 n : Nat) (w : World) (hk0 : k0 ≤ 4294967296) (hl : n ≤ 4294967296) (hv : Ns w v (marksN k0 n)) :
    Calls Try.prog 30 #[v, .int .i64 (k0 : Int)] w fun e w' => e = .returned (.int .i64 ((k0 + n : Nat) : Int)) ∧ Below w.heap.size w w' := by
  obtain ⟨h0, a, cap, rfl, -, hv⟩ := hv
  have HV := dHide hv
  clear hv
  rw [marksN_len]
  go_enter Try.func30, Try.ntmps30
  go_wp2
  go_loopw [5, 1] (fun x y w' => ∃ k : Nat, x = .int .i64 (k : Int) ∧ y = .int .i64 ((k0 + k : Nat) : Int) ∧ k ≤ n ∧ ∃ n', w' = w.drewN n') (fun x _ _ => n - (intOf x).toNat)
  case atStart => exact ⟨0, rfl, by go_num, Nat.zero_le _, 0, rfl⟩
  case round =>
    obtain ⟨k, rfl, rfl, hk, n', rfl⟩ := hrel
    by_cases hlt : (k : Int) < (n : Int)
    · obtain ⟨b, off, rfl, hc⟩ : ∃ b off, a = some ⟨b, off, none⟩ ∧ ∀ i (h : i < (marksN k0 n).length), w.cell? ⟨b, off + i, none⟩ = some (.int .i64 (marksN k0 n)[i]) :=
        orN_of_lt (dUnhide HV) (k := k) (by rw [marksN_len]; omega)
      have c1 := hc k (by rw [marksN_len]; omega)
      rw [marksN_at] at c1
      clear hc HV
      go_wp2
      go_roundw
      case rel => exact ⟨k + 1, by go_num, by go_num, by omega, _, rfl⟩
      case measure => simp [intOf]; omega
    · obtain rfl : k = n := by omega
      go_wp2
      go_ret
      exact ⟨by go_num, below_drewN (Below.refl _ _) _⟩
end Go.Proofs.Ytognmmmplmideaa
