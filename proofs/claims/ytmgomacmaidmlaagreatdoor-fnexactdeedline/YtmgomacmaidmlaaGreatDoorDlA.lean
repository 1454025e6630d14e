/- The lines of deeds: words and numbers of both sides. -/
import Derived.Test.YtmgomacmaidmlaaGreatDoorDeA
import Derived.Test.YtmgomacmaidmlaaGreatDoorIntsP
import Derived.Test.YtmgomacmaidmlaaGreatDoorBoxP
import Derived.Test.YtmgomacmaidmlaaGreatDoorPutW
import Derived.Deep.RegionHeld3
import Derived.Deep.DeepCutAuto
namespace Go.Proofs.YtmgomacmaidmlaaGreatDoor
open Go.ChangeShapes Go.WideShapes Go.ChangeAt Go.RowKit
set_option linter.unusedVariables false
set_option linter.unusedSimpArgs false
set_option maxRecDepth 100000

/-- The words of the kinds. -/
def wordsL : List ByteArray := [⟨#[]⟩, ⟨#[111, 112, 101, 110]⟩, ⟨#[97, 100, 100]⟩, ⟨#[115, 116, 111, 114, 101]⟩, ⟨#[115, 121, 110, 99]⟩, ⟨#[99, 114, 97, 115, 104]⟩, ⟨#[108, 111, 115, 101]⟩, ⟨#[102, 105, 108, 108]⟩, ⟨#[109, 101, 110, 100]⟩, ⟨#[115, 101, 97, 108]⟩, ⟨#[112, 108, 97, 110]⟩, ⟨#[102, 105, 120]⟩, ⟨#[99, 108, 111, 115, 101]⟩, ⟨#[116, 114, 105, 109]⟩, ⟨#[114, 101, 97, 100]⟩, ⟨#[100, 114, 111, 112]⟩, ⟨#[112, 114, 117, 110, 101]⟩]
def wordB (k : Int) : ByteArray := wordsL.getD k.toNat ⟨#[]⟩
set_option maxHeartbeats 8000000 in
theorem specWord_any (k : Int) (h : 1 ≤ k ∧ k ≤ 16) (w : World) :
    Calls Tryz.prog 10 #[.int .i64 k] w fun e w' => e = .returned (.string (wordB k)) ∧ Below w.heap.size w w' := by
  rcases kinds16 h with rfl | rfl | rfl | rfl | rfl | rfl | rfl | rfl | rfl | rfl | rfl | rfl | rfl | rfl | rfl | rfl
  all_goals
    simp only [wordB, wordsL]
    simp
    clear h
    go_enter Tryz.func10, Tryz.ntmps10
    go_wp2
    go_returns
    exact ⟨rfl, by go_grown⟩
/-- The numbers that a line has. -/
def numsL (d : De) : List Int :=
  match d.k.toNat with
  | 3 => [d.a, d.b, d.c]
  | 5 => [d.a, d.b]
  | 14 => [d.a, d.b]
  | 11 => [d.b, d.c]
  | 8 => [] | 10 => [] | 12 => [] | 13 => []
  | _ => [d.a]
theorem ns_alloc (W : World) (xs : List Int) (n : Nat) (hn : n = W.heap.size) (hl : xs.length ≤ 1000) {T : TypeId} : Ns (W.alloc (.cells (ncells xs).toArray T)) (.slice (some ⟨n, 0, none⟩) xs.length xs.length) xs := by
  subst hn
  have X := Bx.new W (ncells xs) T
  exact ⟨by omega, _, _, rfl, ⟨Nat.le_refl _, by omega⟩, .inr ⟨_, 0, rfl, fun i hi => by rw [Nat.zero_add]; exact X i _ (by simp [ncells, hi])⟩⟩
set_option maxHeartbeats 8000000 in
theorem specNums_any (d : De) (h : 1 ≤ d.k ∧ d.k ≤ 16) (w : World) :
    Calls Tryz.prog 11 #[d.val] w fun e w' => (∃ v, e = .returned v ∧ Ns w' v (numsL d)) ∧ Below w.heap.size w w' := by
  obtain ⟨k, a, b, c, t⟩ := d
  simp only at h
  rcases kinds16 h with rfl | rfl | rfl | rfl | rfl | rfl | rfl | rfl | rfl | rfl | rfl | rfl | rfl | rfl | rfl | rfl
  all_goals
    simp only [numsL, De.val]
    simp
    clear h
    go_enter Tryz.func11, Tryz.ntmps11
    go_wp2
    go_returns
    first
      | exact ⟨⟨.slice (some ⟨w.heap.size + 1, 0, none⟩) 1 1, rfl, ns_alloc _ [_] _ (by simp) (by simp)⟩, by go_grown⟩
      | exact ⟨⟨.slice (some ⟨w.heap.size + 1, 0, none⟩) 2 2, rfl, ns_alloc _ [_, _] _ (by simp) (by simp)⟩, by go_grown⟩
      | exact ⟨⟨.slice (some ⟨w.heap.size + 1, 0, none⟩) 3 3, rfl, ns_alloc _ [_, _, _] _ (by simp) (by simp)⟩, by go_grown⟩
      | exact ⟨⟨.slice (some ⟨w.heap.size + 1, 0, none⟩) 0 0, rfl, ns_alloc _ [] _ (by simp) (by simp)⟩, by go_grown⟩
end Go.Proofs.YtmgomacmaidmlaaGreatDoor
