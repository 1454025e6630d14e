/- slices.BinarySearch on ints, and where an int goes. -/
import Derived.Test.YtjbfpmackocgnaaGreatRmP
import Derived.Test.YtjbfpmackocgnaaGreatPutO
import Derived.Test.YtjbfpmackocgnaaGreatShelf
namespace Go.Proofs.YtjbfpmackocgnaaGreat
open Go.ChangeShapes Go.WideShapes Go.ChangeAt Go.RowKit
set_option linter.unusedVariables false
set_option linter.unusedSimpArgs false
set_option maxRecDepth 100000

theorem putA_at {y : Int} {xs : List Int} (h : xs.Pairwise (· < ·)) (hy : y ∉ xs) : xs.take (xs.countP (· < y)) ++ y :: xs.drop (xs.countP (· < y)) = putA y xs := by
  induction xs with
  | nil => rfl
  | cons a l ih =>
    rw [List.pairwise_cons] at h
    have hya : y ≠ a := fun e => hy (by simp [e])
    have hyl : y ∉ l := fun e => hy (by simp [e])
    unfold putA
    by_cases hlt : y < a
    · have h0 : (a :: l).countP (· < y) = 0 := by
        rw [List.countP_eq_zero]
        intro b hb
        rcases List.mem_cons.1 hb with rfl | hb
        · simp; omega
        · have := h.1 b hb
          simp; omega
      rw [h0, if_pos hlt]
      rfl
    · have h1 : (a :: l).countP (· < y) = l.countP (· < y) + 1 := by
        rw [List.countP_cons, if_pos (by simp; omega)]
      rw [h1, if_neg hlt, List.take_succ_cons, List.drop_succ_cons, List.cons_append, ih h.2 hyl]
theorem searchI_any (a : Option Addr) (c : Nat) (xs : List Int) (x : Int) (w : World) (hv : Ns w (.slice a xs.length c) xs) (hs : xs.Pairwise (· < ·)) (hl : xs.length ≤ 1048576) :
    Calls Tryz.prog 134 #[.slice a xs.length c, .int .i64 x] w fun e w' => e = .returned (.tuple #[.int .i64 ((xs.countP (· < x) : Nat) : Int), .bool (xs.contains x)]) ∧ Below w.heap.size w w' := by
  have bN : ∀ q, Below w.heap.size w (w.drewN q) := fun q => ⟨rfl, rfl, rfl, Nat.le_refl _, fun _ _ => rfl⟩
  obtain ⟨h0, a', c', e, hcap, h⟩ := hv
  simp only [Value.slice.injEq] at e
  obtain ⟨rfl, -, rfl⟩ := e
  by_cases he : xs = []
  · subst he
    refine (Tryz.slices_BinarySearch_int_empty a c x w).mono ?_
    rintro e w' ⟨rfl, rfl⟩
    exact ⟨rfl, Below.refl _ _⟩
  · obtain ⟨b, off, rfl, hc⟩ := h.resolve_left he
    have C := Tryz.slices_BinarySearch_int b off xs.length c xs x w (Nat.le_refl _) (by omega) (fun j hj => by
      rw [hc j hj, List.getD_eq_getElem?_getD, List.getElem?_eq_getElem hj]; rfl) (by rw [List.take_length]; exact hs.imp (fun h => Int.le_of_lt h))
    rw [List.take_length] at C
    refine C.mono ?_
    rintro e w' ⟨rfl, q, rfl⟩
    exact ⟨rfl, bN q⟩
theorem touch_at {α : Type} {T : TypeId} {sz : Nat} {cl : α → List Value} {w : World} {base : Nat} {v : Value} {xs : List α} (h : ApR T sz cl w base v xs) (hx : xs ≠ []) : touch v = some (blockOf v) := by
  have hp : 0 < xs.length := List.length_pos_iff.2 hx
  rcases h with ⟨rfl, -⟩ | h'
  · exact absurd rfl hx
  · rcases h'.2 with ⟨-, h0⟩ | ⟨g, cap, cur, rfl, -, -, hnc, -⟩
    · omega
    · have hc : cap ≠ 0 := by omega
      simp [touch, blockOf, hc]
end Go.Proofs.YtjbfpmackocgnaaGreat
