/- MendNew: both answers. -/
import Derived.Test.YtapfdmmfhfkhkaaOpenM
import Derived.Test.YtapfdmmfhfkhkaaGx5
namespace Go.Proofs.Ytapfdmmfhfkhkaa
open Go.ChangeShapes Go.WideShapes Go.ChangeAt Go.RowKit
set_option linter.unusedVariables false
set_option linter.unusedSimpArgs false
set_option maxRecDepth 100000

theorem OwMend.bare (lo hi : Nat) (a b : Int) (p : Bool) (W : World) : OwMend lo hi (.agg #[.int .i64 b, .int .i64 a, .slice none 0 0, .slice none 0 0, .bool p, .slice none 0 0]) ⟨b, a, [], [], p, []⟩ W :=
 ⟨.slice none 0 0, .slice none 0 0, .slice none 0 0, [], rfl, rfl, ⟨⟨by simp, none, 0, rfl, by simp, .inl rfl⟩, .inl rfl⟩, ⟨OwnRw.nil _ _ _ _ (by simp), .inl rfl⟩, ⟨OwnRw.nil _ _ _ _ (by simp), .inl rfl, (fun p hp => by cases hp), (fun i j hi => by simp at hi), fun i hi => by simp at hi⟩, .inl rfl, .inl rfl, .inl rfl⟩
theorem specNew_any (a b : Int) (w : World) :
  Calls Try.prog 77 #[.int .i64 a, .int .i64 b] w fun e w' => e = .returned (.agg #[.int .i64 b, .int .i64 a, .slice none 0 0, .slice none 0 0, .bool false, .slice none 0 0]) ∧ Below w.heap.size w w' := by
 have bA : ∀ o, Below w.heap.size w (w.alloc o) := fun o => (Below.refl _ _).alloc (Nat.le_refl _) o
 have X := Bx.new w [.int .i64 b, .int .i64 a, .slice none 0 0, .slice none 0 0, .bool false, .slice none 0 0] 30
 have q0 := X 0 _ rfl
 have q1 := X 1 _ rfl
 have q2 := X 2 _ rfl
 have q3 := X 3 _ rfl
 have q4 := X 4 _ rfl
 have q5 := X 5 _ rfl
 go_enter Try.func77, Try.ntmps77
 go_wp2_with fail
 refine bodyPost_ret (v := .agg #[.int .i64 b, .int .i64 a, .slice none 0 0, .slice none 0 0, .bool false, .slice none 0 0]) (by simp [results, Try.results77, go_sem, q0, q1, q2, q3, q4, q5]) rfl ⟨rfl, bA _⟩
theorem implNew_any (a b : Int) (w : World) :
  Calls Try.prog 14 #[.int .i64 a, .int .i64 b] w fun e w' => e = .returned (.agg #[.int .i64 b, .int .i64 a, .slice none 0 0, .slice none 0 0, .bool false, .slice none 0 0]) ∧ Below w.heap.size w w' := by
 have bA : ∀ o, Below w.heap.size w (w.alloc o) := fun o => (Below.refl _ _).alloc (Nat.le_refl _) o
 have X := Bx.new w [.int .i64 b, .int .i64 a, .slice none 0 0, .slice none 0 0, .bool false, .slice none 0 0] 30
 have q0 := X 0 _ rfl
 have q1 := X 1 _ rfl
 have q2 := X 2 _ rfl
 have q3 := X 3 _ rfl
 have q4 := X 4 _ rfl
 have q5 := X 5 _ rfl
 go_enter Try.func14, Try.ntmps14
 go_wp2_with fail
 refine bodyPost_ret (v := .agg #[.int .i64 b, .int .i64 a, .slice none 0 0, .slice none 0 0, .bool false, .slice none 0 0]) (by simp [results, Try.results14, go_sem, q0, q1, q2, q3, q4, q5]) rfl ⟨rfl, bA _⟩
end Go.Proofs.Ytapfdmmfhfkhkaa
