/- Deeds: the model; what a kind names, of both sides. -/
import Derived.Test.YtmgomacmaidmlaaGreatDoorBoxP
import Derived.Test.YtmgomacmaidmlaaGreatDoorOpenA
import Derived.Test.YtmgomacmaidmlaaGreatDoorInQ
import Derived.Deep.RegionHeld3
import Derived.Deep.DeepCutAuto
namespace Go.Proofs.YtmgomacmaidmlaaGreatDoor
open Go.ChangeShapes Go.WideShapes Go.ChangeAt Go.RowKit
set_option linter.unusedVariables false
set_option linter.unusedSimpArgs false
set_option maxRecDepth 100000

/-- A deed. -/
structure De where
  k : Int
  a : Int
  b : Int
  c : Int
  t : ByteArray
def De.val (d : De) : Value := .agg #[.int .i64 d.k, .int .i64 d.a, .int .i64 d.b, .int .i64 d.c, .string d.t]
/-- What each kind names: bits of A, B, C and Text. -/
def nmL : List Nat := [0, 1, 9, 7, 1, 3, 1, 1, 0, 1, 0, 6, 0, 1, 3, 1, 1]
def nm (k : Int) : Nat := nmL.getD k.toNat 0
/-- What is named alone. -/
def keepD (n : Nat) (d : De) : De := ⟨d.k, if n % 2 = 1 then d.a else 0, if n / 2 % 2 = 1 then d.b else 0, if n / 4 % 2 = 1 then d.c else 0, if n / 8 % 2 = 1 then d.t else ⟨#[]⟩⟩
/-- Nothing of what is named. -/
def dropD (n : Nat) (d : De) : De := ⟨d.k, if n % 2 = 1 then 0 else d.a, if n / 2 % 2 = 1 then 0 else d.b, if n / 4 % 2 = 1 then 0 else d.c, if n / 8 % 2 = 1 then ⟨#[]⟩ else d.t⟩
theorem keep_drop (n : Nat) (d : De) : d = keepD n d ↔ dropD n d = ⟨d.k, 0, 0, 0, ⟨#[]⟩⟩ := by
  obtain ⟨k, a, b, c, t⟩ := d
  unfold keepD dropD
  by_cases h1 : n % 2 = 1 <;> by_cases h2 : n / 2 % 2 = 1 <;> by_cases h3 : n / 4 % 2 = 1 <;> by_cases h4 : n / 8 % 2 = 1 <;> simp [h1, h2, h3, h4]
/-- A right deed. -/
def deedP (d : De) : Prop := (1 ≤ d.k ∧ d.k ≤ 16) ∧ d = keepD (nm d.k) d ∧ d.t.size ≤ 40
theorem kinds16 {k : Int} (h : 1 ≤ k ∧ k ≤ 16) : k = 1 ∨ k = 2 ∨ k = 3 ∨ k = 4 ∨ k = 5 ∨ k = 6 ∨ k = 7 ∨ k = 8 ∨ k = 9 ∨ k = 10 ∨ k = 11 ∨ k = 12 ∨ k = 13 ∨ k = 14 ∨ k = 15 ∨ k = 16 := by omega
set_option maxHeartbeats 8000000 in
theorem specNames_any (d : De) (h : 1 ≤ d.k ∧ d.k ≤ 16) (w : World) :
    Calls Tryz.prog 19 #[d.val] w fun e w' => e = .returned (keepD (nm d.k) d).val ∧ Below w.heap.size w w' := by
  obtain ⟨k, a, b, c, t⟩ := d
  simp only at h
  rcases kinds16 h with rfl | rfl | rfl | rfl | rfl | rfl | rfl | rfl | rfl | rfl | rfl | rfl | rfl | rfl | rfl | rfl
  all_goals
    simp only [nm, nmL, keepD, De.val]
    simp
    clear h
    go_enter Tryz.func19, Tryz.ntmps19
    go_wp2
    go_returns
    exact ⟨rfl, by go_grown⟩
set_option maxHeartbeats 8000000 in
theorem implWithout_any (d : De) (n : Nat) (h : n = 0 ∨ n = 1 ∨ n = 3 ∨ n = 6 ∨ n = 7 ∨ n = 9) (w : World) :
    Calls Tryz.prog 23 #[d.val, .int .i64 (n : Int)] w fun e w' => e = .returned (dropD n d).val ∧ Below w.heap.size w w' := by
  obtain ⟨k, a, b, c, t⟩ := d
  rcases h with rfl | rfl | rfl | rfl | rfl | rfl
  all_goals
    simp only [dropD, De.val]
    simp
    go_enter Tryz.func23, Tryz.ntmps23
    go_wp2
    go_returns
    exact ⟨rfl, by go_grown⟩
theorem eqDeed_eq {d d' : De} (h : d = d') (w : World) : (binOp .eql 27 d.val d'.val).run Tryz.prog w = .ok (.bool true) w := by
  subst h
  obtain ⟨k, a, b, c, t⟩ := d
  unfold De.val
  go_simp
theorem eqDeed_ne {d d' : De} (h : ¬ d = d') (w : World) : (binOp .eql 27 d.val d'.val).run Tryz.prog w = .ok (.bool false) w := by
  obtain ⟨k, a, b, c, t⟩ := d
  obtain ⟨k', a', b', c', t'⟩ := d'
  unfold De.val
  by_cases h1 : k = k'
  · subst h1
    by_cases h2 : a = a'
    · subst h2
      by_cases h3 : b = b'
      · subst h3
        by_cases h4 : c = c'
        · subst h4
          have h5 : ¬ t.toList = t'.toList := fun e => h (by
            rw [ByteArray.toList_eq, ByteArray.toList_eq] at e
            obtain ⟨⟨x⟩⟩ := t
            obtain ⟨⟨y⟩⟩ := t'
            simp at e
            rw [e])
          clear h
          go_simp
        · clear h
          go_simp
      · clear h
        go_simp
    · clear h
      go_simp
  · clear h
    go_simp
end Go.Proofs.YtmgomacmaidmlaaGreatDoor
