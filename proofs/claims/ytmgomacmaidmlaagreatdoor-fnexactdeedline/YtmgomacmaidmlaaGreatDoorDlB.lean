/- The lines of deeds: the pieces, impl's side. -/
import Derived.Test.YtmgomacmaidmlaaGreatDoorDlA
import Derived.Test.YtmgomacmaidmlaaGreatDoorDeB
import Derived.Test.YtmgomacmaidmlaaGreatDoorNumT
import Derived.Test.YtmgomacmaidmlaaGreatDoorAppR
import Derived.Deep.RegionHeld3
import Derived.Deep.RegionWith
import Derived.Deep.DeepCutAuto
namespace Go.Proofs.YtmgomacmaidmlaaGreatDoor
open Go.ChangeShapes Go.WideShapes Go.ChangeAt Go.RowKit
set_option linter.unusedVariables false
set_option linter.unusedSimpArgs false
set_option maxRecDepth 100000

def strCl (s : ByteArray) : List Value := [.string s]
theorem elemStr : Elem (α := ByteArray) 9 38 (.string ⟨#[]⟩) 1 16 strCl where
  under := Tryz.underlying38
  info := by kernel_rfl
  zcells := by kernel_rfl
  pos := by decide
  len := fun _ => rfl
  one := fun a u hu => by
    simp only [strCl, List.mem_cons, List.not_mem_nil, or_false] at hu
    subst hu
    rfl
/-- One string that was made a slice. -/
theorem rowStr_one (W : World) (s : ByteArray) (base : Nat) (h : base ≤ W.heap.size) : (W.alloc (.cells #[.string s] 9)).ownsRow base 9 1 (.slice (some ⟨W.heap.size, 0, none⟩) 1 1) [s].length (fcells strCl [s]) :=
  ⟨by simp [fcells, strCl], .inr ⟨W.heap.size, 1, #[.string s], rfl, h, heap_alloc_new W _, Nat.le_refl _, by decide, rfl, by simp [fcells, strCl]⟩⟩
theorem rwStr_one (W : World) (s : ByteArray) : Rw 1 strCl (W.alloc (.cells #[.string s] 9)) (.slice (some ⟨W.heap.size, 0, none⟩) 1 1) [s] :=
  (ownRw_of_row (sz := 1) (cl := strCl) (fun _ => rfl) (by decide) (rowStr_one W s 0 (Nat.zero_le _))).rw
def wordsV : List Value := wordsL.map Value.string
theorem implWords_any (w : World) :
    Calls Tryz.prog 31 #[] w fun e w' => e = .returned (.agg wordsV.toArray) ∧ Below w.heap.size w w' := by
  go_enter Tryz.func31, Tryz.ntmps31
  go_wp2
  go_returns
  exact ⟨rfl, by go_grown⟩
theorem words_ix (n : Nat) (h : 1 ≤ n ∧ n ≤ 16) (W : World) : (Instr.index 60 (.agg wordsV.toArray) (.int .i64 (n : Int))).run Tryz.prog W = .ok (.string (wordB (n : Int))) W := by
  have h16 : n = 1 ∨ n = 2 ∨ n = 3 ∨ n = 4 ∨ n = 5 ∨ n = 6 ∨ n = 7 ∨ n = 8 ∨ n = 9 ∨ n = 10 ∨ n = 11 ∨ n = 12 ∨ n = 13 ∨ n = 14 ∨ n = 15 ∨ n = 16 := by omega
  rcases h16 with rfl | rfl | rfl | rfl | rfl | rfl | rfl | rfl | rfl | rfl | rfl | rfl | rfl | rfl | rfl | rfl <;> rfl
theorem kinds_ix (n : Nat) (h : 1 ≤ n ∧ n ≤ 16) : ∃ fv, ∀ W, (Instr.index 46 (.agg kindsL.toArray) (.int .i64 (n : Int))).run Tryz.prog W = .ok (.agg #[.int .i64 ((nmL.getD n 0 : Nat) : Int), fv]) W ∧ (Instr.field 45 (.agg #[.int .i64 ((nmL.getD n 0 : Nat) : Int), fv]) 0).run Tryz.prog W = .ok (.int .i64 ((nmL.getD n 0 : Nat) : Int)) W := by
  have h16 : n = 1 ∨ n = 2 ∨ n = 3 ∨ n = 4 ∨ n = 5 ∨ n = 6 ∨ n = 7 ∨ n = 8 ∨ n = 9 ∨ n = 10 ∨ n = 11 ∨ n = 12 ∨ n = 13 ∨ n = 14 ∨ n = 15 ∨ n = 16 := by omega
  rcases h16 with rfl | rfl | rfl | rfl | rfl | rfl | rfl | rfl | rfl | rfl | rfl | rfl | rfl | rfl | rfl | rfl <;> exact ⟨_, fun W => ⟨rfl, rfl⟩⟩
/-- The text of what a deed names first. -/
def fstS (d : De) : ByteArray := if d.k = 13 then plS d.a else numS d.a
def tailL (N : Nat) (d : De) : List ByteArray := (if N % 2 = 1 then [fstS d] else []) ++ (if N / 2 % 2 = 1 then [numS d.b] else []) ++ (if N / 4 % 2 = 1 then [numS d.c] else []) ++ (if N / 8 % 2 = 1 then [d.t] else [])
def piecesL (d : De) : List ByteArray := wordB d.k :: tailL (nm d.k) d
/-- What a number of a line is. -/
def tenP (x : Int) : Prop := 0 ≤ x ∧ x ≤ 9999999999
theorem implFirst_any (d : De) (h : (d.k = 13 ∧ isPl d.a) ∨ (d.k ≠ 13 ∧ tenP d.a)) (w : World) (htab : Lib.TabIs Tryz.prog w "internal/strconv.uint64pow10" .u64 Lib.pow10Tab) :
    Calls Tryz.prog 32 #[d.val] w fun e w' => e = .returned (.string (fstS d)) ∧ Below w.heap.size w w' := by
  obtain ⟨k, a, b, c, t⟩ := d
  simp only at h
  have b1 : Below w.heap.size w (w.alloc (.cells #[.int .i64 k, .int .i64 a, .int .i64 b, .int .i64 c, .string t] 27)) := (Below.refl _ _).alloc (Nat.le_refl _) _
  rcases h with ⟨rfl, h⟩ | ⟨hk, h⟩
  · have CP := dHide fun W => implPT_any a (by unfold isPl at h; omega) (by unfold isPl at h; omega) W
    rw [show fstS ⟨13, a, b, c, t⟩ = plS a from rfl]
    unfold De.val
    clear h
    go_enter Tryz.func32, Tryz.ntmps32
    go_wp2_with (go_at_call 57; refine (dUnhide CP _).mono ?_; rintro e w1 ⟨rfl, hb1⟩)
    go_ret
    exact ⟨rfl, belowThen b1 hb1⟩
  · have CI := dHide (Itoa_any a (by unfold tenP at h; omega) _ (tabKept htab b1))
    rw [show max a 0 = a by unfold tenP at h; omega] at CI
    rw [show fstS ⟨k, a, b, c, t⟩ = numS a from if_neg hk]
    unfold De.val
    clear h htab
    go_enter Tryz.func32, Tryz.ntmps32
    go_wp2_with (go_at_call 33; refine (dUnhide CI).mono ?_; rintro e w1 ⟨rfl, hb1⟩)
    go_ret
    exact ⟨rfl, belowThen b1 hb1⟩
end Go.Proofs.YtmgomacmaidmlaaGreatDoor
