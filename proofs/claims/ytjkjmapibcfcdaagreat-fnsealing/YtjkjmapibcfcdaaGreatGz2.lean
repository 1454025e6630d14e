/- Several texts in one: SrP, MnL. -/
import Derived.Test.YtjkjmapibcfcdaaGreatGw2
import Derived.Test.YtjkjmapibcfcdaaGreatGx4
import Derived.Test.YtjkjmapibcfcdaaGreatShelf
import Derived.Test.YtjkjmapibcfcdaaGreatWrT
import Derived.Test.YtjkjmapibcfcdaaGreatGz10
import Derived.Deep.RegionHeld3
import Derived.Deep.DeepCutAuto
namespace Go.Proofs.YtjkjmapibcfcdaaGreat
open Go.ChangeShapes Go.WideShapes Go.ChangeAt Go.RowKit
set_option linter.unusedSimpArgs false
set_option linter.unusedVariables false
set_option maxRecDepth 100000
theorem putA_at {y : Int} {xs : List Int} (h : xs.Pairwise (· < ·)) (hy : y ∉ xs) : xs.take (xs.countP (· < y)) ++ y :: xs.drop (xs.countP (· < y)) = putA y xs := by
 induction xs with
 | nil => rfl
 | cons a l ih =>
  rw [List.pairwise_cons] at h
  have hya : y ≠ a := fun e => hy (by simp [e])
  have hyl : y ∉ l := fun e => hy (by simp [e])
  unfold putA
  by_cases hlt : y < a
  ·have h0 : (a :: l).countP (· < y) = 0 := by
    rw [List.countP_eq_zero]
    intro b hb
    rcases List.mem_cons.1 hb with rfl | hb
    ·simp; omega
    ·have := h.1 b hb
     simp; omega
   rw [h0, if_pos hlt]
   rfl
  ·have h1 : (a :: l).countP (· < y) = l.countP (· < y) + 1 := by
    rw [List.countP_cons, if_pos (by simp; omega)]
   rw [h1, if_neg hlt, List.take_succ_cons, List.drop_succ_cons, List.cons_append, ih h.2 hyl]
theorem searchI_any (a : Option Addr) (c : Nat) (xs : List Int) (x : Int) (w : World) (hv : Ns w (.slice a xs.length c) xs) (hs : xs.Pairwise (· < ·)) (hl : xs.length ≤ 1048576) :
  Calls Tryz.prog 118 #[.slice a xs.length c, .int .i64 x] w fun e w' => e = .returned (.tuple #[.int .i64 ((xs.countP (· < x) : Nat) : Int), .bool (xs.contains x)]) ∧ Below w.heap.size w w' := by
 have bN : ∀ q, Below w.heap.size w (w.drewN q) := fun q => ⟨rfl, rfl, rfl, Nat.le_refl _, fun _ _ => rfl⟩
 obtain ⟨h0, a', c', e, hcap, h⟩ := hv
 simp only [Value.slice.injEq] at e
 obtain ⟨rfl, -, rfl⟩ := e
 by_cases he : xs = []
 ·subst he
  refine (Tryz.slices_BinarySearch_int_empty a c x w).mono ?_
  rintro e w' ⟨rfl, rfl⟩
  exact ⟨rfl, Below.refl _ _⟩
 ·obtain ⟨b, off, rfl, hc⟩ := h.resolve_left he
  have C := Tryz.slices_BinarySearch_int b off xs.length c xs x w (Nat.le_refl _) (by omega) (fun j hj => by
   rw [hc j hj, List.getD_eq_getElem?_getD, List.getElem?_eq_getElem hj]; rfl) (by rw [List.take_length]; exact hs.imp (fun h => Int.le_of_lt h))
  rw [List.take_length] at C
  refine C.mono ?_
  rintro e w' ⟨rfl, q, rfl⟩
  exact ⟨rfl, bN q⟩
theorem touch_at {α : Type} {T : TypeId} {sz : Nat} {cl : α → List Value} {w : World} {base : Nat} {v : Value} {xs : List α} (h : ApR T sz cl w base v xs) (hx : xs ≠ []) : touch v = some (bO v) := by
 have hp : 0 < xs.length := List.length_pos_iff.2 hx
 rcases h with ⟨rfl, -⟩ | h'
 ·exact absurd rfl hx
 ·rcases h'.2 with ⟨-, h0⟩ | ⟨g, cap, cur, rfl, -, -, hnc, -⟩
  ·omega
  ·have hc : cap ≠ 0 := by omega
   simp [touch, bO, hc]
theorem grB {w w' : World} {r : Option Nat} (h : Below w.heap.size w w') : w.grownBy w' r := ⟨h.os, h.tape, h.output, h.size, fun j hj _ => h.block j hj⟩
set_option maxHeartbeats 4000000 in
theorem withNode_any (W : World) (lo : Nat) (ya : Option Addr) (yc : Nat) (yn : List Int) (x : Int) (hR : RmN W lo (.slice ya yn.length yc) yn) (hlo : lo ≤ W.heap.size) (hs : yn.Pairwise (· < ·)) (hl : yn.length ≤ 1048576) :
  Calls Tryz.prog 75 #[.slice ya yn.length yc, .int .i64 x] W fun e w' => ∃ pa pc, e = .returned (.slice pa (putL x yn).length pc) ∧ RmN w' lo (.slice pa (putL x yn).length pc) (putL x yn) ∧ W.grownBy w' (touch (.slice ya yn.length yc)) ∧ ((yn ≠ [] ∧ bO (.slice pa (putL x yn).length pc) = bO (.slice ya yn.length yc)) ∨ W.heap.size ≤ bO (.slice pa (putL x yn).length pc)) := by
 have ba : ∀ (w : World) o, Below w.heap.size w (w.alloc o) := fun w o => (Below.refl _ _).alloc (Nat.le_refl _) o
 have hnn : putL x yn ≠ [] := fun e => by have : x ∈ putL x yn := mem_putL.2 (.inl rfl); rw [e] at this; simp at this
 have PN : Hid (x ∉ yn → yn.take (yn.countP (· < x)) ++ x :: yn.drop (yn.countP (· < x)) = putL x yn) := fun h => by unfold putL; rw [if_neg h]; exact putA_at hs h
 have PO : Hid (x ∈ yn → putL x yn = yn) := fun h => by unfold putL; rw [if_pos h]
 have hcp : yn.countP (· < x) ≤ yn.length := List.countP_le_length
 have hxc : Hid (yn.contains x = true ↔ x ∈ yn) := by simp [Hid]
 have CB := dH (searchI_any ya yc yn x W hR.bs hs hl)
 have HR := dH hR
 have UL : Hid (∀ j, touch (.slice ya yn.length yc) = some j → j < W.heap.size) := fun j hj => by
  obtain ⟨h1, h2⟩ := hR.touch hj
  rw [h2]
  exact hR.bs.lt.resolve_left h1
 have HNN := dH hnn
 generalize hms : putL x yn = ns at *
 clear hR hs hnn hms
 go_enter Tryz.func75, Tryz.ntmps75
 go_wp2_with fail
 refine (dU CB).mono ?_
 rintro e w1 ⟨rfl, b1⟩
 have sz1 := b1.size
 generalize hct : yn.countP (· < x) = ct at *
 generalize yn.contains x = fb at *
 clear CB hct
 cases fb with
 | true =>
  have e1 := dU PO ((dU hxc).1 rfl)
  clear PN PO
  subst e1
  go_wp2_with fail
  go_returns
  exact ⟨ya, yc, rfl, (dU HR).below b1, grB b1, .inl ⟨dU HNN, rfl⟩⟩
 | false =>
  have e1 := dU PN (fun h => by have := (dU hxc).2 h; cases this)
  have bB := ba w1 (.cells #[.int .i64 x] 3)
  have R2 := dH ((dU HR).below (bT b1 bB))
  have CI := dH (insN_any (.slice ya yn.length yc) yn x (w1.alloc (.cells #[.int .i64 x] 3)) lo ct w1.heap.size 3 (dU R2).1 (by simpa [iCl] using (MapKept.heap_alloc w1 (.cells #[.int .i64 x] 3)).1) (fun e => by have := dU UL _ e; omega) hl hcp (by simp; omega))
  rw [e1] at CI
  have BB := dH (bT b1 bB)
  have szB : Hid ((w1.alloc (.cells #[.int .i64 x] 3)).heap.size = w1.heap.size + 1) := by simp [Hid]
  clear PN PO e1 bB
  go_wp2_with fail
  refine (dU CI).mono ?_
  rintro e w5 ⟨v', rfl, hA, hg, ht⟩
  obtain ⟨pa, pc, rfl⟩ := ApR.slice elemI hA
  have hto := touch_at hA (dU HNN)
  have HH : Hid (∃ qa qc, (Ending.returned (.slice pa ns.length pc)) = .returned (.slice qa ns.length qc) ∧ RmN w5 lo (.slice qa ns.length qc) ns ∧ W.grownBy w5 (touch (.slice ya yn.length yc)) ∧ ((yn ≠ [] ∧ bO (.slice qa ns.length qc) = bO (.slice ya yn.length yc)) ∨ W.heap.size ≤ bO (.slice qa ns.length qc))) := by
   refine ⟨pa, pc, rfl, ⟨hA, fun e => absurd e (dU HNN)⟩, grownR_trans (grB (dU BB)) hg, ?_⟩
   rcases ht with h | h
   ·exact .inl ((dU HR).touch (h.symm.trans hto))
   ·have := h _ hto
    have q := dU szB
    exact .inr (by omega)
  clear hA hg ht hto R2 CI BB
  go_wp2_with fail
  go_returns
  exact dU HH
end Go.Proofs.YtjkjmapibcfcdaaGreat
