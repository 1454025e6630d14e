/- impl's: a node is told of in a list. -/
import Derived.Test.YtjbfpmackocgnaaGreatWrT
import Derived.Test.YtjbfpmackocgnaaGreatSrP
import Derived.Test.YtjbfpmackocgnaaGreatMnK
import Derived.Deep.RegionHeld3
import Derived.Deep.DeepCutAuto
namespace Go.Proofs.YtjbfpmackocgnaaGreat
open Go.ChangeShapes Go.WideShapes Go.ChangeAt Go.RowKit
set_option linter.unusedVariables false
set_option linter.unusedSimpArgs false
set_option maxRecDepth 100000

theorem grB {w w' : World} {r : Option Nat} (h : Below w.heap.size w w') : w.grownBy w' r := ⟨h.os, h.tape, h.output, h.size, fun j hj _ => h.block j hj⟩
set_option maxHeartbeats 4000000 in
theorem withNode_any (W : World) (lo : Nat) (ya : Option Addr) (yc : Nat) (yn : List Int) (x : Int) (hR : RmN W lo (.slice ya yn.length yc) yn) (hlo : lo ≤ W.heap.size) (hs : yn.Pairwise (· < ·)) (hl : yn.length ≤ 1048576) :
    Calls Tryz.prog 103 #[.slice ya yn.length yc, .int .i64 x] W fun e w' => ∃ pa pc, e = .returned (.slice pa (putL x yn).length pc) ∧ RmN w' lo (.slice pa (putL x yn).length pc) (putL x yn) ∧ W.grownBy w' (touch (.slice ya yn.length yc)) ∧ ((yn ≠ [] ∧ blockOf (.slice pa (putL x yn).length pc) = blockOf (.slice ya yn.length yc)) ∨ W.heap.size ≤ blockOf (.slice pa (putL x yn).length pc)) := by
  have ba : ∀ (w : World) o, Below w.heap.size w (w.alloc o) := fun w o => (Below.refl _ _).alloc (Nat.le_refl _) o
  have hnn : putL x yn ≠ [] := fun e => by have : x ∈ putL x yn := mem_putL.2 (.inl rfl); rw [e] at this; simp at this
  have PN : Hid (x ∉ yn → yn.take (yn.countP (· < x)) ++ x :: yn.drop (yn.countP (· < x)) = putL x yn) := fun h => by unfold putL; rw [if_neg h]; exact putA_at hs h
  have PO : Hid (x ∈ yn → putL x yn = yn) := fun h => by unfold putL; rw [if_pos h]
  have hcp : yn.countP (· < x) ≤ yn.length := List.countP_le_length
  have hxc : Hid (yn.contains x = true ↔ x ∈ yn) := by simp [Hid]
  have CB := dHide (searchI_any ya yc yn x W hR.bs hs hl)
  have HR := dHide hR
  have UL : Hid (∀ j, touch (.slice ya yn.length yc) = some j → j < W.heap.size) := fun j hj => by
    obtain ⟨h1, h2⟩ := hR.touch hj
    rw [h2]
    exact hR.bs.lt.resolve_left h1
  have HNN := dHide hnn
  generalize hms : putL x yn = ns at *
  clear hR hs hnn hms
  go_enter Tryz.func103, Tryz.ntmps103
  go_wp2_with fail
  refine (dUnhide CB).mono ?_
  rintro e w1 ⟨rfl, b1⟩
  have sz1 := b1.size
  generalize hct : yn.countP (· < x) = ct at *
  generalize yn.contains x = fb at *
  clear CB hct
  cases fb with
  | true =>
    have e1 := dUnhide PO ((dUnhide hxc).1 rfl)
    clear PN PO
    subst e1
    go_wp2_with fail
    go_returns
    exact ⟨ya, yc, rfl, (dUnhide HR).below b1, grB b1, .inl ⟨dUnhide HNN, rfl⟩⟩
  | false =>
    have e1 := dUnhide PN (fun h => by have := (dUnhide hxc).2 h; cases this)
    have bB := ba w1 (.cells #[.int .i64 x] 3)
    have R2 := dHide ((dUnhide HR).below (belowThen b1 bB))
    have CI := dHide (insN_any (.slice ya yn.length yc) yn x (w1.alloc (.cells #[.int .i64 x] 3)) lo ct w1.heap.size 3 (dUnhide R2).1 (by simpa [iCl] using (MapKept.heap_alloc w1 (.cells #[.int .i64 x] 3)).1) (fun e => by have := dUnhide UL _ e; omega) hl hcp (by simp; omega))
    rw [e1] at CI
    have BB := dHide (belowThen b1 bB)
    have szB : Hid ((w1.alloc (.cells #[.int .i64 x] 3)).heap.size = w1.heap.size + 1) := by simp [Hid]
    clear PN PO e1 bB
    go_wp2_with fail
    refine (dUnhide CI).mono ?_
    rintro e w5 ⟨v', rfl, hA, hg, ht⟩
    obtain ⟨pa, pc, rfl⟩ := ApR.slice elemI hA
    have hto := touch_at hA (dUnhide HNN)
    have HH : Hid (∃ qa qc, (Ending.returned (.slice pa ns.length pc)) = .returned (.slice qa ns.length qc) ∧ RmN w5 lo (.slice qa ns.length qc) ns ∧ W.grownBy w5 (touch (.slice ya yn.length yc)) ∧ ((yn ≠ [] ∧ blockOf (.slice qa ns.length qc) = blockOf (.slice ya yn.length yc)) ∨ W.heap.size ≤ blockOf (.slice qa ns.length qc))) := by
      refine ⟨pa, pc, rfl, ⟨hA, fun e => absurd e (dUnhide HNN)⟩, grownR_trans (grB (dUnhide BB)) hg, ?_⟩
      rcases ht with h | h
      · exact .inl ((dUnhide HR).touch (h.symm.trans hto))
      · have := h _ hto
        have q := dUnhide szB
        exact .inr (by omega)
    clear hA hg ht hto R2 CI BB
    go_wp2_with fail
    go_returns
    exact dUnhide HH
end Go.Proofs.YtjbfpmackocgnaaGreat
