/- impl's every over ints (WkE's first part, for seats without worlds). -/
import Derived.Test.YtmgomacmaidmlaaGreatDoorDelG
import Derived.Test.YtmgomacmaidmlaaGreatDoorIdxP
import Derived.Test.YtmgomacmaidmlaaGreatDoorBoxP
import Derived.Deep.DeepCutAuto
namespace Go.Proofs.YtmgomacmaidmlaaGreatDoor
open Go.ChangeShapes Go.WideShapes Go.ChangeAt Go.RowKit
set_option linter.unusedVariables false
set_option linter.unusedSimpArgs false
set_option maxRecDepth 100000

theorem containsG_any (v : Value) (xs : List Int) (F : Nat) (caps : Array Value) (q : Int → Bool) (w : World) (hF : ∀ args w, (callFunc F args).run Tryz.prog w = .ok (.enter F args) w) (hv : Ns w v xs)
    (hq : ∀ W, Below w.heap.size w W → ∀ z ∈ xs, Calls Tryz.prog F (#[.int .i64 z] ++ caps) W fun e w' => e = .returned (.bool (q z)) ∧ Below W.heap.size W w') :
    Calls Tryz.prog 52 #[v, .func (.func F) #[] caps] w fun e w' => RetB (∃ x ∈ xs, q x = true) e ∧ Below w.heap.size w w' := by
  have C1 := dHide (indexG_any v xs F caps q w hF hv hq)
  have hl := hv.1
  clear hF hv hq
  go_enter Tryz.func52, Tryz.ntmps52
  go_wp2_with fail
  refine (dUnhide C1).mono ?_
  rintro e w1 ⟨h, b1⟩
  clear C1
  rcases h with ⟨h, rfl⟩ | ⟨k, hk, h1, h2, rfl⟩
  · have R : RetB (∃ x ∈ xs, q x = true) (.returned (.bool false)) := RetB.no fun ⟨x, hx, hq⟩ => by rw [h x hx] at hq; cases hq
    clear h
    go_wp2
    go_ret
    exact ⟨R, b1⟩
  · have R : RetB (∃ x ∈ xs, q x = true) (.returned (.bool true)) := RetB.yes ⟨_, List.getElem_mem hk, h2⟩
    have hk0 : (0 : Int) ≤ (k : Int) := by omega
    clear h1 h2
    go_wp2
    go_ret
    exact ⟨R, b1⟩
theorem every1Int_any (z : Int) (F b : Nat) (caps : Array Value) (q : Bool) (w : World) (hF : ∀ args w, (callFunc F args).run Tryz.prog w = .ok (.enter F args) w) (hc : w.cell? ⟨b, 0, none⟩ = some (.func (.func F) #[] caps))
    (hq : Calls Tryz.prog F (#[.int .i64 z] ++ caps) w fun e w' => e = .returned (.bool q) ∧ Below w.heap.size w w') :
    Calls Tryz.prog 53 (#[.int .i64 z] ++ #[.pointer (some ⟨b, 0, none⟩)]) w fun e w' => e = .returned (.bool (!q)) ∧ Below w.heap.size w w' := by
  have C1 := dHide hq
  clear hq
  show Calls Tryz.prog 53 #[.int .i64 z, .pointer (some ⟨b, 0, none⟩)] w _
  go_enter Tryz.func53, Tryz.ntmps53
  go_wp2_with fail
  refine (dUnhide C1).mono ?_
  rintro e w1 ⟨rfl, b1⟩
  clear C1 hc
  cases q
  all_goals
    go_wp2
    go_ret
    exact ⟨rfl, b1⟩
theorem everyInt_any (v : Value) (xs : List Int) (F : Nat) (caps : Array Value) (Q : Int → Prop) (w : World) (hF : ∀ args w, (callFunc F args).run Tryz.prog w = .ok (.enter F args) w) (hv : Ns w v xs)
    (hq : ∀ W, Below w.heap.size w W → ∀ z ∈ xs, Calls Tryz.prog F (#[.int .i64 z] ++ caps) W fun e w' => RetB (Q z) e ∧ Below W.heap.size W w') :
    Calls Tryz.prog 25 #[v, .func (.func F) #[] caps] w fun e w' => RetB (∀ x ∈ xs, Q x) e ∧ Below w.heap.size w w' := by
  have B0 : Below w.heap.size w (w.alloc (.cells #[.func (.func F) #[] caps] 31)) := (Below.refl _ _).alloc (Nat.le_refl _) _
  have K0 := Bx.new w [.func (.func F) #[] caps] 31 0 _ rfl
  have C1 := dHide (containsG_any v xs 53 #[.pointer (some ⟨w.heap.size, 0, none⟩)] (fun x => !(bq (Q x))) _ (by intro args w; rfl) (hv.below B0) fun W hb z hz => every1Int_any z F w.heap.size caps (bq (Q z)) W hF ((hb.cell (p := ⟨w.heap.size, 0, none⟩) (dCell_lt K0)).trans K0) ((hq W (belowThen B0 hb) z hz).mono fun e w' h => ⟨h.1.bq, h.2⟩))
  obtain ⟨-, a, cap, rfl, -, -⟩ := hv
  have FIN : Hid (∀ b : Bool, (b = true ↔ ∃ x ∈ xs, (!(bq (Q x))) = true) → RetB (∀ x ∈ xs, Q x) (.returned (.bool (!b)))) := fun b h => (all_not h).to fun x => bq_iff _
  clear hq K0
  go_enter Tryz.func25, Tryz.ntmps25
  go_wp2_with fail
  refine (dUnhide C1).mono ?_
  rintro e w1 ⟨⟨b, rfl, h⟩, b1⟩
  have R := dHide (dUnhide FIN b h)
  have B1 := belowThen B0 b1
  clear C1 FIN h b1 B0
  cases b
  all_goals
    go_wp2
    go_ret
    exact ⟨dUnhide R, B1⟩
end Go.Proofs.YtmgomacmaidmlaaGreatDoor
