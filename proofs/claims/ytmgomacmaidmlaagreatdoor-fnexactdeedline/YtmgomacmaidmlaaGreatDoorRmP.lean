/- Lists of ints that may be appended to; slices.Clone of ints. -/
import Derived.Test.YtmgomacmaidmlaaGreatDoorCpN
import Derived.Lib.SliceRun
import Derived.Deep.RegionHeld3
import Derived.Deep.DeepCutAuto
namespace Go.Proofs.YtmgomacmaidmlaaGreatDoor
open Go.ChangeShapes Go.WideShapes Go.ChangeAt Go.RowKit
set_option linter.unusedVariables false
set_option linter.unusedSimpArgs false
set_option maxRecDepth 100000

/-- A list of ints that may be appended to, and has no room where it is empty. -/
def RmN (w : World) (base : Nat) (v : Value) (xs : List Int) : Prop := ApR 3 1 (fun x => [.int .i64 x]) w base v xs ∧ (xs = [] → touch v = none)
section
variable {w w' : World} {base base' : Nat} {v : Value} {xs : List Int}
theorem RmN.own (h : RmN w base v xs) : OwnN w base v xs := (ApR.own elemN h.1).n1
theorem RmN.bs (h : RmN w base v xs) : Ns w v xs := h.own.bs
theorem RmN.ge (h : RmN w base v xs) : xs = [] ∨ base ≤ blockOf v := h.own.ge
theorem RmN.mono (h : RmN w base v xs) (hb : base' ≤ base) : RmN w base' v xs := ⟨h.1.mono hb, h.2⟩
theorem RmN.below (h : RmN w base v xs) (hb : Below w.heap.size w w') : RmN w' base v xs := ⟨h.1.below hb, h.2⟩
theorem RmN.touch (h : RmN w base v xs) {j : Nat} (ht : touch v = some j) : xs ≠ [] ∧ j = blockOf v := by
  refine ⟨(fun e => by rw [h.2 e] at ht; cases ht), ?_⟩
  rcases h.1 with ⟨-, a, rfl⟩ | h'
  · cases a <;> simp [Go.Proofs.YtmgomacmaidmlaaGreatDoor.touch] at ht
  · rcases h'.2 with ⟨rfl, -⟩ | ⟨g, cap, cur, rfl, -⟩
    · simp [Go.Proofs.YtmgomacmaidmlaaGreatDoor.touch] at ht
    · by_cases hc : cap = 0
      · simp [Go.Proofs.YtmgomacmaidmlaaGreatDoor.touch, hc] at ht
      · simp [Go.Proofs.YtmgomacmaidmlaaGreatDoor.touch, hc] at ht
        exact ht.symm
theorem RmN.grown {row : Option Nat} (h : RmN w base v xs) (g : w.grownBy w' row) (hn : xs = [] ∨ row ≠ some (blockOf v)) : RmN w' base v xs := by
  refine ⟨h.1.kept elemN g ?_, h.2⟩
  cases row with
  | none => exact .inl rfl
  | some j =>
    right
    intro ht
    obtain ⟨h1, h2⟩ := h.touch ht
    rcases hn with hn | hn
    · exact h1 hn
    · exact hn (by rw [h2])
theorem RmN.far {b o : Nat} (h : RmN w base v xs) (hb : b < base) (u : Value) : RmN (w.setCell ⟨b, o, none⟩ u) base v xs := ⟨h.1.far elemN hb u, h.2⟩
end
set_option maxHeartbeats 1000000 in
theorem cloneI_any (v : Value) (xs : List Int) (w : World) (hv : Ns w v xs) (hl : xs.length ≤ 1048576) :
    Calls Tryz.prog 151 #[v] w fun e w' => (∃ u, e = .returned u ∧ RmN w' w.heap.size u xs) ∧ Below w.heap.size w w' := by
  have HV := dHide fun W (hb : Below w.heap.size w W) => hv.below hb
  have hv' := hv
  obtain ⟨-, a, cap, rfl, hcap, hc⟩ := hv'
  cases a with
  | none =>
    have e0 : xs = [] := by
      rcases hc with h | ⟨b, off, h, -⟩
      · exact h
      · cases h
    subst e0
    have hnil : ∀ w, (binOp .eql 33 (.slice none 0 cap) (.slice none 0 0)).run Tryz.prog w = .ok (.bool true) w := fun w => Go.Lib.run_eql_slice_nil w 33 3 none _ _ 0 0 Tryz.underlying33
    have O : RmN w w.heap.size (.slice none 0 0) [] := ⟨.inl ⟨rfl, none, rfl⟩, fun _ => rfl⟩
    clear hv HV hc
    simp only [List.length_nil]
    go_enter Tryz.func151, Tryz.ntmps151
    go_wp2
    go_ret
    exact ⟨⟨_, rfl, O⟩, Below.refl _ _⟩
  | some ad =>
    have B1 := (Below.refl w.heap.size w).alloc (Nat.le_refl _) (.cells #[] 3)
    have hN := dUnhide HV _ B1
    have hnil : ∀ w, (binOp .eql 33 (.slice (some ad) xs.length cap) (.slice none 0 0)).run Tryz.prog w = .ok (.bool false) w := fun w => Go.Lib.run_eql_slice_nil w 33 3 (some ad) _ _ 0 0 Tryz.underlying33
    clear hv HV hc
    by_cases he : xs = []
    · subst he
      simp only [List.length_nil] at *
      clear hN
      go_enter Tryz.func151, Tryz.ntmps151
      go_wp2
      go_ret
      exact ⟨⟨_, rfl, .inl ⟨rfl, _, rfl⟩, fun _ => by simp [touch]⟩, B1⟩
    · have HE := dHide he
      clear he
      go_enter Tryz.func151, Tryz.ntmps151
      go_wp2_with (at_builtin; refine wp_cpR elemN rfl _ _ rfl _ rfl _ xs rfl hN.rw1 (by omega) ?_; intro u w2 O2 b2)
      go_ret
      exact ⟨⟨_, rfl, O2.mono B1.size, fun e => absurd e (dUnhide HE)⟩, belowThen B1 b2⟩
end Go.Proofs.YtmgomacmaidmlaaGreatDoor
