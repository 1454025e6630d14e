/- Draws of a place: l1PickInt, l1Once, l1DrawPlace, DrawPlaceMake, DrawPlaceOk answer some number, and write into the cursor's own block alone. -/
import Derived.Test.YthndkkjgjhgdnaaDoorGaA
namespace Go.Proofs.YthndkkjgjhgdnaaDoor
open Go.ChangeShapes Go.WideShapes Go.ChangeAt Go.RowKit
set_option linter.unusedVariables false

set_option maxHeartbeats 400000 in
theorem l1PickInt_any (bk b off cap : Nat) (vs : List Int) (w : World) (h1 : 1 ≤ vs.length) (h2 : vs.length ≤ 1000000) (hv : ∀ i (h : i < vs.length), w.cell? ⟨b, off + i, none⟩ = some (.int .i64 vs[i])) (hb : b ≠ bk) (hc : Cur w bk) :
    Calls Tryd.prog 43 #[.pointer (some ⟨bk, 0, none⟩), .slice (some ⟨b, off, none⟩) vs.length cap] w fun e w' => (∃ v, v ∈ vs ∧ e = .returned (.int .i64 v)) ∧ Cur w' bk ∧ Drawn bk w w' := by
  have HV := dHide hv
  clear hv
  go_enter Tryd.func43, Tryd.ntmps43
  go_wp2_with fail
  refine (l1Below_any bk vs.length h1 (by omega) w hc).mono ?_
  rintro e w1 ⟨⟨x, hx, rfl⟩, hc1, hd1⟩
  have hcell := hd1.cell (dUnhide HV x hx) hb
  have hm := List.getElem_mem hx
  generalize vs[x] = v at *
  go_wp2
  go_ret
  exact ⟨⟨v, hm, rfl⟩, hc1, hd1⟩
theorem l1Once_any (bk n : Nat) (h1 : 1 ≤ n) (h2 : n ≤ 1000000) (w : World) (hc : Cur w bk) :
    Calls Tryd.prog 50 #[.pointer (some ⟨bk, 0, none⟩), .int .i64 n] w fun e w' => (∃ b : Bool, e = .returned (.bool b)) ∧ Cur w' bk ∧ Drawn bk w w' := by
  go_enter Tryd.func50, Tryd.ntmps50
  go_wp2_with fail
  refine (l1Below_any bk n h1 (by omega) w hc).mono ?_
  rintro e w1 ⟨⟨x, hx, rfl⟩, hc1, hd1⟩
  go_wp2
  go_ret
  exact ⟨⟨_, rfl⟩, hc1, hd1⟩
theorem l1Place_in (a b : Int) (h1 : 0 ≤ a) (h2 : a ≤ 1000) (h3 : 0 ≤ b) (h4 : b ≤ 1000) (w : World) :
    Calls Tryd.prog 39 #[.int .i64 a, .int .i64 b] w fun e w' => e = .returned (.int .i64 (4294967296 * a + b)) ∧ w = w' := by
  go_enter Tryd.func39, Tryd.ntmps39
  go_wp2
  go_ret
  exact ⟨rfl, rfl⟩
/-- A number that an int holds. -/
def I64 (x : Int) : Prop := -9223372036854775808 ≤ x ∧ x ≤ 9223372036854775807
/-- Behind a new block of numbers: what l1PickInt wants. -/
theorem pick_new {bk : Nat} {w : World} (hc : Cur w bk) (vs : List Int) (T : TypeId) (h1 : 1 ≤ vs.length) (h2 : vs.length ≤ 1000000) (cap : Nat) :
    Calls Tryd.prog 43 #[.pointer (some ⟨bk, 0, none⟩), .slice (some ⟨w.heap.size, 0, none⟩) vs.length cap] (w.alloc (.cells (vs.map (Value.int .i64)).toArray T)) fun e w' => (∃ v, v ∈ vs ∧ e = .returned (.int .i64 v)) ∧ Cur w' bk ∧ Drawn bk w w' := by
  have hb : Below w.heap.size w (w.alloc (.cells (vs.map (Value.int .i64)).toArray T)) := (Below.refl _ _).alloc (Nat.le_refl _) _
  have hlt := hc.lt
  refine (l1PickInt_any bk w.heap.size 0 cap vs _ h1 h2 (fun i h => ?_) (by omega) (hc.below hb)).mono fun e w' ⟨h, k, d⟩ => ⟨h, k, (Drawn.of_below hb).trans d⟩
  simp
set_option maxHeartbeats 1000000 in
theorem l1DrawPlace_any (bk : Nat) (w : World) (hc : Cur w bk) :
    Calls Tryd.prog 52 #[.pointer (some ⟨bk, 0, none⟩)] w fun e w' => (∃ x, I64 x ∧ e = .returned (.int .i64 x)) ∧ Cur w' bk ∧ Drawn bk w w' := by
  go_enter Tryd.func52, Tryd.ntmps52
  go_wp2_with fail
  refine (l1Below_any bk 3 (by omega) (by omega) w hc).mono ?_
  rintro e w1 ⟨⟨x, hx, rfl⟩, hc1, hd1⟩
  go_wp2_with fail
  refine (l1Below_any bk 6 (by omega) (by omega) w1 hc1).mono ?_
  rintro e w2 ⟨⟨y, hy, rfl⟩, hc2, hd2⟩
  go_wp2_with (go_at_call 39; refine (l1Place_in _ _ (by omega) (by omega) (by omega) (by omega) _).mono ?_; rintro e w3 ⟨rfl, rfl⟩)
  refine (l1Below_any bk 15 (by omega) (by omega) w2 hc2).mono ?_
  rintro e w3 ⟨⟨z, hz, rfl⟩, hc3, hd3⟩
  have hd := (hd1.trans hd2).trans hd3
  clear hc hc1 hc2 hd1 hd2 hd3
  by_cases z0 : ((z : Int) == 0) = true
  · go_wp2_with fail
    refine (pick_new hc3 [0, -1, 4294967296, 4294967297, 9223372036854775807, -9223372036854775808] _ (by simp) (by simp) _).mono ?_
    rintro e w4 ⟨⟨v, hv, rfl⟩, hc4, hd4⟩
    have hI : I64 v := by
      simp only [List.mem_cons, List.mem_nil_iff, or_false] at hv
      unfold I64; omega
    clear hv
    go_wp2
    go_ret
    exact ⟨⟨v, hI, rfl⟩, hc4, hd.trans hd4⟩
  · have z0' : ((z : Int) == 0) = false := by simpa using z0
    clear z0
    by_cases z1 : ((z : Int) == 1) = true
    · go_wp2_with fail
      refine (pick_new hc3 [0, 30, 31] _ (by simp) (by simp) _).mono ?_
      rintro e w4 ⟨⟨v, hv, rfl⟩, hc4, hd4⟩
      have hv0 : 0 ≤ v ∧ v ≤ 100 := by
        simp only [List.mem_cons, List.mem_nil_iff, or_false] at hv
        omega
      clear hv
      go_wp2_with fail
      refine (pick_new hc4 [0, 60, 61] _ (by simp) (by simp) _).mono ?_
      rintro e w5 ⟨⟨u, hu, rfl⟩, hc5, hd5⟩
      have hu0 : 0 ≤ u ∧ u ≤ 100 := by
        simp only [List.mem_cons, List.mem_nil_iff, or_false] at hu
        omega
      clear hu
      go_wp2_with (go_at_call 39; refine (l1Place_in _ _ (by omega) (by omega) (by omega) (by omega) _).mono ?_; rintro e w6 ⟨rfl, rfl⟩)
      go_ret
      exact ⟨⟨_, by unfold I64; omega, rfl⟩, hc5, (hd.trans hd4).trans hd5⟩
    · have z1' : ((z : Int) == 1) = false := by simpa using z1
      clear z1
      go_wp2
      go_ret
      exact ⟨⟨_, by unfold I64; omega, rfl⟩, hc3, hd⟩
end Go.Proofs.YthndkkjgjhgdnaaDoor
