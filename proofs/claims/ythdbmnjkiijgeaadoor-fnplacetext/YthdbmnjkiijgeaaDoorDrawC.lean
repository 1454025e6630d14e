/- Draws of a text: l1Pick, l1Min, l1Dent, DrawPlaceRead answer some short text, and write into the cursor's own block alone. -/
import Derived.Test.YthdbmnjkiijgeaaDoorDrawB
import Derived.Test.YthdbmnjkiijgeaaDoorPlaceT
namespace Go.Proofs.YthdbmnjkiijgeaaDoor
open Go.ChangeShapes Go.WideShapes Go.ChangeAt Go.RowKit
set_option linter.unusedVariables false

set_option maxHeartbeats 400000 in
theorem l1Pick_any (bk b off cap : Nat) (vs : List ByteArray) (w : World) (h1 : 1 ≤ vs.length) (h2 : vs.length ≤ 1000000) (hv : ∀ i (h : i < vs.length), w.cell? ⟨b, off + i, none⟩ = some (.string vs[i])) (hb : b ≠ bk) (hc : Cur w bk) :
    Calls Tryd.prog 43 #[.pointer (some ⟨bk, 0, none⟩), .slice (some ⟨b, off, none⟩) vs.length cap] w fun e w' => (∃ v, v ∈ vs ∧ e = .returned (.string v)) ∧ Cur w' bk ∧ Drawn bk w w' := by
  have HV := dHide hv
  clear hv
  go_enter Tryd.func43, Tryd.ntmps43
  go_wp2_with fail
  refine (l1Below_any bk vs.length h1 (by omega) w hc).mono ?_
  rintro e w1 ⟨⟨x, hx, rfl⟩, hc1, hd1⟩
  have hcell := hd1.cell (dUnhide HV x hx) hb
  have hm := List.getElem_mem hx
  generalize vs[x] = v at *
  go_wp2
  go_ret
  exact ⟨⟨v, hm, rfl⟩, hc1, hd1⟩
theorem l1Min_lt (a b : Int) (h : a < b) (w : World) :
    Calls Tryd.prog 44 #[.int .i64 a, .int .i64 b] w fun e w' => e = .returned (.int .i64 a) ∧ w = w' := by
  go_enter Tryd.func44, Tryd.ntmps44
  go_wp2
  go_ret
  exact ⟨rfl, rfl⟩
theorem l1Min_ge (a b : Int) (h : b ≤ a) (w : World) :
    Calls Tryd.prog 44 #[.int .i64 a, .int .i64 b] w fun e w' => e = .returned (.int .i64 b) ∧ w = w' := by
  go_enter Tryd.func44, Tryd.ntmps44
  go_wp2
  go_ret
  exact ⟨rfl, rfl⟩
theorem three_size (s v : ByteArray) (x y : Nat) (hs : s.size ≤ 1000) (hv : v.size ≤ 1000) : ((s.extract 0 x ++ v) ++ s.extract y s.size).size ≤ 10000 := by
  simp [ByteArray.size_append]; omega
theorem two_size (s v : ByteArray) (x : Nat) (hs : s.size ≤ 1000) (hv : v.size ≤ 1000) : (s.extract 0 x ++ v).size ≤ 10000 := by
  simp [ByteArray.size_append]; omega
theorem twoE_size (s v : ByteArray) (x : Nat) (hs : s.size ≤ 1000) (hv : v.size ≤ 1000) : ((s.extract 0 x ++ v) ++ ByteArray.empty).size ≤ 10000 := by
  simp [ByteArray.size_append]; omega
theorem one_size (s : ByteArray) (x : Nat) (hs : s.size ≤ 1000) : (s.extract 0 x).size ≤ 10000 := by
  simp; omega
set_option maxHeartbeats 4000000 in
set_option maxRecDepth 100000 in
theorem l1Dent_any (bk b off cap : Nat) (vs : List ByteArray) (s : ByteArray) (hs : s.size ≤ 1000) (w : World) (h1 : 1 ≤ vs.length) (h2 : vs.length ≤ 1000000) (hz : ∀ v ∈ vs, v.size ≤ 1000) (hv : ∀ i (h : i < vs.length), w.cell? ⟨b, off + i, none⟩ = some (.string vs[i])) (hb : b ≠ bk) (hc : Cur w bk) :
    Calls Tryd.prog 32 #[.pointer (some ⟨bk, 0, none⟩), .string s, .slice (some ⟨b, off, none⟩) vs.length cap] w fun e w' => (∃ t : ByteArray, t.size ≤ 10000 ∧ e = .returned (.string t)) ∧ Cur w' bk ∧ Drawn bk w w' := by
  have C1 : Hid (∀ w' : World, Drawn bk w w' → Cur w' bk → Calls Tryd.prog 43 #[.pointer (some ⟨bk, 0, none⟩), .slice (some ⟨b, off, none⟩) vs.length cap] w' fun e w'' => (∃ v, v ∈ vs ∧ e = .returned (.string v)) ∧ Cur w'' bk ∧ Drawn bk w' w'') := fun w' hd hc => l1Pick_any bk b off cap vs w' h1 h2 (fun i h => hd.cell (hv i h) hb) hb hc
  have HZ := dHide hz
  clear hv hz
  go_enter Tryd.func32, Tryd.ntmps32
  go_wp2_with fail
  refine (l1Below_any bk (s.size + 1) (by omega) (by omega) w hc).mono ?_
  rintro e w1 ⟨⟨x, hx, rfl⟩, hc1, hd1⟩
  go_wp2_with fail
  refine (l1Below_any bk 3 (by omega) (by omega) w1 hc1).mono ?_
  rintro e w2 ⟨⟨z, hzz, rfl⟩, hc2, hd2⟩
  have hd := hd1.trans hd2
  clear hc hc1 hd1 hd2
  by_cases z0 : ((z : Int) == 0) = true
  · go_wp2
    go_ret
    exact ⟨⟨_, one_size s x hs, rfl⟩, hc2, hd⟩
  · have z0' : ((z : Int) == 0) = false := by simpa using z0
    clear z0
    by_cases z1 : ((z : Int) == 1) = true
    · have hwr : IntKind.i64.wrap ((x : Int) + 1) = (x : Int) + 1 := by rw [IntKind.wrap_i64]; omega
      by_cases hxs : (x : Int) + 1 < (s.size : Int)
      · go_wp2
        go_region_with (first | (go_at_call 43; refine (dUnhide C1 _ (hd.drewN _) (hc2.drewN _)).mono ?_; rintro e w3 ⟨⟨v, hv, rfl⟩, hc3, hd3⟩; have hvz := dUnhide HZ v hv) | (go_at_call 44; refine (l1Min_lt _ _ (by omega) _).mono ?_; rintro e w4 ⟨rfl, rfl⟩))
        all_goals
          go_wp2
          go_ret
          exact ⟨⟨_, three_size s v x _ hs hvz, rfl⟩, hc3, (hd.drewN _).trans hd3⟩
      · go_wp2
        go_region_with (first | (go_at_call 43; refine (dUnhide C1 _ (hd.drewN _) (hc2.drewN _)).mono ?_; rintro e w3 ⟨⟨v, hv, rfl⟩, hc3, hd3⟩; have hvz := dUnhide HZ v hv) | (go_at_call 44; refine (l1Min_ge _ _ (by omega) _).mono ?_; rintro e w4 ⟨rfl, rfl⟩))
        all_goals
          go_wp2
          go_ret
          first
            | exact ⟨⟨_, two_size s v x hs hvz, rfl⟩, hc3, (hd.drewN _).trans hd3⟩
            | exact ⟨⟨_, three_size s v x s.size hs hvz, rfl⟩, hc3, (hd.drewN _).trans hd3⟩
            | exact ⟨⟨_, twoE_size s v x hs hvz, rfl⟩, hc3, (hd.drewN _).trans hd3⟩
    · have z1' : ((z : Int) == 1) = false := by simpa using z1
      clear z1
      go_wp2
      go_region_with (go_at_call 43; refine (dUnhide C1 _ (hd.drewN _) (hc2.drewN _)).mono ?_; rintro e w3 ⟨⟨v, hv, rfl⟩, hc3, hd3⟩; have hvz := dUnhide HZ v hv)
      all_goals
        go_wp2
        go_ret
        exact ⟨⟨_, three_size s v x _ hs hvz, rfl⟩, hc3, (hd.drewN _).trans hd3⟩
end Go.Proofs.YthdbmnjkiijgeaaDoor
