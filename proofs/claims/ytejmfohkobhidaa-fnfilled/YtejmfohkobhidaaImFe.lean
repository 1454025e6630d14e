/- impl's StoreOk. -/
import Derived.Test.YtejmfohkobhidaaGbI
import Derived.Test.YtejmfohkobhidaaGbF
namespace Go.Proofs.Ytejmfohkobhidaa
open Go.ChangeShapes Go.WideShapes Go.ChangeAt Go.RowKit
set_option linter.unusedVariables false
set_option linter.unusedSimpArgs false
set_option maxRecDepth 100000

theorem sorted_any (kv lv : Value) (sl : Int) (w : World) (ka la : Option Addr) (kn kc ln lc : Nat) (hk : kv = .slice ka kn kc) (hl : lv = .slice la ln lc) : Calls Try.prog 38 #[.agg #[kv, lv, .int .i64 sl]] w fun r w' => r = .returned kv ∧ Below w.heap.size w w' := by
  subst hk hl
  go_enter Try.func38, Try.ntmps38
  go_wp2
  go_ret
  exact ⟨rfl, (Below.refl _ _).alloc (Nat.le_refl _) _⟩
set_option maxHeartbeats 4000000 in
theorem implStoreOk_any (v : Value) (s : St) (w : World) (hv : Rs w v s) (hf : fitS s) :
    Calls Try.prog 13 #[v] w fun e w' => RetB (stP s) e ∧ Below w.heap.size w w' := by
  obtain ⟨kv, lv, rfl, hk, hl⟩ := hv
  obtain ⟨f1, f2, f3, f4⟩ := hf
  have C1 := dHide fun W (hb : Below w.heap.size w W) => allOk_any kv s.kept W (hk.below hb) f1
  have C2 := dHide fun W (hb : Below w.heap.size w W) => allOk_any lv s.late W (hl.below hb) f2
  have C3 := dHide fun W (hb : Below w.heap.size w W) => ascending_any kv s.kept W (hk.below hb)
  obtain ⟨hk0, ka, kc, rfl, -, -⟩ := hk
  obtain ⟨hl0, la, lc, rfl, -, -⟩ := hl
  have C4 := dHide fun W => sorted_any _ _ s.lock W ka la s.kept.length kc s.late.length lc rfl rfl
  have SD : Hid (stP s ↔ (s.kept.length ≤ 200 ∧ ∀ e ∈ s.kept, entP e) ∧ (s.late.length ≤ 20 ∧ ∀ e ∈ s.late, entP e) ∧ ascE s.kept ∧ 0 ≤ s.lock ∧ s.lock ≤ 30) := Iff.rfl
  generalize stP s = P at *
  generalize s.lock = sl at *
  have X0 := Bx.new w [.slice ka s.kept.length kc, .slice la s.late.length lc, .int .i64 sl] 26
  have B0 : Below w.heap.size w (w.alloc (.cells #[.slice ka s.kept.length kc, .slice la s.late.length lc, .int .i64 sl] 26)) := (Below.refl _ _).alloc (Nat.le_refl _) _
  have HX0 := dHide X0
  clear X0
  by_cases h1 : (200 : Int) < (s.kept.length : Int)
  · have R : RetB P (.returned (.bool false)) := RetB.no fun h => by have := ((dUnhide SD).1 h).1.1; omega
    have hd : decide ((200 : Int) < (s.kept.length : Int)) = true := decide_eq_true h1
    go_enter Try.func13, Try.ntmps13
    go_wp2
    go_ret
    exact ⟨R, B0⟩
  by_cases h2 : (20 : Int) < (s.late.length : Int)
  · have R : RetB P (.returned (.bool false)) := RetB.no fun h => by have := ((dUnhide SD).1 h).2.1.1; omega
    have hd1 : decide ((200 : Int) < (s.kept.length : Int)) = false := decide_eq_false h1
    have hd : decide ((20 : Int) < (s.late.length : Int)) = true := decide_eq_true h2
    go_enter Try.func13, Try.ntmps13
    go_wp2
    go_ret
    exact ⟨R, B0⟩
  have hd1 : decide ((200 : Int) < (s.kept.length : Int)) = false := decide_eq_false h1
  have hd2 : decide ((20 : Int) < (s.late.length : Int)) = false := decide_eq_false h2
  by_cases h3 : sl < 0
  · have R : RetB P (.returned (.bool false)) := RetB.no fun h => by have := ((dUnhide SD).1 h).2.2.2.1; omega
    have hd : decide (sl < 0) = true := decide_eq_true h3
    go_enter Try.func13, Try.ntmps13
    go_wp2
    go_ret
    exact ⟨R, B0⟩
  have hd3 : decide (sl < 0) = false := decide_eq_false h3
  by_cases h4 : 30 < sl
  · have R : RetB P (.returned (.bool false)) := RetB.no fun h => by have := ((dUnhide SD).1 h).2.2.2.2; omega
    have hd : decide (30 < sl) = true := decide_eq_true h4
    go_enter Try.func13, Try.ntmps13
    go_wp2
    go_ret
    exact ⟨R, B0⟩
  have hd4 : decide (30 < sl) = false := decide_eq_false h4
  have HL := dHide (show s.kept.length ≤ 200 ∧ s.late.length ≤ 20 ∧ 0 ≤ sl ∧ sl ≤ 30 by omega)
  go_enter Try.func13, Try.ntmps13
  go_wp2_with fail
  refine (dUnhide C1 _ B0).mono ?_
  rintro e w1 ⟨⟨b1, rfl, k1⟩, bl1⟩
  have B1 := belowThen B0 bl1
  have HX1 := dHide ((dUnhide HX0).below bl1)
  clear B0 bl1 HX0 C1
  have p0 := dUnhide HX1 0 _ rfl
  have p1 := dUnhide HX1 1 _ rfl
  have p2 := dUnhide HX1 2 _ rfl
  cases b1
  · have R : RetB P (.returned (.bool false)) := RetB.no fun h => by have := k1.2 ((dUnhide SD).1 h).1.2; cases this
    clear k1
    go_wp2
    go_ret
    exact ⟨R, B1⟩
  have H1 := dHide (k1.1 rfl)
  clear k1
  go_wp2_with fail
  refine (dUnhide C2 _ B1).mono ?_
  rintro e w2 ⟨⟨b2, rfl, k2⟩, bl2⟩
  have B2 := belowThen B1 bl2
  have HX2 := dHide ((dUnhide HX1).below bl2)
  clear B1 bl2 HX1 C2 p0 p1 p2
  have p0 := dUnhide HX2 0 _ rfl
  have p1 := dUnhide HX2 1 _ rfl
  have p2 := dUnhide HX2 2 _ rfl
  cases b2
  · have R : RetB P (.returned (.bool false)) := RetB.no fun h => by have := k2.2 ((dUnhide SD).1 h).2.1.2; cases this
    clear k2
    go_wp2
    go_ret
    exact ⟨R, B2⟩
  have H2 := dHide (k2.1 rfl)
  clear k2
  go_wp2_with fail
  refine (dUnhide C4 _).mono ?_
  rintro e w3 ⟨rfl, bl3⟩
  have B3 := belowThen B2 bl3
  clear B2 bl3 HX2 C4 p0 p1 p2
  go_wp2_with fail
  refine (dUnhide C3 _ B3).mono ?_
  rintro e w4 ⟨⟨b3, rfl, k3⟩, bl4⟩
  have B4 := belowThen B3 bl4
  clear B3 bl4 C3
  have R : RetB P (.returned (.bool b3)) := ⟨b3, rfl, fun h => (dUnhide SD).2 ⟨⟨(dUnhide HL).1, dUnhide H1⟩, ⟨(dUnhide HL).2.1, dUnhide H2⟩, k3.1 h, (dUnhide HL).2.2⟩, fun h => k3.2 ((dUnhide SD).1 h).2.2.1⟩
  clear k3
  go_wp2
  go_ret
  exact ⟨R, B4⟩
end Go.Proofs.Ytejmfohkobhidaa
