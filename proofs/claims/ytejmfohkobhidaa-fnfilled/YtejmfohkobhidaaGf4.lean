/- Several texts in one: LoA, DedP. -/
import Derived.Test.YtejmfohkobhidaaGaC
import Derived.Test.YtejmfohkobhidaaGaG
namespace Go.Proofs.Ytejmfohkobhidaa
open Go.ChangeShapes Go.WideShapes Go.ChangeAt Go.RowKit
set_option linter.unusedVariables false
set_option linter.unusedSimpArgs false
set_option maxRecDepth 100000

/-- What may be lost. -/
def lostP (ds : List Int) (cop : Int) (xs : List Int) : Prop := nodesP ds cop xs ∧ ¬ holdsP ds cop xs
set_option maxHeartbeats 2000000 in
theorem specLost_any (sv v : Value) (ds xs : List Int) (cop : Int) (w : World) (hd : Ns w sv ds) (hv : Ns w v xs) (hl : xs.length ≤ 1000000000) :
    Calls Try.prog 22 #[.agg #[sv, .int .i64 cop], v] w fun e w' => RetB (lostP ds cop xs) e ∧ Below w.heap.size w w' := by
  have hb0 : ∀ o, Below w.heap.size w (w.alloc o) := fun o => (Below.refl _ _).alloc (Nat.le_refl _) o
  have C1 := dHide fun W (hb : Below w.heap.size w W) => specNodes_any sv v ds xs cop W (hd.below hb) (hv.below hb)
  have C2 := dHide fun W (hb : Below w.heap.size w W) => specHolds_any sv v ds xs cop W (hd.below hb) (hv.below hb) hl
  clear hl
  obtain ⟨h0, a, cap, rfl, -, -⟩ := hd
  obtain ⟨h0', a', cap', rfl, -, -⟩ := hv
  have T0 := Two.new w (.slice a ds.length cap) (.int .i64 cop) 42
  have B0 := hb0 (.cells #[.slice a ds.length cap, .int .i64 cop] 42)
  have RY : Hid (∀ b1 b2 : Bool, (b1 = true ↔ nodesP ds cop xs) → (b2 = true ↔ holdsP ds cop xs) → RetB (lostP ds cop xs) (.returned (.bool (b1 && !b2)))) := fun b1 b2 h1 h2 => ⟨_, rfl, by
    unfold lostP
    rw [← h1, ← h2]
    cases b1 <;> cases b2 <;> simp⟩
  go_enter Try.func22, Try.ntmps22
  go_wp2_with fail
  generalize hW : w.alloc (.cells #[.slice a ds.length cap, .int .i64 cop] 42) = w0 at *
  refine (dUnhide C1 _ B0).mono ?_
  rintro e w1 ⟨⟨b1, rfl, h1⟩, bl1⟩
  obtain ⟨k0, k1⟩ := T0.kept bl1
  have B1 := belowThen B0 bl1
  have H1 := dHide h1
  clear bl1 hb0 C1 T0 h1 B0 hW
  cases b1
  · have R := dUnhide RY false (@decide (holdsP ds cop xs) (Classical.propDecidable _)) (dUnhide H1) (@decide_eq_true_iff _ (Classical.propDecidable _))
    rw [Bool.false_and] at R
    clear RY H1 C2
    go_wp2
    go_ret
    exact ⟨R, B1⟩
  · have HN := dHide ((dUnhide H1).1 rfl)
    clear H1
    go_wp2_with fail
    refine (dUnhide C2 _ B1).mono ?_
    rintro e w2 ⟨⟨b2, rfl, h2⟩, bl2⟩
    have B2 := belowThen B1 bl2
    have R := dUnhide RY true b2 ⟨fun _ => dUnhide HN, fun _ => rfl⟩ h2
    rw [Bool.true_and] at R
    clear RY HN C2 h2 bl2 k0 k1
    go_wp2
    go_ret
    exact ⟨R, B2⟩
set_option maxHeartbeats 2000000 in
theorem implLost_any (sv v : Value) (ds xs : List Int) (cop : Int) (w : World) (hd : Ns w sv ds) (hv : Ns w v xs) (had : allInt ds) (hax : allInt xs) (hld : ds.length ≤ 1048576) (hlx : xs.length ≤ 1048576) (c0 : -9223372036854775808 ≤ cop) (c1 : cop ≤ 9223372036854775807) :
    Calls Try.prog 21 #[.agg #[sv, .int .i64 cop], v] w fun e w' => RetB (lostP ds cop xs) e ∧ Below w.heap.size w w' := by
  have hb0 : ∀ o, Below w.heap.size w (w.alloc o) := fun o => (Below.refl _ _).alloc (Nat.le_refl _) o
  have C1 := dHide fun W (hb : Below w.heap.size w W) => implNodes_any sv v ds xs cop W (hd.below hb) (hv.below hb) had hax hld hlx c0 c1
  have C2 := dHide fun W (hb : Below w.heap.size w W) => implHolds_any sv v ds xs cop W (hd.below hb) (hv.below hb) had hax hld hlx c0 c1
  clear had hax
  obtain ⟨h0, a, cap, rfl, -, -⟩ := hd
  obtain ⟨h0', a', cap', rfl, -, -⟩ := hv
  have T0 := Two.new w (.slice a ds.length cap) (.int .i64 cop) 42
  have B0 := hb0 (.cells #[.slice a ds.length cap, .int .i64 cop] 42)
  have RY : Hid (∀ b1 b2 : Bool, (b1 = true ↔ nodesP ds cop xs) → (b2 = true ↔ holdsP ds cop xs) → RetB (lostP ds cop xs) (.returned (.bool (b1 && !b2)))) := fun b1 b2 h1 h2 => ⟨_, rfl, by
    unfold lostP
    rw [← h1, ← h2]
    cases b1 <;> cases b2 <;> simp⟩
  go_enter Try.func21, Try.ntmps21
  go_wp2_with fail
  generalize hW : w.alloc (.cells #[.slice a ds.length cap, .int .i64 cop] 42) = w0 at *
  refine (dUnhide C1 _ B0).mono ?_
  rintro e w1 ⟨⟨b1, rfl, h1⟩, bl1⟩
  obtain ⟨k0, k1⟩ := T0.kept bl1
  have B1 := belowThen B0 bl1
  have H1 := dHide h1
  clear bl1 hb0 C1 T0 h1 B0 hW
  cases b1
  · have R := dUnhide RY false (@decide (holdsP ds cop xs) (Classical.propDecidable _)) (dUnhide H1) (@decide_eq_true_iff _ (Classical.propDecidable _))
    rw [Bool.false_and] at R
    clear RY H1 C2
    go_wp2
    go_ret
    exact ⟨R, B1⟩
  · have HN := dHide ((dUnhide H1).1 rfl)
    clear H1
    go_wp2_with fail
    refine (dUnhide C2 _ B1).mono ?_
    rintro e w2 ⟨⟨b2, rfl, h2⟩, bl2⟩
    have B2 := belowThen B1 bl2
    have R := dUnhide RY true b2 ⟨fun _ => dUnhide HN, fun _ => rfl⟩ h2
    rw [Bool.true_and] at R
    clear RY HN C2 h2 bl2 k0 k1
    go_wp2
    go_ret
    exact ⟨R, B2⟩
end Go.Proofs.Ytejmfohkobhidaa
namespace Go.Proofs.Ytejmfohkobhidaa
open Go.ChangeShapes Go.WideShapes Go.ChangeAt Go.RowKit
set_option linter.unusedVariables false
set_option linter.unusedSimpArgs false
set_option maxRecDepth 100000

theorem mem_fold {y : Int} : ∀ (xs l : List Int), y ∈ xs.foldl addD l ↔ y ∈ l ∨ y ∈ xs
  | [], l => by simp
  | x :: xs, l => by
    rw [List.foldl_cons, mem_fold xs (addD l x), mem_addD, List.mem_cons]
    constructor
    · rintro ((h | h) | h)
      · exact .inl h
      · exact .inr (.inl h)
      · exact .inr (.inr h)
    · rintro (h | h | h)
      · exact .inl (.inl h)
      · exact .inl (.inr h)
      · exact .inr h
theorem mem_dedL {y : Int} {xs : List Int} : y ∈ dedL xs ↔ y ∈ xs := by
  unfold dedL
  rw [mem_fold]
  simp
end Go.Proofs.Ytejmfohkobhidaa
