/- Entries: the plain model, and spec's EntryOk. -/
import Derived.Test.YtcjchbapeoeaeaaPlaceB
import Derived.Test.YtcjchbapeoeaeaaBytesP
import Derived.Test.YtcjchbapeoeaeaaInP
namespace Go.Proofs.Ytcjchbapeoeaeaa
open Go.ChangeShapes Go.WideShapes Go.ChangeAt Go.RowKit
set_option linter.unusedVariables false

/-- An entry. -/
structure Ent where
  pl : Int
  wave : Int
  hole : Bool
  data : ByteArray
/-- An entry as a value. -/
def Ent.val (e : Ent) : Value := .agg #[.int .i64 e.pl, .int .i64 e.wave, .bool e.hole, .string e.data]
/-- Its numbers are ints. -/
def Ent.fits (e : Ent) : Prop := -9223372036854775808 ≤ e.pl ∧ e.pl ≤ 9223372036854775807 ∧ -9223372036854775808 ≤ e.wave ∧ e.wave ≤ 9223372036854775807 ∧ e.data.size ≤ 9223372036854775807
/-- An entry that is right. -/
def entP (e : Ent) : Prop := isPl e.pl ∧ 0 ≤ e.wave ∧ e.wave ≤ 30 ∧ (0 < e.wave → e.pl / 4294967296 < e.wave) ∧ e.data.size ≤ 40 ∧ (e.hole = true → 0 < e.wave ∧ e.data.size = 0)
set_option maxHeartbeats 1000000 in
theorem specEntOk_no1 (x v : Int) (h : Bool) (d : ByteArray) (u : x ≤ 9223372036854775807) (hp : ¬ isPl x) (w : World) :
    Calls Try.prog 12 #[.agg #[.int .i64 x, .int .i64 v, .bool h, .string d]] w fun e w' => e = .returned (.bool false) ∧ Below w.heap.size w w' := by
  go_enter Try.func12, Try.ntmps12
  go_wp2
  go_quiet (first | (go_at_call 32; refine Calls.quiet_of_same (flip (specOk_no x u hp _))))
  go_wp2
  go_ret
  exact ⟨rfl, below_drewN ((Below.refl _ _).alloc (Nat.le_refl _) _) _⟩
set_option maxHeartbeats 1000000 in
theorem specEntOk_no2 (x v : Int) (h : Bool) (d : ByteArray) (hp : isPl x) (hv : v < 0 ∨ 30 < v) (w : World) :
    Calls Try.prog 12 #[.agg #[.int .i64 x, .int .i64 v, .bool h, .string d]] w fun e w' => e = .returned (.bool false) ∧ Below w.heap.size w w' := by
  go_enter Try.func12, Try.ntmps12
  go_wp2
  go_quiet (first | (go_at_call 32; refine Calls.quiet_of_same (flip (specOk_yes x hp _))) | (go_at_call 33; refine Calls.quiet_of_same (l1In_no v 0 30 hv _)))
  go_wp2
  go_ret
  exact ⟨rfl, below_drewN ((Below.refl _ _).alloc (Nat.le_refl _) _) _⟩
set_option maxHeartbeats 1000000 in
theorem specEntOk_no3 (x v : Int) (h : Bool) (d : ByteArray) (hp : isPl x) (v0 : 0 < v) (v1 : v ≤ 30) (hv : v ≤ x / 4294967296) (w : World) :
    Calls Try.prog 12 #[.agg #[.int .i64 x, .int .i64 v, .bool h, .string d]] w fun e w' => e = .returned (.bool false) ∧ Below w.heap.size w w' := by
  have hx := hp
  obtain ⟨h0, h1, h2, h3, h4⟩ := hx
  go_enter Try.func12, Try.ntmps12
  go_wp2
  go_quiet (first | (go_at_call 32; refine Calls.quiet_of_same (flip (specOk_yes x hp _))) | (go_at_call 33; refine Calls.quiet_of_same (l1In_yes v 0 30 (by omega) (by omega) _)) | (go_at_call 34; refine Calls.quiet_of_same (flip (specEpoch_yes x hp _))))
  go_wp2
  go_ret
  exact ⟨rfl, below_drewN ((Below.refl _ _).alloc (Nat.le_refl _) _) _⟩
set_option maxHeartbeats 1000000 in
theorem specEntOk_no4 (x : Int) (h : Bool) (d : ByteArray) (hp : isPl x) (hd : (40 : Int) < (d.size : Int)) (w : World) :
    Calls Try.prog 12 #[.agg #[.int .i64 x, .int .i64 0, .bool h, .string d]] w fun e w' => e = .returned (.bool false) ∧ Below w.heap.size w w' := by
  have hx := hp
  obtain ⟨h0, h1, h2, h3, h4⟩ := hx
  go_enter Try.func12, Try.ntmps12
  go_wp2
  go_quiet (first | (go_at_call 32; refine Calls.quiet_of_same (flip (specOk_yes x hp _))) | (go_at_call 33; refine Calls.quiet_of_same (l1In_yes 0 0 30 (by omega) (by omega) _)) | (go_at_call 34; refine Calls.quiet_of_same (flip (specEpoch_yes x hp _))))
  go_wp2
  go_ret
  exact ⟨rfl, below_drewN ((Below.refl _ _).alloc (Nat.le_refl _) _) _⟩
set_option maxHeartbeats 1000000 in
theorem specEntOk_no5 (x v : Int) (h : Bool) (d : ByteArray) (hp : isPl x) (v0 : 0 < v) (v1 : v ≤ 30) (hv : x / 4294967296 < v) (hd : (40 : Int) < (d.size : Int)) (w : World) :
    Calls Try.prog 12 #[.agg #[.int .i64 x, .int .i64 v, .bool h, .string d]] w fun e w' => e = .returned (.bool false) ∧ Below w.heap.size w w' := by
  have hx := hp
  obtain ⟨h0, h1, h2, h3, h4⟩ := hx
  go_enter Try.func12, Try.ntmps12
  go_wp2
  go_quiet (first | (go_at_call 32; refine Calls.quiet_of_same (flip (specOk_yes x hp _))) | (go_at_call 33; refine Calls.quiet_of_same (l1In_yes v 0 30 (by omega) (by omega) _)) | (go_at_call 34; refine Calls.quiet_of_same (flip (specEpoch_yes x hp _))))
  go_wp2
  go_ret
  exact ⟨rfl, below_drewN ((Below.refl _ _).alloc (Nat.le_refl _) _) _⟩
set_option maxHeartbeats 1000000 in
theorem specEntOk_w0f (x : Int) (d : ByteArray) (hp : isPl x) (hd : (d.size : Int) ≤ 40) (w : World) :
    Calls Try.prog 12 #[.agg #[.int .i64 x, .int .i64 0, .bool false, .string d]] w fun e w' => e = .returned (.bool true) ∧ Below w.heap.size w w' := by
  have hx := hp
  obtain ⟨h0, h1, h2, h3, h4⟩ := hx
  go_enter Try.func12, Try.ntmps12
  go_wp2
  go_quiet (first | (go_at_call 32; refine Calls.quiet_of_same (flip (specOk_yes x hp _))) | (go_at_call 33; refine Calls.quiet_of_same (l1In_yes 0 0 30 (by omega) (by omega) _)) | (go_at_call 34; refine Calls.quiet_of_same (flip (specEpoch_yes x hp _))))
  go_wp2
  go_ret
  exact ⟨rfl, below_drewN ((Below.refl _ _).alloc (Nat.le_refl _) _) _⟩
set_option maxHeartbeats 1000000 in
theorem specEntOk_w0t (x : Int) (d : ByteArray) (hp : isPl x) (hd : (d.size : Int) ≤ 40) (w : World) :
    Calls Try.prog 12 #[.agg #[.int .i64 x, .int .i64 0, .bool true, .string d]] w fun e w' => e = .returned (.bool false) ∧ Below w.heap.size w w' := by
  have hx := hp
  obtain ⟨h0, h1, h2, h3, h4⟩ := hx
  go_enter Try.func12, Try.ntmps12
  go_wp2
  go_quiet (first | (go_at_call 32; refine Calls.quiet_of_same (flip (specOk_yes x hp _))) | (go_at_call 33; refine Calls.quiet_of_same (l1In_yes 0 0 30 (by omega) (by omega) _)) | (go_at_call 34; refine Calls.quiet_of_same (flip (specEpoch_yes x hp _))))
  go_wp2
  go_ret
  exact ⟨rfl, below_drewN ((Below.refl _ _).alloc (Nat.le_refl _) _) _⟩
set_option maxHeartbeats 1000000 in
theorem specEntOk_w1 (x v : Int) (d : ByteArray) (hp : isPl x) (v0 : 0 < v) (v1 : v ≤ 30) (hv : x / 4294967296 < v) (hd : (d.size : Int) ≤ 40) (w : World) :
    Calls Try.prog 12 #[.agg #[.int .i64 x, .int .i64 v, .bool false, .string d]] w fun e w' => e = .returned (.bool true) ∧ Below w.heap.size w w' := by
  have hx := hp
  obtain ⟨h0, h1, h2, h3, h4⟩ := hx
  go_enter Try.func12, Try.ntmps12
  go_wp2
  go_quiet (first | (go_at_call 32; refine Calls.quiet_of_same (flip (specOk_yes x hp _))) | (go_at_call 33; refine Calls.quiet_of_same (l1In_yes v 0 30 (by omega) (by omega) _)) | (go_at_call 34; refine Calls.quiet_of_same (flip (specEpoch_yes x hp _))))
  go_wp2
  go_ret
  exact ⟨rfl, below_drewN ((Below.refl _ _).alloc (Nat.le_refl _) _) _⟩
set_option maxHeartbeats 1000000 in
theorem specEntOk_w2 (x v : Int) (hp : isPl x) (v0 : 0 < v) (v1 : v ≤ 30) (hv : x / 4294967296 < v) (w : World) :
    Calls Try.prog 12 #[.agg #[.int .i64 x, .int .i64 v, .bool true, .string ⟨#[]⟩]] w fun e w' => e = .returned (.bool true) ∧ Below w.heap.size w w' := by
  have hx := hp
  obtain ⟨h0, h1, h2, h3, h4⟩ := hx
  go_enter Try.func12, Try.ntmps12
  go_wp2
  go_quiet (first | (go_at_call 32; refine Calls.quiet_of_same (flip (specOk_yes x hp _))) | (go_at_call 33; refine Calls.quiet_of_same (l1In_yes v 0 30 (by omega) (by omega) _)) | (go_at_call 34; refine Calls.quiet_of_same (flip (specEpoch_yes x hp _))))
  go_wp2
  go_ret
  exact ⟨rfl, below_drewN ((Below.refl _ _).alloc (Nat.le_refl _) _) _⟩
set_option maxHeartbeats 1000000 in
theorem specEntOk_w3 (x v : Int) (d : ByteArray) (hp : isPl x) (v0 : 0 < v) (v1 : v ≤ 30) (hv : x / 4294967296 < v) (hd : (d.size : Int) ≤ 40) (he : d.toList.isEmpty = false) (w : World) :
    Calls Try.prog 12 #[.agg #[.int .i64 x, .int .i64 v, .bool true, .string d]] w fun e w' => e = .returned (.bool false) ∧ Below w.heap.size w w' := by
  have hx := hp
  obtain ⟨h0, h1, h2, h3, h4⟩ := hx
  go_enter Try.func12, Try.ntmps12
  go_wp2
  go_quiet (first | (go_at_call 32; refine Calls.quiet_of_same (flip (specOk_yes x hp _))) | (go_at_call 33; refine Calls.quiet_of_same (l1In_yes v 0 30 (by omega) (by omega) _)) | (go_at_call 34; refine Calls.quiet_of_same (flip (specEpoch_yes x hp _))))
  go_wp2
  go_ret
  exact ⟨rfl, below_drewN ((Below.refl _ _).alloc (Nat.le_refl _) _) _⟩
end Go.Proofs.Ytcjchbapeoeaeaa
