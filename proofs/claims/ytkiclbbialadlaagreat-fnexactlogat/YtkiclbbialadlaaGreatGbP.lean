/- Several texts in one: PlaceA, PlaceB, EntA, EntC, EsP, EzP, StA, PlaceC, ImFp. -/
import Derived.Test.YtkiclbbialadlaaGreatRows
import Derived.Handy
import Derived.Outline
import Derived.Deep.RegionWith
import Derived.Test.YtkiclbbialadlaaGreatGaA
import Derived.Test.YtkiclbbialadlaaGreatGaC
import Derived.Laws.MakeOwn
import Derived.OwnWalk
namespace Go.Proofs.YtkiclbbialadlaaGreat
open Go.ChangeShapes Go.WideShapes Go.ChangeAt Go.RowKit
set_option linter.unusedVariables false
theorem isPlace_yes (a b : Int) (h1 : 1 ≤ a) (w : World) :
  Calls Tryz.prog 244 #[.agg #[.int .i64 a, .int .i64 b]] w fun e w' => e = .returned (.bool true) ∧ w.alloc (.cells #[.int .i64 a, .int .i64 b] 256) = w' := by
 have ha : (a == 0) = false := beq_eq_false_iff_ne.2 (by omega)
 go_enter Tryz.func244, Tryz.ntmps244
 go_wp2
 go_ret
 exact ⟨rfl, rfl⟩
theorem isPlace_no (w : World) :
  Calls Tryz.prog 244 #[.agg #[.int .i64 0, .int .i64 0]] w fun e w' => e = .returned (.bool false) ∧ w.alloc (.cells #[.int .i64 0, .int .i64 0] 256) = w' := by
 go_enter Tryz.func244, Tryz.ntmps244
 go_wp2
 go_ret
 exact ⟨rfl, rfl⟩
theorem checked_yes (a b : Int) (h1 : 1 ≤ a) (h2 : a ≤ 30) (h3 : 1 ≤ b) (h4 : b ≤ 60) (w : World) :
  Calls Tryz.prog 236 #[.agg #[.int .i64 a, .int .i64 b]] w fun e w' => e = .returned (.agg #[.int .i64 a, .int .i64 b]) ∧ (w.alloc (.cells #[.int .i64 a, .int .i64 b] 256)).alloc (.cells #[.int .i64 a, .int .i64 b] 256) = w' := by
 go_enter Tryz.func236, Tryz.ntmps236
 go_wp2
 go_returns
 exact ⟨rfl, rfl⟩
theorem checked_no (a b : Int) (h : a < 1 ∨ 30 < a ∨ b < 1 ∨ 60 < b) (w : World) :
  Calls Tryz.prog 236 #[.agg #[.int .i64 a, .int .i64 b]] w fun e w' => e = .returned (.agg #[.int .i64 0, .int .i64 0]) ∧ (w.alloc (.cells #[.int .i64 a, .int .i64 b] 256)).alloc (.cells #[.int .i64 0, .int .i64 0] 256) = w' := by
 by_cases h1 : a < 1
 ·go_enter Tryz.func236, Tryz.ntmps236
  go_wp2
  go_returns
  exact ⟨rfl, rfl⟩
 ·by_cases h2 : 30 < a
  ·go_enter Tryz.func236, Tryz.ntmps236
   go_wp2
   go_returns
   exact ⟨rfl, rfl⟩
  ·by_cases h3 : b < 1
   ·go_enter Tryz.func236, Tryz.ntmps236
    go_wp2
    go_returns
    exact ⟨rfl, rfl⟩
   ·have h4 : 60 < b := by omega
    clear h
    go_enter Tryz.func236, Tryz.ntmps236
    go_wp2
    go_returns
    exact ⟨rfl, rfl⟩
theorem hide {p : Prop} (h : p) : Hid p := h
theorem unhide {p : Prop} (h : Hid p) : p := h
theorem split_yes (x : Int) (h0 : 0 < x) (h1 : 1 ≤ x / 4294967296) (h2 : x / 4294967296 ≤ 30) (h3 : 1 ≤ x % 4294967296) (h4 : x % 4294967296 ≤ 60) (w : World) :
  Calls Tryz.prog 216 #[.int .i64 x] w fun e w' => e = .returned (.agg #[.int .i64 (x / 4294967296), .int .i64 (x % 4294967296)]) ∧ Below w.heap.size w w' := by
 have hx : x ≤ 9223372036854775807 := by omega
 go_enter Tryz.func216, Tryz.ntmps216
 go_wp2_with (go_at_call 236; refine (checked_yes _ _ h1 h2 h3 h4 _).mono ?_; rintro e w1 ⟨rfl, rfl⟩)
 go_returns
 exact ⟨rfl, by go_grown⟩
theorem split_no_aid (x : Int) (h : ¬ (0 < x ∧ 1 ≤ x / 4294967296 ∧ x / 4294967296 ≤ 30 ∧ 1 ≤ x % 4294967296 ∧ x % 4294967296 ≤ 60)) (l : -9223372036854775808 ≤ x) (u : x ≤ 9223372036854775807) :
  wrap64 (x.tdiv 4294967296) < 1 ∨ 30 < wrap64 (x.tdiv 4294967296) ∨ x.tmod 4294967296 < 1 ∨ 60 < x.tmod 4294967296 := by
 by_cases h0 : 0 < x
 ·rw [Int.tdiv_eq_ediv_of_nonneg (by omega), Int.tmod_eq_emod_of_nonneg (by omega)]
  have : wrap64 (x / 4294967296) = x / 4294967296 := IntWalk.wrap64_in _ (by omega)
  rw [this]
  omega
 ·refine .inr (.inr (.inl ?_))
  obtain ⟨y, rfl⟩ : ∃ y, x = -y := ⟨-x, by omega⟩
  rw [Int.neg_tmod, Int.tmod_eq_emod_of_nonneg (by omega)]
  omega
theorem split_no (x : Int) (l : -9223372036854775808 ≤ x) (u : x ≤ 9223372036854775807) (h : ¬ (0 < x ∧ 1 ≤ x / 4294967296 ∧ x / 4294967296 ≤ 30 ∧ 1 ≤ x % 4294967296 ∧ x % 4294967296 ≤ 60)) (w : World) :
  Calls Tryz.prog 216 #[.int .i64 x] w fun e w' => e = .returned (.agg #[.int .i64 0, .int .i64 0]) ∧ Below w.heap.size w w' := by
 have H := hide (split_no_aid x h l u)
 clear h l u
 go_enter Tryz.func216, Tryz.ntmps216
 go_wp2_with (go_at_call 236; refine (checked_no _ _ (unhide H) _).mono ?_; rintro e w1 ⟨rfl, rfl⟩)
 go_returns
 exact ⟨rfl, by go_grown⟩
def isPl (x : Int) : Prop := 0 < x ∧ 1 ≤ x / 4294967296 ∧ x / 4294967296 ≤ 30 ∧ 1 ≤ x % 4294967296 ∧ x % 4294967296 ≤ 60
theorem specOk_yes (x : Int) (h : isPl x) (w : World) :
  Calls Tryz.prog 113 #[.int .i64 x] w fun e w' => e = .returned (.bool true) ∧ w = w' := by
 obtain ⟨h0, h1, h2, h3, h4⟩ := h
 have hx : x ≤ 9223372036854775807 := by omega
 go_enter Tryz.func113, Tryz.ntmps113
 go_wp2
 go_ret
 exact ⟨rfl, rfl⟩
theorem specOk_no (x : Int) (u : x ≤ 9223372036854775807) (h : ¬ isPl x) (w : World) :
  Calls Tryz.prog 113 #[.int .i64 x] w fun e w' => e = .returned (.bool false) ∧ w = w' := by
 unfold isPl at h
 by_cases h0 : 0 < x
 ·by_cases h1 : 1 ≤ x / 4294967296
  ·by_cases h2 : x / 4294967296 ≤ 30
   ·by_cases h3 : 1 ≤ x % 4294967296
    ·have h4 : ¬ x % 4294967296 ≤ 60 := by omega
     clear h
     go_enter Tryz.func113, Tryz.ntmps113
     go_wp2
     go_ret
     exact ⟨rfl, rfl⟩
    ·clear h
     go_enter Tryz.func113, Tryz.ntmps113
     go_wp2
     go_ret
     exact ⟨rfl, rfl⟩
   ·clear h
    go_enter Tryz.func113, Tryz.ntmps113
    go_wp2
    go_ret
    exact ⟨rfl, rfl⟩
  ·clear h
   go_enter Tryz.func113, Tryz.ntmps113
   go_wp2
   go_ret
   exact ⟨rfl, rfl⟩
 ·clear h
  go_enter Tryz.func113, Tryz.ntmps113
  go_wp2
  go_ret
  exact ⟨rfl, rfl⟩
theorem specEpoch_yes (x : Int) (h : isPl x) (w : World) :
  Calls Tryz.prog 114 #[.int .i64 x] w fun e w' => e = .returned (.int .i64 (x / 4294967296)) ∧ w = w' := by
 have hx := h
 obtain ⟨h0, h1, h2, h3, h4⟩ := hx
 have hx : x ≤ 9223372036854775807 := by omega
 go_enter Tryz.func114, Tryz.ntmps114
 go_wp2_with (go_at_call 113; refine (specOk_yes x h _).mono ?_; rintro e w1 ⟨rfl, rfl⟩)
 go_ret
 exact ⟨rfl, rfl⟩
theorem specOff_yes (x : Int) (h : isPl x) (w : World) :
  Calls Tryz.prog 199 #[.int .i64 x] w fun e w' => e = .returned (.int .i64 (x % 4294967296)) ∧ w = w' := by
 have hx := h
 obtain ⟨h0, h1, h2, h3, h4⟩ := hx
 have hx : x ≤ 9223372036854775807 := by omega
 go_enter Tryz.func199, Tryz.ntmps199
 go_wp2_with (go_at_call 113; refine (specOk_yes x h _).mono ?_; rintro e w1 ⟨rfl, rfl⟩)
 go_ret
 exact ⟨rfl, rfl⟩
theorem implOk_yes (x : Int) (h : isPl x) (w : World) :
  Calls Tryz.prog 225 #[.int .i64 x] w fun e w' => e = .returned (.bool true) ∧ Below w.heap.size w w' := by
 obtain ⟨h0, h1, h2, h3, h4⟩ := h
 have H0 := hide h0
 have H3 := hide h3
 have H4 := hide h4
 have H2 := hide h2
 clear h0 h3 h4 h2
 go_enter Tryz.func225, Tryz.ntmps225
 go_wp2_with (first | (go_at_call 216; refine (split_yes x (unhide H0) h1 (unhide H2) (unhide H3) (unhide H4) _).mono ?_; rintro e w1 ⟨rfl, hb⟩) | (go_at_call 244; refine (isPlace_yes _ _ h1 _).mono ?_; rintro e w1 ⟨rfl, rfl⟩))
 go_ret
 exact ⟨rfl, Below.alloc hb hb.size _⟩
theorem implOk_no (x : Int) (l : -9223372036854775808 ≤ x) (u : x ≤ 9223372036854775807) (h : ¬ isPl x) (w : World) :
  Calls Tryz.prog 225 #[.int .i64 x] w fun e w' => e = .returned (.bool false) ∧ Below w.heap.size w w' := by
 go_enter Tryz.func225, Tryz.ntmps225
 go_wp2_with (first | (go_at_call 216; refine (split_no x l u h _).mono ?_; rintro e w1 ⟨rfl, hb⟩) | (go_at_call 244; refine (isPlace_no _).mono ?_; rintro e w1 ⟨rfl, rfl⟩))
 go_ret
 exact ⟨rfl, Below.alloc hb hb.size _⟩
structure Ent where
 pl : Int
 wave : Int
 hole : Bool
 data : ByteArray
def Ent.val (e : Ent) : Value := .agg #[.int .i64 e.pl, .int .i64 e.wave, .bool e.hole, .string e.data]
def Ent.fits (e : Ent) : Prop := -9223372036854775808 ≤ e.pl ∧ e.pl ≤ 9223372036854775807 ∧ -9223372036854775808 ≤ e.wave ∧ e.wave ≤ 9223372036854775807 ∧ e.data.size ≤ 9223372036854775807
def entP (e : Ent) : Prop := isPl e.pl ∧ 0 ≤ e.wave ∧ e.wave ≤ 30 ∧ (0 < e.wave → e.pl / 4294967296 < e.wave) ∧ e.data.size ≤ 40 ∧ (e.hole = true → 0 < e.wave ∧ e.data.size = 0)
set_option maxHeartbeats 1000000 in
theorem specEntOk_no1 (x v : Int) (h : Bool) (d : ByteArray) (u : x ≤ 9223372036854775807) (hp : ¬ isPl x) (w : World) :
  Calls Tryz.prog 161 #[.agg #[.int .i64 x, .int .i64 v, .bool h, .string d]] w fun e w' => e = .returned (.bool false) ∧ Below w.heap.size w w' := by
 go_enter Tryz.func161, Tryz.ntmps161
 go_wp2
 go_quiet (first | (go_at_call 113; refine Calls.quiet_of_same (flip (specOk_no x u hp _))))
 go_wp2
 go_ret
 exact ⟨rfl, below_drewN ((Below.refl _ _).alloc (Nat.le_refl _) _) _⟩
set_option maxHeartbeats 1000000 in
theorem specEntOk_no2 (x v : Int) (h : Bool) (d : ByteArray) (hp : isPl x) (hv : v < 0 ∨ 30 < v) (w : World) :
  Calls Tryz.prog 161 #[.agg #[.int .i64 x, .int .i64 v, .bool h, .string d]] w fun e w' => e = .returned (.bool false) ∧ Below w.heap.size w w' := by
 go_enter Tryz.func161, Tryz.ntmps161
 go_wp2
 go_quiet (first | (go_at_call 113; refine Calls.quiet_of_same (flip (specOk_yes x hp _))) | (go_at_call 56; refine Calls.quiet_of_same (l1In_no v 0 30 hv _)))
 go_wp2
 go_ret
 exact ⟨rfl, below_drewN ((Below.refl _ _).alloc (Nat.le_refl _) _) _⟩
set_option maxHeartbeats 1000000 in
theorem specEntOk_no3 (x v : Int) (h : Bool) (d : ByteArray) (hp : isPl x) (v0 : 0 < v) (v1 : v ≤ 30) (hv : v ≤ x / 4294967296) (w : World) :
  Calls Tryz.prog 161 #[.agg #[.int .i64 x, .int .i64 v, .bool h, .string d]] w fun e w' => e = .returned (.bool false) ∧ Below w.heap.size w w' := by
 have hx := hp
 obtain ⟨h0, h1, h2, h3, h4⟩ := hx
 go_enter Tryz.func161, Tryz.ntmps161
 go_wp2
 go_quiet (first | (go_at_call 113; refine Calls.quiet_of_same (flip (specOk_yes x hp _))) | (go_at_call 56; refine Calls.quiet_of_same (l1In_yes v 0 30 (by omega) (by omega) _)) | (go_at_call 114; refine Calls.quiet_of_same (flip (specEpoch_yes x hp _))))
 go_wp2
 go_ret
 exact ⟨rfl, below_drewN ((Below.refl _ _).alloc (Nat.le_refl _) _) _⟩
set_option maxHeartbeats 1000000 in
theorem specEntOk_no4 (x : Int) (h : Bool) (d : ByteArray) (hp : isPl x) (hd : (40 : Int) < (d.size : Int)) (w : World) :
  Calls Tryz.prog 161 #[.agg #[.int .i64 x, .int .i64 0, .bool h, .string d]] w fun e w' => e = .returned (.bool false) ∧ Below w.heap.size w w' := by
 have hx := hp
 obtain ⟨h0, h1, h2, h3, h4⟩ := hx
 go_enter Tryz.func161, Tryz.ntmps161
 go_wp2
 go_quiet (first | (go_at_call 113; refine Calls.quiet_of_same (flip (specOk_yes x hp _))) | (go_at_call 56; refine Calls.quiet_of_same (l1In_yes 0 0 30 (by omega) (by omega) _)) | (go_at_call 114; refine Calls.quiet_of_same (flip (specEpoch_yes x hp _))))
 go_wp2
 go_ret
 exact ⟨rfl, below_drewN ((Below.refl _ _).alloc (Nat.le_refl _) _) _⟩
set_option maxHeartbeats 1000000 in
theorem specEntOk_no5 (x v : Int) (h : Bool) (d : ByteArray) (hp : isPl x) (v0 : 0 < v) (v1 : v ≤ 30) (hv : x / 4294967296 < v) (hd : (40 : Int) < (d.size : Int)) (w : World) :
  Calls Tryz.prog 161 #[.agg #[.int .i64 x, .int .i64 v, .bool h, .string d]] w fun e w' => e = .returned (.bool false) ∧ Below w.heap.size w w' := by
 have hx := hp
 obtain ⟨h0, h1, h2, h3, h4⟩ := hx
 go_enter Tryz.func161, Tryz.ntmps161
 go_wp2
 go_quiet (first | (go_at_call 113; refine Calls.quiet_of_same (flip (specOk_yes x hp _))) | (go_at_call 56; refine Calls.quiet_of_same (l1In_yes v 0 30 (by omega) (by omega) _)) | (go_at_call 114; refine Calls.quiet_of_same (flip (specEpoch_yes x hp _))))
 go_wp2
 go_ret
 exact ⟨rfl, below_drewN ((Below.refl _ _).alloc (Nat.le_refl _) _) _⟩
set_option maxHeartbeats 1000000 in
theorem specEntOk_w0f (x : Int) (d : ByteArray) (hp : isPl x) (hd : (d.size : Int) ≤ 40) (w : World) :
  Calls Tryz.prog 161 #[.agg #[.int .i64 x, .int .i64 0, .bool false, .string d]] w fun e w' => e = .returned (.bool true) ∧ Below w.heap.size w w' := by
 have hx := hp
 obtain ⟨h0, h1, h2, h3, h4⟩ := hx
 go_enter Tryz.func161, Tryz.ntmps161
 go_wp2
 go_quiet (first | (go_at_call 113; refine Calls.quiet_of_same (flip (specOk_yes x hp _))) | (go_at_call 56; refine Calls.quiet_of_same (l1In_yes 0 0 30 (by omega) (by omega) _)) | (go_at_call 114; refine Calls.quiet_of_same (flip (specEpoch_yes x hp _))))
 go_wp2
 go_ret
 exact ⟨rfl, below_drewN ((Below.refl _ _).alloc (Nat.le_refl _) _) _⟩
set_option maxHeartbeats 1000000 in
theorem specEntOk_w0t (x : Int) (d : ByteArray) (hp : isPl x) (hd : (d.size : Int) ≤ 40) (w : World) :
  Calls Tryz.prog 161 #[.agg #[.int .i64 x, .int .i64 0, .bool true, .string d]] w fun e w' => e = .returned (.bool false) ∧ Below w.heap.size w w' := by
 have hx := hp
 obtain ⟨h0, h1, h2, h3, h4⟩ := hx
 go_enter Tryz.func161, Tryz.ntmps161
 go_wp2
 go_quiet (first | (go_at_call 113; refine Calls.quiet_of_same (flip (specOk_yes x hp _))) | (go_at_call 56; refine Calls.quiet_of_same (l1In_yes 0 0 30 (by omega) (by omega) _)) | (go_at_call 114; refine Calls.quiet_of_same (flip (specEpoch_yes x hp _))))
 go_wp2
 go_ret
 exact ⟨rfl, below_drewN ((Below.refl _ _).alloc (Nat.le_refl _) _) _⟩
set_option maxHeartbeats 1000000 in
theorem specEntOk_w1 (x v : Int) (d : ByteArray) (hp : isPl x) (v0 : 0 < v) (v1 : v ≤ 30) (hv : x / 4294967296 < v) (hd : (d.size : Int) ≤ 40) (w : World) :
  Calls Tryz.prog 161 #[.agg #[.int .i64 x, .int .i64 v, .bool false, .string d]] w fun e w' => e = .returned (.bool true) ∧ Below w.heap.size w w' := by
 have hx := hp
 obtain ⟨h0, h1, h2, h3, h4⟩ := hx
 go_enter Tryz.func161, Tryz.ntmps161
 go_wp2
 go_quiet (first | (go_at_call 113; refine Calls.quiet_of_same (flip (specOk_yes x hp _))) | (go_at_call 56; refine Calls.quiet_of_same (l1In_yes v 0 30 (by omega) (by omega) _)) | (go_at_call 114; refine Calls.quiet_of_same (flip (specEpoch_yes x hp _))))
 go_wp2
 go_ret
 exact ⟨rfl, below_drewN ((Below.refl _ _).alloc (Nat.le_refl _) _) _⟩
set_option maxHeartbeats 1000000 in
theorem specEntOk_w2 (x v : Int) (hp : isPl x) (v0 : 0 < v) (v1 : v ≤ 30) (hv : x / 4294967296 < v) (w : World) :
  Calls Tryz.prog 161 #[.agg #[.int .i64 x, .int .i64 v, .bool true, .string ⟨#[]⟩]] w fun e w' => e = .returned (.bool true) ∧ Below w.heap.size w w' := by
 have hx := hp
 obtain ⟨h0, h1, h2, h3, h4⟩ := hx
 go_enter Tryz.func161, Tryz.ntmps161
 go_wp2
 go_quiet (first | (go_at_call 113; refine Calls.quiet_of_same (flip (specOk_yes x hp _))) | (go_at_call 56; refine Calls.quiet_of_same (l1In_yes v 0 30 (by omega) (by omega) _)) | (go_at_call 114; refine Calls.quiet_of_same (flip (specEpoch_yes x hp _))))
 go_wp2
 go_ret
 exact ⟨rfl, below_drewN ((Below.refl _ _).alloc (Nat.le_refl _) _) _⟩
set_option maxHeartbeats 1000000 in
theorem specEntOk_w3 (x v : Int) (d : ByteArray) (hp : isPl x) (v0 : 0 < v) (v1 : v ≤ 30) (hv : x / 4294967296 < v) (hd : (d.size : Int) ≤ 40) (he : d.toList.isEmpty = false) (w : World) :
  Calls Tryz.prog 161 #[.agg #[.int .i64 x, .int .i64 v, .bool true, .string d]] w fun e w' => e = .returned (.bool false) ∧ Below w.heap.size w w' := by
 have hx := hp
 obtain ⟨h0, h1, h2, h3, h4⟩ := hx
 go_enter Tryz.func161, Tryz.ntmps161
 go_wp2
 go_quiet (first | (go_at_call 113; refine Calls.quiet_of_same (flip (specOk_yes x hp _))) | (go_at_call 56; refine Calls.quiet_of_same (l1In_yes v 0 30 (by omega) (by omega) _)) | (go_at_call 114; refine Calls.quiet_of_same (flip (specEpoch_yes x hp _))))
 go_wp2
 go_ret
 exact ⟨rfl, below_drewN ((Below.refl _ _).alloc (Nat.le_refl _) _) _⟩
theorem toEntry_any (e : Ent) (w : World) :
  Calls Tryz.prog 163 #[e.val] w fun r w' => r = .returned e.val ∧ Below w.heap.size w w' := by
 obtain ⟨x, v, h, d⟩ := e
 unfold Ent.val
 go_enter Tryz.func163, Tryz.ntmps163
 go_wp2
 go_returns
 exact ⟨rfl, by go_grown⟩
theorem szEntry_any (e : Ent) (left : Int) (l0 : 0 ≤ left) (l1 : left ≤ 1048576) (hs : e.data.size ≤ 9223372036854775807) (w : World) :
  Calls Tryz.prog 154 #[e.val, .int .i64 left] w fun r w' => r = .returned (.int .i64 (if left < (e.data.size : Int) then -1 else left - (e.data.size : Int))) ∧ Below w.heap.size w w' := by
 obtain ⟨x, v, h, d⟩ := e
 unfold Ent.val
 simp only at *
 by_cases hd : left < (d.size : Int)
 ·rw [if_pos hd]
  have hd' : left - (d.size : Int) < 0 := by omega
  go_enter Tryz.func154, Tryz.ntmps154
  go_wp2
  go_returns
  exact ⟨rfl, by go_grown⟩
 ·rw [if_neg hd]
  have hd' : ¬ (left - (d.size : Int) < 0) := by omega
  go_enter Tryz.func154, Tryz.ntmps154
  go_wp2
  go_returns
  exact ⟨rfl, by go_grown⟩
theorem eqEntry_same (e : Ent) (w : World) :
  Calls Tryz.prog 196 #[e.val, e.val] w fun r w' => r = .returned (.bool true) ∧ Below w.heap.size w w' := by
 obtain ⟨x, v, h, d⟩ := e
 unfold Ent.val
 cases h
 ·go_enter Tryz.func196, Tryz.ntmps196
  go_wp2
  go_returns
  exact ⟨rfl, by go_grown⟩
 ·go_enter Tryz.func196, Tryz.ntmps196
  go_wp2
  go_returns
  exact ⟨rfl, by go_grown⟩
def Ent.cl (e : Ent) : List Value := [.int .i64 e.pl, .int .i64 e.wave, .bool e.hole, .string e.data]
theorem elemE : Elem (α := Ent) 207 123 (.agg #[.int .i64 0, .int .i64 0, .bool false, .string ⟨#[]⟩]) 4 40 Ent.cl where
 under := Tryz.underlying123
 info := by kernel_rfl
 zcells := by kernel_rfl
 pos := by decide
 len := fun _ => rfl
 one := fun a u hu => by
  simp only [Ent.cl, List.mem_cons, List.not_mem_nil, or_false] at hu
  rcases hu with rfl | rfl | rfl | rfl <;> rfl
def fitE (es : List Ent) : Prop := ∀ e ∈ es, e.fits
def EntAt (w : World) (b o : Nat) (e : Ent) : Prop := w.cell? ⟨b, o, none⟩ = some (.int .i64 e.pl) ∧ w.cell? ⟨b, o + 1, none⟩ = some (.int .i64 e.wave) ∧ w.cell? ⟨b, o + 2, none⟩ = some (.bool e.hole) ∧ w.cell? ⟨b, o + 3, none⟩ = some (.string e.data)
theorem EntAt.below {w w' : World} {b o : Nat} {e : Ent} (h : EntAt w b o e) (hb : Below w.heap.size w w') : EntAt w' b o e :=
 ⟨(hb.cell (p := ⟨b, o, none⟩) (dCell_lt h.1)).trans h.1, (hb.cell (p := ⟨b, o + 1, none⟩) (dCell_lt h.2.1)).trans h.2.1, (hb.cell (p := ⟨b, o + 2, none⟩) (dCell_lt h.2.2.1)).trans h.2.2.1, (hb.cell (p := ⟨b, o + 3, none⟩) (dCell_lt h.2.2.2)).trans h.2.2.2⟩
theorem Rw.ent {w : World} {a : Option Addr} {n cap : Nat} {es : List Ent} (h : Rw 4 Ent.cl w (.slice a n cap) es) {k : Nat} (hk : k < es.length) : ∃ b off, a = some ⟨b, off, none⟩ ∧ ∀ i (hi : i < es.length), EntAt w b (off + i * 4) es[i] := by
 obtain ⟨-, a', cap', e, -, h⟩ := h
 cases e
 obtain ⟨b, off, rfl, hc⟩ := orR_of_lt h hk
 exact ⟨b, off, rfl, fun i hi => ⟨hc i hi 0 _ rfl, hc i hi 1 _ rfl, hc i hi 2 _ rfl, hc i hi 3 _ rfl⟩⟩
def EntZ (w : World) (b o : Nat) (e : Ent) : Prop := ∀ j u, e.cl[j]? = some u → w.cell? ⟨b, o + j, none⟩ = some u ∧ w.frozen? ⟨b, o + j, none⟩ = false
theorem EntZ.at {w : World} {b o : Nat} {e : Ent} (h : EntZ w b o e) : EntAt w b o e := ⟨(h 0 _ rfl).1, (h 1 _ rfl).1, (h 2 _ rfl).1, (h 3 _ rfl).1⟩
theorem EntZ.below {w w' : World} {b o : Nat} {e : Ent} (h : EntZ w b o e) (hb : Below w.heap.size w w') : EntZ w' b o e := fun j u hu =>
 ⟨(hb.cell (p := ⟨b, o + j, none⟩) (dCell_lt (h j u hu).1)).trans (h j u hu).1, (hb.frozen (p := ⟨b, o + j, none⟩) (dCell_lt (h j u hu).1)).trans (h j u hu).2⟩
theorem cl_lt {e : Ent} {j : Nat} {u : Value} (h : e.cl[j]? = some u) : j < 4 := by
 rcases Nat.lt_or_ge j 4 with h' | h'
 ·exact h'
 ·rw [List.getElem?_eq_none (by simpa [Ent.cl] using h')] at h
  cases h
theorem EntZ.far {w : World} {b o b' o' : Nat} {e : Ent} (h : EntZ w b o e) (hn : b' ≠ b ∨ o' < o ∨ o + 4 ≤ o') (u : Value) : EntZ (w.setCell ⟨b', o', none⟩ u) b o e := fun j v hv => by
 have := cl_lt hv
 exact ⟨sO (h j v hv).1 (by omega), (World.frozen?_setCell _ _ _ _).trans (h j v hv).2⟩
theorem EntZ.pl {w : World} {b o : Nat} {e : Ent} (h : EntZ w b o e) (x : Int) : EntZ (w.setCell ⟨b, o, none⟩ (.int .i64 x)) b o ⟨x, e.wave, e.hole, e.data⟩ := fun j v hv => by
 have hj := cl_lt hv
 have hf : ∀ j u, e.cl[j]? = some u → (w.setCell ⟨b, o, none⟩ (.int .i64 x)).frozen? ⟨b, o + j, none⟩ = false := fun j u hu => (World.frozen?_setCell _ _ _ _).trans (h j u hu).2
 match j, hj with
 | 0, _ => cases hv; exact ⟨World.cell?_setCell_same _ _ _ (h 0 _ rfl).1, hf 0 _ rfl⟩
 | 1, _ => cases hv; exact ⟨sO (h 1 _ rfl).1 (by omega), hf 1 _ rfl⟩
 | 2, _ => cases hv; exact ⟨sO (h 2 _ rfl).1 (by omega), hf 2 _ rfl⟩
 | 3, _ => cases hv; exact ⟨sO (h 3 _ rfl).1 (by omega), hf 3 _ rfl⟩
theorem EntZ.wave {w : World} {b o : Nat} {e : Ent} (h : EntZ w b o e) (x : Int) : EntZ (w.setCell ⟨b, o + 1, none⟩ (.int .i64 x)) b o ⟨e.pl, x, e.hole, e.data⟩ := fun j v hv => by
 have hj := cl_lt hv
 have hf : ∀ j u, e.cl[j]? = some u → (w.setCell ⟨b, o + 1, none⟩ (.int .i64 x)).frozen? ⟨b, o + j, none⟩ = false := fun j u hu => (World.frozen?_setCell _ _ _ _).trans (h j u hu).2
 match j, hj with
 | 0, _ => cases hv; exact ⟨sO (h 0 _ rfl).1 (by omega), hf 0 _ rfl⟩
 | 1, _ => cases hv; exact ⟨World.cell?_setCell_same _ _ _ (h 1 _ rfl).1, hf 1 _ rfl⟩
 | 2, _ => cases hv; exact ⟨sO (h 2 _ rfl).1 (by omega), hf 2 _ rfl⟩
 | 3, _ => cases hv; exact ⟨sO (h 3 _ rfl).1 (by omega), hf 3 _ rfl⟩
theorem EntZ.hole {w : World} {b o : Nat} {e : Ent} (h : EntZ w b o e) (x : Bool) : EntZ (w.setCell ⟨b, o + 2, none⟩ (.bool x)) b o ⟨e.pl, e.wave, x, e.data⟩ := fun j v hv => by
 have hj := cl_lt hv
 have hf : ∀ j u, e.cl[j]? = some u → (w.setCell ⟨b, o + 2, none⟩ (.bool x)).frozen? ⟨b, o + j, none⟩ = false := fun j u hu => (World.frozen?_setCell _ _ _ _).trans (h j u hu).2
 match j, hj with
 | 0, _ => cases hv; exact ⟨sO (h 0 _ rfl).1 (by omega), hf 0 _ rfl⟩
 | 1, _ => cases hv; exact ⟨sO (h 1 _ rfl).1 (by omega), hf 1 _ rfl⟩
 | 2, _ => cases hv; exact ⟨World.cell?_setCell_same _ _ _ (h 2 _ rfl).1, hf 2 _ rfl⟩
 | 3, _ => cases hv; exact ⟨sO (h 3 _ rfl).1 (by omega), hf 3 _ rfl⟩
theorem EntZ.data {w : World} {b o : Nat} {e : Ent} (h : EntZ w b o e) (x : ByteArray) : EntZ (w.setCell ⟨b, o + 3, none⟩ (.string x)) b o ⟨e.pl, e.wave, e.hole, x⟩ := fun j v hv => by
 have hj := cl_lt hv
 have hf : ∀ j u, e.cl[j]? = some u → (w.setCell ⟨b, o + 3, none⟩ (.string x)).frozen? ⟨b, o + j, none⟩ = false := fun j u hu => (World.frozen?_setCell _ _ _ _).trans (h j u hu).2
 match j, hj with
 | 0, _ => cases hv; exact ⟨sO (h 0 _ rfl).1 (by omega), hf 0 _ rfl⟩
 | 1, _ => cases hv; exact ⟨sO (h 1 _ rfl).1 (by omega), hf 1 _ rfl⟩
 | 2, _ => cases hv; exact ⟨sO (h 2 _ rfl).1 (by omega), hf 2 _ rfl⟩
 | 3, _ => cases hv; exact ⟨World.cell?_setCell_same _ _ _ (h 3 _ rfl).1, hf 3 _ rfl⟩
def RowZ (w : World) (b off n : Nat) (f : Nat → Ent) : Prop := ∀ i, i < n → EntZ w b (off + i * 4) (f i)
def putF (f : Nat → Ent) (k : Nat) (e : Ent) : Nat → Ent := fun i => if i = k then e else f i
theorem RowZ.below {w w' : World} {b off n : Nat} {f : Nat → Ent} (h : RowZ w b off n f) (hb : Below w.heap.size w w') : RowZ w' b off n f := fun i hi => (h i hi).below hb
theorem RowZ.part {w w' : World} {b off n k : Nat} {f : Nat → Ent} {e : Ent} (h : RowZ w b off n f) (hk : k < n) (he : EntZ w' b (off + k * 4) e) (ho : ∀ i, i < n → i ≠ k → EntZ w' b (off + i * 4) (f i)) : RowZ w' b off n (putF f k e) := fun i hi => by
 unfold putF
 split
 ·rename_i e1; subst e1; exact he
 ·rename_i e1; exact ho i hi e1
theorem RowZ.pl {w : World} {b off n k : Nat} {f : Nat → Ent} (h : RowZ w b off n f) (hk : k < n) (x : Int) : RowZ (w.setCell ⟨b, off + k * 4, none⟩ (.int .i64 x)) b off n (putF f k ⟨x, (f k).wave, (f k).hole, (f k).data⟩) :=
 h.part hk ((h k hk).pl x) fun i hi hn => (h i hi).far (by omega) _
theorem RowZ.wave {w : World} {b off n k : Nat} {f : Nat → Ent} (h : RowZ w b off n f) (hk : k < n) (x : Int) : RowZ (w.setCell ⟨b, off + k * 4 + 1, none⟩ (.int .i64 x)) b off n (putF f k ⟨(f k).pl, x, (f k).hole, (f k).data⟩) :=
 h.part hk ((h k hk).wave x) fun i hi hn => (h i hi).far (by omega) _
theorem RowZ.hole {w : World} {b off n k : Nat} {f : Nat → Ent} (h : RowZ w b off n f) (hk : k < n) (x : Bool) : RowZ (w.setCell ⟨b, off + k * 4 + 2, none⟩ (.bool x)) b off n (putF f k ⟨(f k).pl, (f k).wave, x, (f k).data⟩) :=
 h.part hk ((h k hk).hole x) fun i hi hn => (h i hi).far (by omega) _
theorem RowZ.data {w : World} {b off n k : Nat} {f : Nat → Ent} (h : RowZ w b off n f) (hk : k < n) (x : ByteArray) : RowZ (w.setCell ⟨b, off + k * 4 + 3, none⟩ (.string x)) b off n (putF f k ⟨(f k).pl, (f k).wave, (f k).hole, x⟩) :=
 h.part hk ((h k hk).data x) fun i hi hn => (h i hi).far (by omega) _
theorem putF_same (f : Nat → Ent) (k : Nat) (e : Ent) : putF f k e k = e := if_pos rfl
theorem putF_twice (f : Nat → Ent) (k : Nat) (e e' : Ent) : putF (putF f k e) k e' = putF f k e' := by
 funext i
 unfold putF
 split <;> rfl
theorem RowZ.all {w : World} {b off n k : Nat} {f : Nat → Ent} (h : RowZ w b off n f) (hk : k < n) (e : Ent) :
  RowZ ((((w.setCell ⟨b, off + k * 4, none⟩ (.int .i64 e.pl)).setCell ⟨b, off + k * 4 + 1, none⟩ (.int .i64 e.wave)).setCell ⟨b, off + k * 4 + 2, none⟩ (.bool e.hole)).setCell ⟨b, off + k * 4 + 3, none⟩ (.string e.data)) b off n (putF f k e) := by
 have h1 := (((h.pl hk e.pl).wave hk e.wave).hole hk e.hole).data hk e.data
 simpa [putF_same, putF_twice] using h1
def zeroEnt : Ent := ⟨0, 0, false, ⟨#[]⟩⟩
def zerosE (n : Nat) : Array Value := madeCells (Value.agg #[.int .i64 0, .int .i64 0, .bool false, .string ⟨#[]⟩]).cells (n * 4)
theorem zerosE_at (n i j : Nat) (u : Value) (h : i < n) (hu : zeroEnt.cl[j]? = some u) : (zerosE n)[i * 4 + j]? = some u := by
 have hj := cl_lt hu
 have e : (Value.agg #[.int .i64 0, .int .i64 0, .bool false, .string ⟨#[]⟩]).cells = #[.int .i64 0, .int .i64 0, .bool false, .string ⟨#[]⟩] := by kernel_rfl
 unfold zerosE
 rw [e]
 have hm : (i * 4 + j) % 4 = j := by omega
 have hlt : i * 4 + j < n * 4 := by omega
 rw [← hu]
 match j, hj with
 | 0, _ =>
  have h0 : i * 4 < n * 4 := by omega
  have m0 : i * 4 % 4 = 0 := by omega
  simp [madeCells, h0, m0, Ent.cl, zeroEnt]
 | 1, _ => simp [madeCells, hlt, hm, Ent.cl, zeroEnt]
 | 2, _ => simp [madeCells, hlt, hm, Ent.cl, zeroEnt]
 | 3, _ => simp [madeCells, hlt, hm, Ent.cl, zeroEnt]
theorem makeE (n : Nat) (h : n ≤ 1073741824) (w : World) : (Instr.makeSlice 123 (.int .i64 (n : Int)) (.int .i64 (n : Int))).run Tryz.prog w = .ok (.slice (some ⟨w.heap.size, 0, none⟩) n n) (w.alloc (.cells (zerosE n) 207)) := by
 obtain ⟨i0, hi, hz0, hz1, hz2⟩ := info_parts (elemE).info
 have := run_make (P := Tryz.prog) w 123 207 i0 _ Tryz.underlying123 hi hz0 .i64 .i64 (n : Int) (n : Int) (by omega) (by omega) (by rw [hz2]; omega) (by omega)
 rw [hz1] at this
 simpa [zerosE] using this
theorem RowZ.made (w : World) (n : Nat) (T : TypeId) : RowZ (w.alloc (.cells (zerosE n) T)) w.heap.size 0 n (fun _ => zeroEnt) := fun i hi j u hu => by
 have := MapKept.heap_alloc w (.cells (zerosE n) T)
 refine ⟨?_, ?_⟩
 ·simp only [World.cell?, this.1]
  rw [Nat.zero_add]
  exact zerosE_at n i j u hi hu
 ·simp only [World.frozen?, this.1]
  simp
theorem RowZ.own {w : World} {b off n base cap : Nat} {f : Nat → Ent} {es : List Ent} (h : RowZ w b off n f) (hn : n = es.length) (hf : ∀ i (hi : i < es.length), f i = es[i]) (hb : base ≤ b) (hl : es.length ≤ 9223372036854775807) (hc : es.length ≤ cap ∧ cap ≤ 9223372036854775807) : OwnRw 4 Ent.cl w base (.slice (some ⟨b, off, none⟩) es.length cap) es := by
 refine ⟨hl, some ⟨b, off, none⟩, cap, rfl, hc, .inr ⟨b, off, rfl, hb, fun i hi j u hu => ?_⟩⟩
 subst hn
 have := h i hi j u (by rw [hf i hi]; exact hu)
 exact this
theorem OwnRw.rowZ {w : World} {base n cap : Nat} {a : Option Addr} {es : List Ent} (h : OwnRw 4 Ent.cl w base (.slice a n cap) es) (hp : 0 < es.length) : ∃ b off, a = some ⟨b, off, none⟩ ∧ base ≤ b ∧ RowZ w b off es.length (fun i => es.getD i zeroEnt) := by
 obtain ⟨-, a', cap', e, -, h⟩ := h
 cases e
 obtain ⟨b, off, rfl, hb, hc⟩ := orR_of_lt h hp
 refine ⟨b, off, rfl, hb, fun i hi j u hu => hc i hi j u ?_⟩
 dsimp only at hu
 rw [List.getD_eq_getElem?_getD, List.getElem?_eq_getElem hi] at hu
 exact hu
structure St where
 kept : List Ent
 late : List Ent
 lock : Int
def listP (es : List Ent) (n : Nat) : Prop := es.length ≤ n ∧ ∀ e ∈ es, entP e
def ascE (es : List Ent) : Prop := ∀ i (h : i + 1 < es.length), es[i].pl < es[i + 1].pl
def stP (s : St) : Prop := listP s.kept 200 ∧ listP s.late 20 ∧ ascE s.kept ∧ 0 ≤ s.lock ∧ s.lock ≤ 30
theorem field_epoch (a b : Int) (w : World) : (Instr.field 256 (.agg #[.int .i64 a, .int .i64 b]) 0).run Tryz.prog w = .ok (.int .i64 a) w := by kernel_rfl
theorem field_off (a b : Int) (w : World) : (Instr.field 256 (.agg #[.int .i64 a, .int .i64 b]) 1).run Tryz.prog w = .ok (.int .i64 b) w := by kernel_rfl
theorem implEpoch_yes (x : Int) (h : isPl x) (w : World) :
  Calls Tryz.prog 193 #[.int .i64 x] w fun e w' => e = .returned (.int .i64 (x / 4294967296)) ∧ Below w.heap.size w w' := by
 obtain ⟨h0, h1, h2, h3, h4⟩ := h
 have hfe := field_epoch
 go_enter Tryz.func193, Tryz.ntmps193
 go_wp2_with (go_at_call 216; refine (split_yes x h0 h1 h2 h3 h4 _).mono ?_; rintro e w1 ⟨rfl, hb⟩)
 go_ret
 exact ⟨rfl, hb⟩
theorem implEpoch_no (x : Int) (l : -9223372036854775808 ≤ x) (u : x ≤ 9223372036854775807) (h : ¬ isPl x) (w : World) :
  Calls Tryz.prog 193 #[.int .i64 x] w fun e w' => e = .returned (.int .i64 0) ∧ Below w.heap.size w w' := by
 have hfe := field_epoch
 go_enter Tryz.func193, Tryz.ntmps193
 go_wp2_with (go_at_call 216; refine (split_no x l u h _).mono ?_; rintro e w1 ⟨rfl, hb⟩)
 go_ret
 exact ⟨rfl, hb⟩
theorem implOff_yes (x : Int) (h : isPl x) (w : World) :
  Calls Tryz.prog 234 #[.int .i64 x] w fun e w' => e = .returned (.int .i64 (x % 4294967296)) ∧ Below w.heap.size w w' := by
 obtain ⟨h0, h1, h2, h3, h4⟩ := h
 have hfo := field_off
 go_enter Tryz.func234, Tryz.ntmps234
 go_wp2_with (go_at_call 216; refine (split_yes x h0 h1 h2 h3 h4 _).mono ?_; rintro e w1 ⟨rfl, hb⟩)
 go_ret
 exact ⟨rfl, hb⟩
theorem implOff_no (x : Int) (l : -9223372036854775808 ≤ x) (u : x ≤ 9223372036854775807) (h : ¬ isPl x) (w : World) :
  Calls Tryz.prog 234 #[.int .i64 x] w fun e w' => e = .returned (.int .i64 0) ∧ Below w.heap.size w w' := by
 have hfo := field_off
 go_enter Tryz.func234, Tryz.ntmps234
 go_wp2_with (go_at_call 216; refine (split_no x l u h _).mono ?_; rintro e w1 ⟨rfl, hb⟩)
 go_ret
 exact ⟨rfl, hb⟩
end Go.Proofs.YtkiclbbialadlaaGreat
