/- Several texts in one: EntA, EntC, EsP, StA, ImFp. -/
import Derived.Test.YtjkjmapibcfcdaaGreatGbP
import Derived.Test.YtjkjmapibcfcdaaGreatGaA
import Derived.Test.YtjkjmapibcfcdaaGreatGaC
namespace Go.Proofs.YtjkjmapibcfcdaaGreat
open Go.ChangeShapes Go.WideShapes Go.ChangeAt Go.RowKit
set_option linter.unusedVariables false
structure Ent where
 pl : Int
 wave : Int
 hole : Bool
 data : ByteArray
def Ent.val (e : Ent) : Value := .agg #[.int .i64 e.pl, .int .i64 e.wave, .bool e.hole, .string e.data]
def Ent.fits (e : Ent) : Prop := -9223372036854775808 ≤ e.pl ∧ e.pl ≤ 9223372036854775807 ∧ -9223372036854775808 ≤ e.wave ∧ e.wave ≤ 9223372036854775807 ∧ e.data.size ≤ 9223372036854775807
def entP (e : Ent) : Prop := isPl e.pl ∧ 0 ≤ e.wave ∧ e.wave ≤ 30 ∧ (0 < e.wave → e.pl / 4294967296 < e.wave) ∧ e.data.size ≤ 40 ∧ (e.hole = true → 0 < e.wave ∧ e.data.size = 0)
set_option maxHeartbeats 1000000 in
theorem specEntOk_no1 (x v : Int) (h : Bool) (d : ByteArray) (u : x ≤ 9223372036854775807) (hp : ¬ isPl x) (w : World) :
  Calls Tryz.prog 81 #[.agg #[.int .i64 x, .int .i64 v, .bool h, .string d]] w fun e w' => e = .returned (.bool false) ∧ Below w.heap.size w w' := by
 go_enter Tryz.func81, Tryz.ntmps81
 go_wp2
 go_quiet (first | (go_at_call 26; refine Calls.quiet_of_same (flip (specOk_no x u hp _))))
 go_wp2
 go_ret
 exact ⟨rfl, below_drewN ((Below.refl _ _).alloc (Nat.le_refl _) _) _⟩
set_option maxHeartbeats 1000000 in
theorem specEntOk_no2 (x v : Int) (h : Bool) (d : ByteArray) (hp : isPl x) (hv : v < 0 ∨ 30 < v) (w : World) :
  Calls Tryz.prog 81 #[.agg #[.int .i64 x, .int .i64 v, .bool h, .string d]] w fun e w' => e = .returned (.bool false) ∧ Below w.heap.size w w' := by
 go_enter Tryz.func81, Tryz.ntmps81
 go_wp2
 go_quiet (first | (go_at_call 26; refine Calls.quiet_of_same (flip (specOk_yes x hp _))) | (go_at_call 73; refine Calls.quiet_of_same (l1In_no v 0 30 hv _)))
 go_wp2
 go_ret
 exact ⟨rfl, below_drewN ((Below.refl _ _).alloc (Nat.le_refl _) _) _⟩
set_option maxHeartbeats 1000000 in
theorem specEntOk_no3 (x v : Int) (h : Bool) (d : ByteArray) (hp : isPl x) (v0 : 0 < v) (v1 : v ≤ 30) (hv : v ≤ x / 4294967296) (w : World) :
  Calls Tryz.prog 81 #[.agg #[.int .i64 x, .int .i64 v, .bool h, .string d]] w fun e w' => e = .returned (.bool false) ∧ Below w.heap.size w w' := by
 have hx := hp
 obtain ⟨h0, h1, h2, h3, h4⟩ := hx
 go_enter Tryz.func81, Tryz.ntmps81
 go_wp2
 go_quiet (first | (go_at_call 26; refine Calls.quiet_of_same (flip (specOk_yes x hp _))) | (go_at_call 73; refine Calls.quiet_of_same (l1In_yes v 0 30 (by omega) (by omega) _)) | (go_at_call 35; refine Calls.quiet_of_same (flip (specEpoch_yes x hp _))))
 go_wp2
 go_ret
 exact ⟨rfl, below_drewN ((Below.refl _ _).alloc (Nat.le_refl _) _) _⟩
set_option maxHeartbeats 1000000 in
theorem specEntOk_no4 (x : Int) (h : Bool) (d : ByteArray) (hp : isPl x) (hd : (40 : Int) < (d.size : Int)) (w : World) :
  Calls Tryz.prog 81 #[.agg #[.int .i64 x, .int .i64 0, .bool h, .string d]] w fun e w' => e = .returned (.bool false) ∧ Below w.heap.size w w' := by
 have hx := hp
 obtain ⟨h0, h1, h2, h3, h4⟩ := hx
 go_enter Tryz.func81, Tryz.ntmps81
 go_wp2
 go_quiet (first | (go_at_call 26; refine Calls.quiet_of_same (flip (specOk_yes x hp _))) | (go_at_call 73; refine Calls.quiet_of_same (l1In_yes 0 0 30 (by omega) (by omega) _)) | (go_at_call 35; refine Calls.quiet_of_same (flip (specEpoch_yes x hp _))))
 go_wp2
 go_ret
 exact ⟨rfl, below_drewN ((Below.refl _ _).alloc (Nat.le_refl _) _) _⟩
set_option maxHeartbeats 1000000 in
theorem specEntOk_no5 (x v : Int) (h : Bool) (d : ByteArray) (hp : isPl x) (v0 : 0 < v) (v1 : v ≤ 30) (hv : x / 4294967296 < v) (hd : (40 : Int) < (d.size : Int)) (w : World) :
  Calls Tryz.prog 81 #[.agg #[.int .i64 x, .int .i64 v, .bool h, .string d]] w fun e w' => e = .returned (.bool false) ∧ Below w.heap.size w w' := by
 have hx := hp
 obtain ⟨h0, h1, h2, h3, h4⟩ := hx
 go_enter Tryz.func81, Tryz.ntmps81
 go_wp2
 go_quiet (first | (go_at_call 26; refine Calls.quiet_of_same (flip (specOk_yes x hp _))) | (go_at_call 73; refine Calls.quiet_of_same (l1In_yes v 0 30 (by omega) (by omega) _)) | (go_at_call 35; refine Calls.quiet_of_same (flip (specEpoch_yes x hp _))))
 go_wp2
 go_ret
 exact ⟨rfl, below_drewN ((Below.refl _ _).alloc (Nat.le_refl _) _) _⟩
set_option maxHeartbeats 1000000 in
theorem specEntOk_w0f (x : Int) (d : ByteArray) (hp : isPl x) (hd : (d.size : Int) ≤ 40) (w : World) :
  Calls Tryz.prog 81 #[.agg #[.int .i64 x, .int .i64 0, .bool false, .string d]] w fun e w' => e = .returned (.bool true) ∧ Below w.heap.size w w' := by
 have hx := hp
 obtain ⟨h0, h1, h2, h3, h4⟩ := hx
 go_enter Tryz.func81, Tryz.ntmps81
 go_wp2
 go_quiet (first | (go_at_call 26; refine Calls.quiet_of_same (flip (specOk_yes x hp _))) | (go_at_call 73; refine Calls.quiet_of_same (l1In_yes 0 0 30 (by omega) (by omega) _)) | (go_at_call 35; refine Calls.quiet_of_same (flip (specEpoch_yes x hp _))))
 go_wp2
 go_ret
 exact ⟨rfl, below_drewN ((Below.refl _ _).alloc (Nat.le_refl _) _) _⟩
set_option maxHeartbeats 1000000 in
theorem specEntOk_w0t (x : Int) (d : ByteArray) (hp : isPl x) (hd : (d.size : Int) ≤ 40) (w : World) :
  Calls Tryz.prog 81 #[.agg #[.int .i64 x, .int .i64 0, .bool true, .string d]] w fun e w' => e = .returned (.bool false) ∧ Below w.heap.size w w' := by
 have hx := hp
 obtain ⟨h0, h1, h2, h3, h4⟩ := hx
 go_enter Tryz.func81, Tryz.ntmps81
 go_wp2
 go_quiet (first | (go_at_call 26; refine Calls.quiet_of_same (flip (specOk_yes x hp _))) | (go_at_call 73; refine Calls.quiet_of_same (l1In_yes 0 0 30 (by omega) (by omega) _)) | (go_at_call 35; refine Calls.quiet_of_same (flip (specEpoch_yes x hp _))))
 go_wp2
 go_ret
 exact ⟨rfl, below_drewN ((Below.refl _ _).alloc (Nat.le_refl _) _) _⟩
set_option maxHeartbeats 1000000 in
theorem specEntOk_w1 (x v : Int) (d : ByteArray) (hp : isPl x) (v0 : 0 < v) (v1 : v ≤ 30) (hv : x / 4294967296 < v) (hd : (d.size : Int) ≤ 40) (w : World) :
  Calls Tryz.prog 81 #[.agg #[.int .i64 x, .int .i64 v, .bool false, .string d]] w fun e w' => e = .returned (.bool true) ∧ Below w.heap.size w w' := by
 have hx := hp
 obtain ⟨h0, h1, h2, h3, h4⟩ := hx
 go_enter Tryz.func81, Tryz.ntmps81
 go_wp2
 go_quiet (first | (go_at_call 26; refine Calls.quiet_of_same (flip (specOk_yes x hp _))) | (go_at_call 73; refine Calls.quiet_of_same (l1In_yes v 0 30 (by omega) (by omega) _)) | (go_at_call 35; refine Calls.quiet_of_same (flip (specEpoch_yes x hp _))))
 go_wp2
 go_ret
 exact ⟨rfl, below_drewN ((Below.refl _ _).alloc (Nat.le_refl _) _) _⟩
set_option maxHeartbeats 1000000 in
theorem specEntOk_w2 (x v : Int) (hp : isPl x) (v0 : 0 < v) (v1 : v ≤ 30) (hv : x / 4294967296 < v) (w : World) :
  Calls Tryz.prog 81 #[.agg #[.int .i64 x, .int .i64 v, .bool true, .string ⟨#[]⟩]] w fun e w' => e = .returned (.bool true) ∧ Below w.heap.size w w' := by
 have hx := hp
 obtain ⟨h0, h1, h2, h3, h4⟩ := hx
 go_enter Tryz.func81, Tryz.ntmps81
 go_wp2
 go_quiet (first | (go_at_call 26; refine Calls.quiet_of_same (flip (specOk_yes x hp _))) | (go_at_call 73; refine Calls.quiet_of_same (l1In_yes v 0 30 (by omega) (by omega) _)) | (go_at_call 35; refine Calls.quiet_of_same (flip (specEpoch_yes x hp _))))
 go_wp2
 go_ret
 exact ⟨rfl, below_drewN ((Below.refl _ _).alloc (Nat.le_refl _) _) _⟩
set_option maxHeartbeats 1000000 in
theorem specEntOk_w3 (x v : Int) (d : ByteArray) (hp : isPl x) (v0 : 0 < v) (v1 : v ≤ 30) (hv : x / 4294967296 < v) (hd : (d.size : Int) ≤ 40) (he : d.toList.isEmpty = false) (w : World) :
  Calls Tryz.prog 81 #[.agg #[.int .i64 x, .int .i64 v, .bool true, .string d]] w fun e w' => e = .returned (.bool false) ∧ Below w.heap.size w w' := by
 have hx := hp
 obtain ⟨h0, h1, h2, h3, h4⟩ := hx
 go_enter Tryz.func81, Tryz.ntmps81
 go_wp2
 go_quiet (first | (go_at_call 26; refine Calls.quiet_of_same (flip (specOk_yes x hp _))) | (go_at_call 73; refine Calls.quiet_of_same (l1In_yes v 0 30 (by omega) (by omega) _)) | (go_at_call 35; refine Calls.quiet_of_same (flip (specEpoch_yes x hp _))))
 go_wp2
 go_ret
 exact ⟨rfl, below_drewN ((Below.refl _ _).alloc (Nat.le_refl _) _) _⟩
def better (a b : Ent) : Ent := if a.wave < b.wave then b else a
theorem specBetter_any (a b : Ent) (w : World) :
  Calls Tryz.prog 84 #[a.val, b.val] w fun r w' => r = .returned (better a b).val ∧ Below w.heap.size w w' := by
 obtain ⟨x, v, h, d⟩ := a
 obtain ⟨x', v', h', d'⟩ := b
 unfold better
 simp only
 by_cases hw : v < v'
 ·rw [if_pos hw]
  unfold Ent.val
  go_enter Tryz.func84, Tryz.ntmps84
  go_wp2
  go_returns
  exact ⟨rfl, by go_grown⟩
 ·rw [if_neg hw]
  unfold Ent.val
  go_enter Tryz.func84, Tryz.ntmps84
  go_wp2
  go_returns
  exact ⟨rfl, by go_grown⟩
def Ent.cl (e : Ent) : List Value := [.int .i64 e.pl, .int .i64 e.wave, .bool e.hole, .string e.data]
theorem elemE : Elem (α := Ent) 36 27 (.agg #[.int .i64 0, .int .i64 0, .bool false, .string ⟨#[]⟩]) 4 40 Ent.cl where
 under := Tryz.underlying27
 info := by kernel_rfl
 zcells := by kernel_rfl
 pos := by decide
 len := fun _ => rfl
 one := fun a u hu => by
  simp only [Ent.cl, List.mem_cons, List.not_mem_nil, or_false] at hu
  rcases hu with rfl | rfl | rfl | rfl <;> rfl
def EntAt (w : World) (b o : Nat) (e : Ent) : Prop := w.cell? ⟨b, o, none⟩ = some (.int .i64 e.pl) ∧ w.cell? ⟨b, o + 1, none⟩ = some (.int .i64 e.wave) ∧ w.cell? ⟨b, o + 2, none⟩ = some (.bool e.hole) ∧ w.cell? ⟨b, o + 3, none⟩ = some (.string e.data)
theorem EntAt.below {w w' : World} {b o : Nat} {e : Ent} (h : EntAt w b o e) (hb : Below w.heap.size w w') : EntAt w' b o e :=
 ⟨(hb.cell (p := ⟨b, o, none⟩) (dCell_lt h.1)).trans h.1, (hb.cell (p := ⟨b, o + 1, none⟩) (dCell_lt h.2.1)).trans h.2.1, (hb.cell (p := ⟨b, o + 2, none⟩) (dCell_lt h.2.2.1)).trans h.2.2.1, (hb.cell (p := ⟨b, o + 3, none⟩) (dCell_lt h.2.2.2)).trans h.2.2.2⟩
theorem Rw.ent {w : World} {a : Option Addr} {n cap : Nat} {es : List Ent} (h : Rw 4 Ent.cl w (.slice a n cap) es) {k : Nat} (hk : k < es.length) : ∃ b off, a = some ⟨b, off, none⟩ ∧ ∀ i (hi : i < es.length), EntAt w b (off + i * 4) es[i] := by
 obtain ⟨-, a', cap', e, -, h⟩ := h
 cases e
 obtain ⟨b, off, rfl, hc⟩ := orR_of_lt h hk
 exact ⟨b, off, rfl, fun i hi => ⟨hc i hi 0 _ rfl, hc i hi 1 _ rfl, hc i hi 2 _ rfl, hc i hi 3 _ rfl⟩⟩
theorem rw_one (w : World) (e : Ent) (T : TypeId) (c : Nat) (hc : 1 ≤ c ∧ c ≤ 9223372036854775807) : Rw 4 Ent.cl (w.alloc (.cells #[.int .i64 e.pl, .int .i64 e.wave, .bool e.hole, .string e.data] T)) (.slice (some ⟨w.heap.size, 0, none⟩) 1 c) [e] := by
 refine ⟨by simp, _, _, rfl, by simpa using hc, .inr ⟨w.heap.size, 0, rfl, fun i hi j u hu => ?_⟩⟩
 obtain rfl : i = 0 := by simp at hi; omega
 simp only [List.getElem_cons_zero, Ent.cl] at hu
 simpa using hu
structure St where
 kept : List Ent
 late : List Ent
 lock : Int
end Go.Proofs.YtjkjmapibcfcdaaGreat
