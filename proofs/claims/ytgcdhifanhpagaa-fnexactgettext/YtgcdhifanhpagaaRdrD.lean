/- impl's GetNum and GetText. -/
import Derived.Test.YtgcdhifanhpagaaRdrC
import Derived.Test.YtgcdhifanhpagaaGetA
namespace Go.Proofs.Ytgcdhifanhpagaa
open Go.ChangeShapes Go.WideShapes Go.ChangeAt Go.RowKit
set_option linter.unusedVariables false

theorem Bs.ne_new {w : World} {v : Value} {bs : List UInt8} (h : Bs w v bs) : bs = [] ∨ blockOf v ≠ w.heap.size := by
  obtain ⟨h0, a, cap, rfl, hcap, h⟩ := h
  rcases h with h | ⟨b, off, rfl, hc⟩
  · exact .inl h
  · rcases Nat.eq_zero_or_pos bs.length with h1 | h1
    · exact .inl (List.length_eq_zero_iff.1 h1)
    · have := dCell_lt (hc 0 h1)
      exact .inr (by simp only [blockOf]; omega)
theorem plc_new (w : World) (x : Int) (T : TypeId) : Plc (w.alloc (.cells #[.int .i64 x] T)) w.heap.size x := ⟨by simp, by simp⟩
theorem Drawn.fresh {w w' : World} {o : Obj} (h : Drawn w.heap.size (w.alloc o) w') : Below w.heap.size w w' :=
  h.below ((Below.refl _ _).alloc (Nat.le_refl _) o) (by simp) (Nat.le_refl _)
theorem numT_form (o : Option (Nat × Nat)) : ∃ (x : Int) (b : Bool), numT o = .tuple #[.int .i64 x, .bool b] := by
  cases o with
  | none => exact ⟨_, _, rfl⟩
  | some r => exact ⟨_, _, rfl⟩
set_option maxHeartbeats 1000000 in
theorem implGetNum_neg (v : Value) (bs : List UInt8) (x : Int) (w : World) (hv : Bs w v bs) (hx : x < 0) :
    Calls Try.prog 11 #[v, .int .i64 x] w fun e w' => e = .returned (getT none 0) ∧ Below w.heap.size w w' := by
  have hb : ∀ o, Below w.heap.size w (w.alloc o) := fun o => (Below.refl _ _).alloc (Nat.le_refl _) o
  have C := dHide fun T => num_neg v bs w.heap.size x (w.alloc (.cells #[.int .i64 x] T)) (hv.below (hb _)) (plc_new w x T) hx
  obtain ⟨h0, a, cap, rfl, -⟩ := hv
  unfold rdr at *
  go_enter Try.func11, Try.ntmps11
  go_wp2_with fail
  refine (dUnhide C _).mono ?_
  rintro e w1 ⟨rfl, hd1⟩
  have hbl := dHide hd1.fresh
  clear C hd1 hb
  simp only [numT]
  go_wp2
  go_ret3
  exact ⟨rfl, dUnhide hbl⟩
set_option maxHeartbeats 1000000 in
theorem implGetNum_nat (v : Value) (bs : List UInt8) (at0 : Nat) (w : World) (hv : Bs w v bs) :
    Calls Try.prog 11 #[v, .int .i64 (at0 : Int)] w fun e w' => e = .returned (getT (getB (bs.drop at0)) at0) ∧ Below w.heap.size w w' := by
  have hb : ∀ o, Below w.heap.size w (w.alloc o) := fun o => (Below.refl _ _).alloc (Nat.le_refl _) o
  have C := dHide fun T => num_nat v bs w.heap.size at0 (w.alloc (.cells #[.int .i64 (at0 : Int)] T)) (hv.below (hb _)) (plc_new w _ T) hv.ne_new
  obtain ⟨h0, a, cap, rfl, -⟩ := hv
  unfold rdr at *
  cases hg : getB (bs.drop at0) with
  | none =>
    rw [hg] at C
    go_enter Try.func11, Try.ntmps11
    go_wp2_with fail
    refine (dUnhide C _).mono ?_
    rintro e w1 ⟨rfl, -, hd1⟩
    have hbl := dHide hd1.fresh
    clear C hd1 hb
    simp only [numT]
    go_wp2
    go_ret3
    exact ⟨rfl, dUnhide hbl⟩
  | some r =>
    obtain ⟨n, k⟩ := r
    rw [hg] at C
    go_enter Try.func11, Try.ntmps11
    go_wp2_with fail
    refine (dUnhide C _).mono ?_
    rintro e w1 ⟨rfl, hp1, hd1⟩
    have hbl := dHide hd1.fresh
    obtain ⟨q1, q2⟩ := hp1 _ _ rfl
    clear C hd1 hb hp1
    simp only [numT]
    go_wp2
    go_quiet (fail)
    go_wp2
    go_ret3
    exact ⟨rfl, below_drewN (dUnhide hbl) _⟩
set_option maxHeartbeats 1000000 in
theorem implGetText_neg (v : Value) (bs : List UInt8) (x : Int) (w : World) (hv : Bs w v bs) (hx : x < 0) :
    Calls Try.prog 15 #[v, .int .i64 x] w fun e w' => e = .returned (gtextT none) ∧ Below w.heap.size w w' := by
  have hb : ∀ o, Below w.heap.size w (w.alloc o) := fun o => (Below.refl _ _).alloc (Nat.le_refl _) o
  have C := dHide fun T => text_neg v bs w.heap.size x (w.alloc (.cells #[.int .i64 x] T)) (hv.below (hb _)) (plc_new w x T) hx
  obtain ⟨h0, a, cap, rfl, -⟩ := hv
  unfold rdr at *
  go_enter Try.func15, Try.ntmps15
  go_wp2_with fail
  refine (dUnhide C _).mono ?_
  rintro e w1 ⟨rfl, hd1⟩
  have hbl := dHide hd1.fresh
  clear C hd1 hb
  simp only [rtextT]
  go_wp2
  go_ret3
  exact ⟨rfl, dUnhide hbl⟩
set_option maxHeartbeats 1000000 in
theorem implGetText_nat (v : Value) (bs : List UInt8) (at0 : Nat) (w : World) (hv : Bs w v bs) (hl : bs.length ≤ 1099511627776) :
    Calls Try.prog 15 #[v, .int .i64 (at0 : Int)] w fun e w' => e = .returned (gtextT (gtextB bs at0)) ∧ Below w.heap.size w w' := by
  have hb : ∀ o, Below w.heap.size w (w.alloc o) := fun o => (Below.refl _ _).alloc (Nat.le_refl _) o
  have C := dHide fun T => text_nat v bs w.heap.size at0 (w.alloc (.cells #[.int .i64 (at0 : Int)] T)) (hv.below (hb _)) hl (plc_new w _ T) hv.ne_new
  obtain ⟨h0, a, cap, rfl, -⟩ := hv
  unfold rdr at *
  cases hg : gtextB bs at0 with
  | none =>
    rw [hg] at C
    go_enter Try.func15, Try.ntmps15
    go_wp2_with fail
    refine (dUnhide C _).mono ?_
    rintro e w1 ⟨rfl, -, hd1⟩
    have hbl := dHide hd1.fresh
    clear C hd1 hb
    simp only [rtextT]
    go_wp2
    go_ret3
    exact ⟨rfl, dUnhide hbl⟩
  | some r =>
    obtain ⟨n, k⟩ := r
    rw [hg] at C
    go_enter Try.func15, Try.ntmps15
    go_wp2_with fail
    refine (dUnhide C _).mono ?_
    rintro e w1 ⟨rfl, hp1, hd1⟩
    have hbl := dHide hd1.fresh
    obtain ⟨q1, q2⟩ := hp1 _ _ rfl
    clear C hd1 hb hp1
    simp only [rtextT]
    go_wp2
    go_quiet (fail)
    go_wp2
    go_ret3
    exact ⟨rfl, below_drewN (dUnhide hbl) _⟩
theorem getZ_neg (bs : List UInt8) (x : Int) (h : x < 0) : getZ bs x = none := by rw [getZ, if_pos (.inl h)]
theorem getZ_nat (bs : List UInt8) (n : Nat) : getZ bs (n : Int) = getB (bs.drop n) := by
  rw [getZ]
  split
  · rename_i h
    rw [getB_nil bs n (by omega)]
  · rw [Int.toNat_natCast]
theorem gtextZ_nat (bs : List UInt8) (n : Nat) : gtextZ bs (n : Int) = gtextB bs n := by
  rw [gtextZ]
  split
  · rename_i h
    simp only [gtextB, getB_nil bs n (show bs.length ≤ n by omega)]
  · rw [Int.toNat_natCast]
theorem implGetNum_any (v : Value) (bs : List UInt8) (x : Int) (w : World) (hv : Bs w v bs) (hl : bs.length ≤ 1099511627776) (_l : -9223372036854775808 ≤ x) (_u : x ≤ 9223372036854775807) :
    Calls Try.prog 11 #[v, .int .i64 x] w fun e w' => e = .returned (getT (getZ bs x) x.toNat) ∧ Below w.heap.size w w' := by
  by_cases h : x < 0
  · refine (implGetNum_neg v bs x w hv h).mono fun e w' ⟨h1, h2⟩ => ⟨?_, h2⟩
    rw [h1, getZ_neg _ _ h]; rfl
  · obtain ⟨n, rfl⟩ := Int.eq_ofNat_of_zero_le (show 0 ≤ x by omega)
    rw [getZ_nat, Int.toNat_natCast]
    exact implGetNum_nat v bs n w hv
theorem implGetText_any (v : Value) (bs : List UInt8) (x : Int) (w : World) (hv : Bs w v bs) (hl : bs.length ≤ 1099511627776) (_l : -9223372036854775808 ≤ x) (_u : x ≤ 9223372036854775807) :
    Calls Try.prog 15 #[v, .int .i64 x] w fun e w' => e = .returned (gtextT (gtextZ bs x)) ∧ Below w.heap.size w w' := by
  by_cases h : x < 0
  · refine (implGetText_neg v bs x w hv h).mono fun e w' ⟨h1, h2⟩ => ⟨?_, h2⟩
    rw [h1, gtextZ, if_pos (.inl h)]
  · obtain ⟨n, rfl⟩ := Int.eq_ofNat_of_zero_le (show 0 ≤ x by omega)
    rw [gtextZ_nat]
    exact implGetText_nat v bs n w hv hl
end Go.Proofs.Ytgcdhifanhpagaa
