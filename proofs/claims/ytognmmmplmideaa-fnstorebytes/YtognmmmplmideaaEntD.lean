/- spec's EntryRead. -/
import Derived.Test.YtognmmmplmideaaBuE
import Derived.Test.YtognmmmplmideaaBuA
import Derived.Test.YtognmmmplmideaaGetA
namespace Go.Proofs.Ytognmmmplmideaa
open Go.ChangeShapes Go.WideShapes Go.ChangeAt Go.RowKit
set_option linter.unusedVariables false
set_option linter.unusedSimpArgs false

/-- entP, as a Bool. -/
def entOk (e : Ent) : Bool := decide ((0 < e.pl ∧ 1 ≤ e.pl / 4294967296 ∧ e.pl / 4294967296 ≤ 30 ∧ 1 ≤ e.pl % 4294967296 ∧ e.pl % 4294967296 ≤ 60) ∧ 0 ≤ e.wave ∧ e.wave ≤ 30 ∧ (0 < e.wave → e.pl / 4294967296 < e.wave) ∧ e.data.size ≤ 40 ∧ (e.hole = true → 0 < e.wave ∧ e.data.size = 0))
theorem entOk_yes {e : Ent} (h : entP e) : entOk e = true := decide_eq_true h
theorem entOk_no {e : Ent} (h : ¬ entP e) : entOk e = false := decide_eq_false h
/-- The entry whose numbers and text these are. -/
def entOf (n1 n2 n3 : Nat) (t : List UInt8) : Ent := ⟨n1, n2, n3 == 1, ⟨t.toArray⟩⟩
/-- EntryRead behind its third number. -/
def readC (bs : List UInt8) (n1 n2 n3 p : Nat) : Option (Ent × Nat) := match gtextB bs p with
  | none => none
  | some (t, q) => if entOk (entOf n1 n2 n3 t) then some (entOf n1 n2 n3 t, q) else none
/-- EntryRead behind its second number. -/
def readB (bs : List UInt8) (n1 n2 p : Nat) : Option (Ent × Nat) := match getB (bs.drop p) with
  | none => none
  | some (n3, k) => if 1 < n3 then none else readC bs n1 n2 n3 (p + k)
/-- EntryRead behind its first number. -/
def readA (bs : List UInt8) (n1 p : Nat) : Option (Ent × Nat) := match getB (bs.drop p) with
  | none => none
  | some (n2, k) => readB bs n1 n2 (p + k)
/-- EntryRead. -/
def readZ (bs : List UInt8) (x : Int) : Option (Ent × Nat) := match getZ bs x with
  | none => none
  | some (n1, k) => readA bs n1 (x.toNat + k)
/-- EntryRead's answer, as a value. -/
def readT (o : Option (Ent × Nat)) : Value := match o with
  | none => .tuple #[.agg #[.int .i64 0, .int .i64 0, .bool false, .string ⟨#[]⟩], .int .i64 0, .bool false]
  | some (e, p) => .tuple #[e.val, .int .i64 (p : Int), .bool true]
theorem getZ_of (bs : List UInt8) (n : Nat) : getZ bs (n : Int) = getB (bs.drop n) := by
  rw [getZ]
  split
  · rename_i h
    rw [getB_nil bs n (by omega)]
  · rw [Int.toNat_natCast]
theorem gtextZ_of (bs : List UInt8) (n : Nat) : gtextZ bs (n : Int) = gtextB bs n := by
  rw [gtextZ]
  split
  · rename_i h
    simp only [gtextB, getB_nil bs n (show bs.length ≤ n by omega)]
  · rw [Int.toNat_natCast]
theorem getZ_bd {bs : List UInt8} {x : Int} {n k : Nat} (h : getZ bs x = some (n, k)) : n ≤ 9223372036854775807 := by
  rw [getZ] at h
  split at h
  · cases h
  · exact (getB_bd h).1
theorem gtextB_len {bs t : List UInt8} {p q : Nat} (h : gtextB bs p = some (t, q)) : t.length ≤ bs.length := by
  simp only [gtextB] at h
  split at h
  · cases h
  · split at h
    · cases h
      simp only [List.length_take, List.length_drop]
      omega
    · cases h
theorem specGetNum_same (v : Value) (bs : List UInt8) (x : Int) (w : World) (hv : Bs w v bs) (hl : bs.length ≤ 1099511627776) :
    Calls Try.prog 45 #[v, .int .i64 x] w fun e w' => e = .returned (getT (getZ bs x) x.toNat) ∧ w' = w := by
  by_cases h : x < 0 ∨ (bs.length : Int) ≤ x
  · refine (specGet_out v bs x w hv h).mono fun e w' ⟨h1, h2⟩ => ⟨?_, h2.symm⟩
    rw [h1, getZ, if_pos h]; rfl
  · obtain ⟨n, rfl⟩ := Int.eq_ofNat_of_zero_le (show 0 ≤ x by omega)
    refine (specGet_in v bs n w hv (by omega) (by omega)).mono fun e w' ⟨h1, h2⟩ => ⟨?_, h2.symm⟩
    rw [h1, getZ, if_neg h, Int.toNat_natCast]
theorem specGetText_same (v : Value) (bs : List UInt8) (x : Int) (w : World) (hv : Bs w v bs) (hl : bs.length ≤ 1099511627776) :
    Calls Try.prog 87 #[v, .int .i64 x] w fun e w' => e = .returned (gtextT (gtextZ bs x)) ∧ w' = w := by
  by_cases h : x < 0 ∨ (bs.length : Int) ≤ x
  · refine (specGetText_out v bs x w hv h).mono fun e w' ⟨h1, h2⟩ => ⟨?_, h2.symm⟩
    rw [h1, gtextZ, if_pos h]
  · obtain ⟨n, rfl⟩ := Int.eq_ofNat_of_zero_le (show 0 ≤ x by omega)
    refine (specGetText_in v bs n w hv (by omega) (by omega)).mono fun e w' ⟨h1, h2⟩ => ⟨?_, h2.symm⟩
    rw [h1, gtextZ, if_neg h, Int.toNat_natCast]
theorem three_new {w w1 : World} {o1 o2 o3 : Obj} (hb : Below (((w.alloc o1).alloc o2).alloc o3).heap.size (((w.alloc o1).alloc o2).alloc o3) w1) :
    (∀ i, w1.cell? ⟨w.heap.size, i, none⟩ = (w.alloc o1).cell? ⟨w.heap.size, i, none⟩) ∧ (∀ i, w1.frozen? ⟨w.heap.size, i, none⟩ = (w.alloc o1).frozen? ⟨w.heap.size, i, none⟩) ∧
    (∀ i, w1.cell? ⟨w.heap.size + 1, i, none⟩ = ((w.alloc o1).alloc o2).cell? ⟨(w.alloc o1).heap.size, i, none⟩) ∧ (∀ i, w1.cell? ⟨w.heap.size + 1 + 1, i, none⟩ = (((w.alloc o1).alloc o2).alloc o3).cell? ⟨((w.alloc o1).alloc o2).heap.size, i, none⟩) ∧ Below w.heap.size w w1 := by
  have s1 : (w.alloc o1).heap.size = w.heap.size + 1 := by simp
  have s2 : ((w.alloc o1).alloc o2).heap.size = w.heap.size + 1 + 1 := by simp
  have s3 : (((w.alloc o1).alloc o2).alloc o3).heap.size = w.heap.size + 1 + 1 + 1 := by simp
  have hB : Below ((w.alloc o1).alloc o2).heap.size ((w.alloc o1).alloc o2) w1 := ((Below.refl _ _).alloc (Nat.le_refl _) o3).trans (hb.mono (by omega))
  have hA : Below (w.alloc o1).heap.size (w.alloc o1) w1 := ((Below.refl _ _).alloc (Nat.le_refl _) o2).trans (hB.mono (by omega))
  refine ⟨fun i => hA.cell (p := ⟨w.heap.size, i, none⟩) (by rw [s1]; exact Nat.lt_succ_self _), fun i => hA.frozen (p := ⟨w.heap.size, i, none⟩) (by rw [s1]; exact Nat.lt_succ_self _), fun i => ?_, fun i => ?_, ((Below.refl _ _).alloc (Nat.le_refl _) o1).trans (hA.mono (by omega))⟩
  · rw [s1]; exact hB.cell (p := ⟨w.heap.size + 1, i, none⟩) (by rw [s2]; exact Nat.lt_succ_self _)
  · rw [s2]; exact hb.cell (p := ⟨w.heap.size + 1 + 1, i, none⟩) (by rw [s3]; exact Nat.lt_succ_self _)
set_option maxHeartbeats 2000000 in
set_option maxRecDepth 100000 in
theorem specRead_any (v : Value) (bs : List UInt8) (x : Int) (w : World) (hv : Bs w v bs) (hl : bs.length ≤ 1099511627776) :
    Calls Try.prog 46 #[v, .int .i64 x] w fun e w' => e = .returned (readT (readZ bs x)) ∧ Below w.heap.size w w' := by
  have hb2 : ∀ o1 o2, Below w.heap.size w ((w.alloc o1).alloc o2) := fun o1 o2 => ((Below.refl _ _).alloc (Nat.le_refl _) o1).alloc (by simp) o2
  have G := dHide fun x o1 o2 => specGetNum_same v bs x ((w.alloc o1).alloc o2) (hv.below (hb2 o1 o2)) hl
  have GT := dHide fun x o1 o2 => specGetText_same v bs x ((w.alloc o1).alloc o2) (hv.below (hb2 o1 o2)) hl
  obtain ⟨h0, a, cap, rfl, -⟩ := hv
  clear hb2
  cases hg1 : getZ bs x with
  | none =>
    have HF : Hid (readZ bs x = none) := by simp only [Hid, readZ, hg1]
    have HG := dHide hg1
    clear hg1
    go_enter Try.func46, Try.ntmps46
    go_wp2_with fail
    refine (dUnhide G _ _ _).mono ?_
    rintro e w1 ⟨rfl, rfl⟩
    rw [dUnhide HG]
    simp only [getT]
    go_wp2
    go_returns
    exact ⟨by rw [dUnhide HF]; rfl, by go_grown⟩
  | some r1 =>
    obtain ⟨n1, k1⟩ := r1
    have b1 : n1 ≤ 9223372036854775807 := getZ_bd hg1
    have HG1 := dHide hg1
    have F1 : readZ bs x = readA bs n1 (x.toNat + k1) := by simp only [readZ, hg1]
    clear hg1
    generalize hp1 : x.toNat + k1 = p1 at *
    have HP1 := dHide hp1
    clear hp1
    cases hg2 : getB (bs.drop p1) with
    | none =>
      have HF : Hid (readZ bs x = none) := by simp only [Hid, F1, readA, hg2]
      have HG2 := dHide hg2
      clear hg2 F1
      go_enter Try.func46, Try.ntmps46
      go_wp2_with fail
      refine (dUnhide G _ _ _).mono ?_
      rintro e w1 ⟨rfl, rfl⟩
      rw [dUnhide HG1]
      simp only [getT]
      rw [dUnhide HP1]
      go_wp2_with fail
      refine (dUnhide G _ _ _).mono ?_
      rintro e w1 ⟨rfl, rfl⟩
      rw [getZ_of, dUnhide HG2]
      simp only [getT]
      go_wp2
      go_returns
      exact ⟨by rw [dUnhide HF]; rfl, by go_grown⟩
    | some r2 =>
      obtain ⟨n2, k2⟩ := r2
      obtain ⟨b2, -, -⟩ := getB_bd hg2
      have HG2 := dHide hg2
      have F2 : readZ bs x = readB bs n1 n2 (p1 + k2) := by simp only [F1, readA, hg2]
      clear hg2 F1
      generalize hp2 : p1 + k2 = p2 at *
      have HP2 := dHide hp2
      clear hp2
      cases hg3 : getB (bs.drop p2) with
      | none =>
        have HF : Hid (readZ bs x = none) := by simp only [Hid, F2, readB, hg3]
        have HG3 := dHide hg3
        clear hg3 F2
        go_enter Try.func46, Try.ntmps46
        go_wp2_with fail
        refine (dUnhide G _ _ _).mono ?_
        rintro e w1 ⟨rfl, rfl⟩
        rw [dUnhide HG1]
        simp only [getT]
        rw [dUnhide HP1]
        go_wp2_with fail
        refine (dUnhide G _ _ _).mono ?_
        rintro e w1 ⟨rfl, rfl⟩
        rw [getZ_of, dUnhide HG2]
        simp only [getT, Int.toNat_natCast]
        rw [dUnhide HP2]
        go_wp2_with fail
        refine (dUnhide G _ _ _).mono ?_
        rintro e w1 ⟨rfl, rfl⟩
        rw [getZ_of, dUnhide HG3]
        simp only [getT, Int.toNat_natCast]
        go_wp2
        go_returns
        exact ⟨by rw [dUnhide HF]; rfl, by go_grown⟩
      | some r3 =>
        obtain ⟨n3, k3⟩ := r3
        obtain ⟨b3, -, -⟩ := getB_bd hg3
        have HG3 := dHide hg3
        by_cases h3 : (1 : Int) < (n3 : Int)
        · have HF : Hid (readZ bs x = none) := by simp only [Hid, F2, readB, hg3]; rw [if_pos (by omega)]
          clear hg3 F2
          go_enter Try.func46, Try.ntmps46
          go_wp2_with fail
          refine (dUnhide G _ _ _).mono ?_
          rintro e w1 ⟨rfl, rfl⟩
          rw [dUnhide HG1]
          simp only [getT]
          rw [dUnhide HP1]
          go_wp2_with fail
          refine (dUnhide G _ _ _).mono ?_
          rintro e w1 ⟨rfl, rfl⟩
          rw [getZ_of, dUnhide HG2]
          simp only [getT, Int.toNat_natCast]
          rw [dUnhide HP2]
          go_wp2_with fail
          refine (dUnhide G _ _ _).mono ?_
          rintro e w1 ⟨rfl, rfl⟩
          rw [getZ_of, dUnhide HG3]
          simp only [getT, Int.toNat_natCast]
          go_wp2
          go_returns
          exact ⟨by rw [dUnhide HF]; rfl, by go_grown⟩
        · have F3 : readZ bs x = readC bs n1 n2 n3 (p2 + k3) := by simp only [F2, readB, hg3]; rw [if_neg (by omega)]
          clear hg3 F2
          generalize hp3 : p2 + k3 = p3 at *
          have HP3 := dHide hp3
          clear hp3
          have e3 : ((n3 : Int) == 1) = (n3 == 1) := by
            obtain rfl | rfl : n3 = 0 ∨ n3 = 1 := by omega
            · rfl
            · rfl
          cases hg4 : gtextB bs p3 with
          | none =>
            have HF : Hid (readZ bs x = none) := by simp only [Hid, F3, readC, hg4]
            have HG4 := dHide hg4
            clear hg4 F3
            go_enter Try.func46, Try.ntmps46
            go_wp2_with fail
            refine (dUnhide G _ _ _).mono ?_
            rintro e w1 ⟨rfl, rfl⟩
            rw [dUnhide HG1]
            simp only [getT]
            rw [dUnhide HP1]
            go_wp2_with fail
            refine (dUnhide G _ _ _).mono ?_
            rintro e w1 ⟨rfl, rfl⟩
            rw [getZ_of, dUnhide HG2]
            simp only [getT, Int.toNat_natCast]
            rw [dUnhide HP2]
            go_wp2_with fail
            refine (dUnhide G _ _ _).mono ?_
            rintro e w1 ⟨rfl, rfl⟩
            rw [getZ_of, dUnhide HG3]
            simp only [getT, Int.toNat_natCast]
            rw [dUnhide HP3]
            go_wp2_with fail
            refine (dUnhide GT _ _ _).mono ?_
            rintro e w1 ⟨rfl, rfl⟩
            rw [gtextZ_of, dUnhide HG4]
            simp only [gtextT]
            go_wp2
            go_returns
            exact ⟨by rw [dUnhide HF]; rfl, by go_grown⟩
          | some r4 =>
            obtain ⟨t, q⟩ := r4
            have HG4 := dHide hg4
            have ht : t.length ≤ 9223372036854775807 := Nat.le_trans (gtextB_len hg4) (by omega)
            have hfit : (entOf n1 n2 n3 t).fits := ⟨by show _ ≤ (n1 : Int); omega, by show (n1 : Int) ≤ _; omega, by show _ ≤ (n2 : Int); omega, by show (n2 : Int) ≤ _; omega, ht⟩
            by_cases he : entP (entOf n1 n2 n3 t)
            · have HF : Hid (readZ bs x = some (entOf n1 n2 n3 t, q)) := by simp only [Hid, F3, readC, hg4, entOk_yes he, if_true]
              have C := dHide (specEntOk_yes _ he)
              clear hg4 F3 he hfit
              simp only [entOf, Ent.val] at C
              go_enter Try.func46, Try.ntmps46
              go_wp2_with fail
              refine (dUnhide G _ _ _).mono ?_
              rintro e w1 ⟨rfl, rfl⟩
              rw [dUnhide HG1]
              simp only [getT]
              rw [dUnhide HP1]
              go_wp2_with fail
              refine (dUnhide G _ _ _).mono ?_
              rintro e w1 ⟨rfl, rfl⟩
              rw [getZ_of, dUnhide HG2]
              simp only [getT, Int.toNat_natCast]
              rw [dUnhide HP2]
              go_wp2_with fail
              refine (dUnhide G _ _ _).mono ?_
              rintro e w1 ⟨rfl, rfl⟩
              rw [getZ_of, dUnhide HG3]
              simp only [getT, Int.toNat_natCast]
              rw [dUnhide HP3]
              go_wp2_with fail
              refine (dUnhide GT _ _ _).mono ?_
              rintro e w1 ⟨rfl, rfl⟩
              rw [gtextZ_of, dUnhide HG4]
              simp only [gtextT]
              go_wp2_with fail
              refine (dUnhide C _).mono ?_
              rintro e w1 ⟨rfl, hb1⟩
              obtain ⟨t1, t2, t3, t4, hbw⟩ := three_new hb1
              have c00 : w1.cell? ⟨w.heap.size, 0, none⟩ = some (.int .i64 0) := (t1 0).trans (new_cell _ _ _ 0)
              have c01 : w1.cell? ⟨w.heap.size, 1, none⟩ = some (.int .i64 0) := (t1 1).trans (new_cell _ _ _ 1)
              have c02 : w1.cell? ⟨w.heap.size, 2, none⟩ = some (.bool false) := (t1 2).trans (new_cell _ _ _ 2)
              have c03 : w1.cell? ⟨w.heap.size, 3, none⟩ = some (.string ⟨#[]⟩) := (t1 3).trans (new_cell _ _ _ 3)
              have c20 : w1.cell? ⟨w.heap.size + 1 + 1, 0, none⟩ = some (.int .i64 n1) := (t4 0).trans (new_cell _ _ _ 0)
              have c21 : w1.cell? ⟨w.heap.size + 1 + 1, 1, none⟩ = some (.int .i64 n2) := (t4 1).trans (new_cell _ _ _ 1)
              have c22 : w1.cell? ⟨w.heap.size + 1 + 1, 2, none⟩ = some (.bool (n3 == 1)) := (t4 2).trans (new_cell _ _ _ 2)
              have c23 : w1.cell? ⟨w.heap.size + 1 + 1, 3, none⟩ = some (.string ⟨t.toArray⟩) := (t4 3).trans (new_cell _ _ _ 3)
              have f00 : w1.frozen? ⟨w.heap.size, 0, none⟩ = false := (t2 0).trans (by simp)
              have f01 : w1.frozen? ⟨w.heap.size, 1, none⟩ = false := (t2 1).trans (by simp)
              have f02 : w1.frozen? ⟨w.heap.size, 2, none⟩ = false := (t2 2).trans (by simp)
              have f03 : w1.frozen? ⟨w.heap.size, 3, none⟩ = false := (t2 3).trans (by simp)
              clear hb1 C t1 t2 t3 t4
              go_wp2
              have hbe := ((((hbw.setCell (p := ⟨w.heap.size, 0, none⟩) (Nat.le_refl _) (.int .i64 n1)).setCell (p := ⟨w.heap.size, 1, none⟩) (Nat.le_refl _) (.int .i64 n2)).setCell (p := ⟨w.heap.size, 2, none⟩) (Nat.le_refl _) (.bool (n3 == 1))).setCell (p := ⟨w.heap.size, 3, none⟩) (Nat.le_refl _) (.string ⟨t.toArray⟩))
              obtain ⟨e0, e1, e2, e3⟩ := four_set (.int .i64 n1) (.int .i64 n2) (.bool (n3 == 1)) (.string ⟨t.toArray⟩) c00 c01 c02 c03
              clear c00 c01 c02 c03 f00 f01 f02 f03
              generalize (((w1.setCell ⟨w.heap.size, 0, none⟩ (.int .i64 n1)).setCell ⟨w.heap.size, 1, none⟩ (.int .i64 n2)).setCell ⟨w.heap.size, 2, none⟩ (.bool (n3 == 1))).setCell ⟨w.heap.size, 3, none⟩ (.string ⟨t.toArray⟩) = W at *
              refine bodyPost_ret (v := readT (some (entOf n1 n2 n3 t, q))) (by simp [results, Try.results46, go_sem, e0, e1, e2, e3, readT, Ent.val, entOf]) rfl ⟨by rw [dUnhide HF], hbe⟩
            · have HF : Hid (readZ bs x = none) := by simp only [Hid, F3, readC, hg4, entOk_no he]; rfl
              have C := dHide (specEntOk_no _ hfit he)
              clear hg4 F3 he hfit
              simp only [entOf, Ent.val] at C
              go_enter Try.func46, Try.ntmps46
              go_wp2_with fail
              refine (dUnhide G _ _ _).mono ?_
              rintro e w1 ⟨rfl, rfl⟩
              rw [dUnhide HG1]
              simp only [getT]
              rw [dUnhide HP1]
              go_wp2_with fail
              refine (dUnhide G _ _ _).mono ?_
              rintro e w1 ⟨rfl, rfl⟩
              rw [getZ_of, dUnhide HG2]
              simp only [getT, Int.toNat_natCast]
              rw [dUnhide HP2]
              go_wp2_with fail
              refine (dUnhide G _ _ _).mono ?_
              rintro e w1 ⟨rfl, rfl⟩
              rw [getZ_of, dUnhide HG3]
              simp only [getT, Int.toNat_natCast]
              rw [dUnhide HP3]
              go_wp2_with fail
              refine (dUnhide GT _ _ _).mono ?_
              rintro e w1 ⟨rfl, rfl⟩
              rw [gtextZ_of, dUnhide HG4]
              simp only [gtextT]
              go_wp2_with fail
              refine (dUnhide C _).mono ?_
              rintro e w1 ⟨rfl, hb1⟩
              obtain ⟨t1, t2, t3, t4, hbw⟩ := three_new hb1
              have c00 : w1.cell? ⟨w.heap.size, 0, none⟩ = some (.int .i64 0) := (t1 0).trans (new_cell _ _ _ 0)
              have c01 : w1.cell? ⟨w.heap.size, 1, none⟩ = some (.int .i64 0) := (t1 1).trans (new_cell _ _ _ 1)
              have c02 : w1.cell? ⟨w.heap.size, 2, none⟩ = some (.bool false) := (t1 2).trans (new_cell _ _ _ 2)
              have c03 : w1.cell? ⟨w.heap.size, 3, none⟩ = some (.string ⟨#[]⟩) := (t1 3).trans (new_cell _ _ _ 3)
              have c10 : w1.cell? ⟨w.heap.size + 1, 0, none⟩ = some (.int .i64 0) := (t3 0).trans (new_cell _ _ _ 0)
              have c11 : w1.cell? ⟨w.heap.size + 1, 1, none⟩ = some (.int .i64 0) := (t3 1).trans (new_cell _ _ _ 1)
              have c12 : w1.cell? ⟨w.heap.size + 1, 2, none⟩ = some (.bool false) := (t3 2).trans (new_cell _ _ _ 2)
              have c13 : w1.cell? ⟨w.heap.size + 1, 3, none⟩ = some (.string ⟨#[]⟩) := (t3 3).trans (new_cell _ _ _ 3)
              have f00 : w1.frozen? ⟨w.heap.size, 0, none⟩ = false := (t2 0).trans (by simp)
              have f01 : w1.frozen? ⟨w.heap.size, 1, none⟩ = false := (t2 1).trans (by simp)
              have f02 : w1.frozen? ⟨w.heap.size, 2, none⟩ = false := (t2 2).trans (by simp)
              have f03 : w1.frozen? ⟨w.heap.size, 3, none⟩ = false := (t2 3).trans (by simp)
              clear hb1 C t1 t2 t3 t4
              go_wp2
              have hbe := ((((hbw.setCell (p := ⟨w.heap.size, 0, none⟩) (Nat.le_refl _) (.int .i64 0)).setCell (p := ⟨w.heap.size, 1, none⟩) (Nat.le_refl _) (.int .i64 0)).setCell (p := ⟨w.heap.size, 2, none⟩) (Nat.le_refl _) (.bool false)).setCell (p := ⟨w.heap.size, 3, none⟩) (Nat.le_refl _) (.string ⟨#[]⟩))
              obtain ⟨e0, e1, e2, e3⟩ := four_set (.int .i64 0) (.int .i64 0) (.bool false) (.string ⟨#[]⟩) c00 c01 c02 c03
              clear c00 c01 c02 c03 f00 f01 f02 f03
              generalize (((w1.setCell ⟨w.heap.size, 0, none⟩ (.int .i64 0)).setCell ⟨w.heap.size, 1, none⟩ (.int .i64 0)).setCell ⟨w.heap.size, 2, none⟩ (.bool false)).setCell ⟨w.heap.size, 3, none⟩ (.string ⟨#[]⟩) = W at *
              refine bodyPost_ret (v := readT none) (by simp [results, Try.results46, go_sem, e0, e1, e2, e3, readT, Ent.val, entOf]) rfl ⟨by rw [dUnhide HF], hbe⟩
end Go.Proofs.Ytognmmmplmideaa
