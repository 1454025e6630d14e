/- spec's EntryRead. -/
import Derived.Test.YthndkkjgjhgdnaaDoorGbF
import Derived.Test.YthndkkjgjhgdnaaDoorGaA
import Derived.Test.YthndkkjgjhgdnaaDoorGk16
namespace Go.Proofs.YthndkkjgjhgdnaaDoor
open Go.ChangeShapes Go.WideShapes Go.ChangeAt Go.RowKit
set_option linter.unusedVariables false
set_option linter.unusedSimpArgs false

/-- entP, as a Bool. -/
def entOk (e : Ent) : Bool := decide ((0 < e.pl ∧ 1 ≤ e.pl / 4294967296 ∧ e.pl / 4294967296 ≤ 30 ∧ 1 ≤ e.pl % 4294967296 ∧ e.pl % 4294967296 ≤ 60) ∧ 0 ≤ e.wave ∧ e.wave ≤ 30 ∧ (0 < e.wave → e.pl / 4294967296 < e.wave) ∧ e.data.size ≤ 40 ∧ (e.hole = true → 0 < e.wave ∧ e.data.size = 0))
theorem entOk_yes {e : Ent} (h : entP e) : entOk e = true := decide_eq_true h
theorem entOk_no {e : Ent} (h : ¬ entP e) : entOk e = false := decide_eq_false h
/-- The entry whose numbers and text these are. -/
def entOf (n1 n2 n3 : Nat) (t : List UInt8) : Ent := ⟨n1, n2, n3 == 1, ⟨t.toArray⟩⟩
/-- EntryRead behind its third number. -/
def readC (bs : List UInt8) (n1 n2 n3 p : Nat) : Option (Ent × Nat) := match gtextB bs p with
  | none => none
  | some (t, q) => if entOk (entOf n1 n2 n3 t) then some (entOf n1 n2 n3 t, q) else none
/-- EntryRead behind its second number. -/
def readB (bs : List UInt8) (n1 n2 p : Nat) : Option (Ent × Nat) := match getB (bs.drop p) with
  | none => none
  | some (n3, k) => if 1 < n3 then none else readC bs n1 n2 n3 (p + k)
/-- EntryRead behind its first number. -/
def readA (bs : List UInt8) (n1 p : Nat) : Option (Ent × Nat) := match getB (bs.drop p) with
  | none => none
  | some (n2, k) => readB bs n1 n2 (p + k)
/-- EntryRead. -/
def readZ (bs : List UInt8) (x : Int) : Option (Ent × Nat) := match getZ bs x with
  | none => none
  | some (n1, k) => readA bs n1 (x.toNat + k)
/-- EntryRead's answer, as a value. -/
def readT (o : Option (Ent × Nat)) : Value := match o with
  | none => .tuple #[.agg #[.int .i64 0, .int .i64 0, .bool false, .string ⟨#[]⟩], .int .i64 0, .bool false]
  | some (e, p) => .tuple #[e.val, .int .i64 (p : Int), .bool true]
theorem getZ_of (bs : List UInt8) (n : Nat) : getZ bs (n : Int) = getB (bs.drop n) := by
  rw [getZ]
  split
  · rename_i h
    rw [getB_nil bs n (by omega)]
  · rw [Int.toNat_natCast]
theorem gtextZ_of (bs : List UInt8) (n : Nat) : gtextZ bs (n : Int) = gtextB bs n := by
  rw [gtextZ]
  split
  · rename_i h
    simp only [gtextB, getB_nil bs n (show bs.length ≤ n by omega)]
  · rw [Int.toNat_natCast]
theorem getZ_bd {bs : List UInt8} {x : Int} {n k : Nat} (h : getZ bs x = some (n, k)) : n ≤ 9223372036854775807 := by
  rw [getZ] at h
  split at h
  · cases h
  · exact (getB_bd h).1
theorem gtextB_len {bs t : List UInt8} {p q : Nat} (h : gtextB bs p = some (t, q)) : t.length ≤ bs.length := by
  simp only [gtextB] at h
  split at h
  · cases h
  · split at h
    · cases h
      simp only [List.length_take, List.length_drop]
      omega
    · cases h
theorem specGetNum_same (v : Value) (bs : List UInt8) (x : Int) (w : World) (hv : Bs w v bs) (hl : bs.length ≤ 1099511627776) :
    Calls Tryd.prog 51 #[v, .int .i64 x] w fun e w' => e = .returned (getT (getZ bs x) x.toNat) ∧ w' = w := by
  by_cases h : x < 0 ∨ (bs.length : Int) ≤ x
  · refine (specGet_out v bs x w hv h).mono fun e w' ⟨h1, h2⟩ => ⟨?_, h2.symm⟩
    rw [h1, getZ, if_pos h]; rfl
  · obtain ⟨n, rfl⟩ := Int.eq_ofNat_of_zero_le (show 0 ≤ x by omega)
    refine (specGet_in v bs n w hv (by omega) (by omega)).mono fun e w' ⟨h1, h2⟩ => ⟨?_, h2.symm⟩
    rw [h1, getZ, if_neg h, Int.toNat_natCast]
theorem specGetText_same (v : Value) (bs : List UInt8) (x : Int) (w : World) (hv : Bs w v bs) (hl : bs.length ≤ 1099511627776) :
    Calls Tryd.prog 63 #[v, .int .i64 x] w fun e w' => e = .returned (gtextT (gtextZ bs x)) ∧ w' = w := by
  by_cases h : x < 0 ∨ (bs.length : Int) ≤ x
  · refine (specGetText_out v bs x w hv h).mono fun e w' ⟨h1, h2⟩ => ⟨?_, h2.symm⟩
    rw [h1, gtextZ, if_pos h]
  · obtain ⟨n, rfl⟩ := Int.eq_ofNat_of_zero_le (show 0 ≤ x by omega)
    refine (specGetText_in v bs n w hv (by omega) (by omega)).mono fun e w' ⟨h1, h2⟩ => ⟨?_, h2.symm⟩
    rw [h1, gtextZ, if_neg h, Int.toNat_natCast]
theorem three_new {w w1 : World} {o1 o2 o3 : Obj} (hb : Below (((w.alloc o1).alloc o2).alloc o3).heap.size (((w.alloc o1).alloc o2).alloc o3) w1) :
    (∀ i, w1.cell? ⟨w.heap.size, i, none⟩ = (w.alloc o1).cell? ⟨w.heap.size, i, none⟩) ∧ (∀ i, w1.frozen? ⟨w.heap.size, i, none⟩ = (w.alloc o1).frozen? ⟨w.heap.size, i, none⟩) ∧
    (∀ i, w1.cell? ⟨w.heap.size + 1, i, none⟩ = ((w.alloc o1).alloc o2).cell? ⟨(w.alloc o1).heap.size, i, none⟩) ∧ (∀ i, w1.cell? ⟨w.heap.size + 1 + 1, i, none⟩ = (((w.alloc o1).alloc o2).alloc o3).cell? ⟨((w.alloc o1).alloc o2).heap.size, i, none⟩) ∧ Below w.heap.size w w1 := by
  have s1 : (w.alloc o1).heap.size = w.heap.size + 1 := by simp
  have s2 : ((w.alloc o1).alloc o2).heap.size = w.heap.size + 1 + 1 := by simp
  have s3 : (((w.alloc o1).alloc o2).alloc o3).heap.size = w.heap.size + 1 + 1 + 1 := by simp
  have hB : Below ((w.alloc o1).alloc o2).heap.size ((w.alloc o1).alloc o2) w1 := ((Below.refl _ _).alloc (Nat.le_refl _) o3).trans (hb.mono (by omega))
  have hA : Below (w.alloc o1).heap.size (w.alloc o1) w1 := ((Below.refl _ _).alloc (Nat.le_refl _) o2).trans (hB.mono (by omega))
  refine ⟨fun i => hA.cell (p := ⟨w.heap.size, i, none⟩) (by rw [s1]; exact Nat.lt_succ_self _), fun i => hA.frozen (p := ⟨w.heap.size, i, none⟩) (by rw [s1]; exact Nat.lt_succ_self _), fun i => ?_, fun i => ?_, ((Below.refl _ _).alloc (Nat.le_refl _) o1).trans (hA.mono (by omega))⟩
  · rw [s1]; exact hB.cell (p := ⟨w.heap.size + 1, i, none⟩) (by rw [s2]; exact Nat.lt_succ_self _)
  · rw [s2]; exact hb.cell (p := ⟨w.heap.size + 1 + 1, i, none⟩) (by rw [s3]; exact Nat.lt_succ_self _)
end Go.Proofs.YthndkkjgjhgdnaaDoor
