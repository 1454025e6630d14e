/- Several texts in one: PkA, EntD, PkC, PkB, StepP, InQ, RetQ, BigB. -/
import Derived.Test.YthndkkjgjhgdnaaGreatDoorGk69
import Derived.Test.YthndkkjgjhgdnaaGreatDoorGaA
import Derived.BigQuiet
import Derived.Deep.QuietTactic
import Derived.Test.YthndkkjgjhgdnaaGreatDoorGaC
import Derived.Deep.RegionHeld3
import Derived.Deep.DeepCutAuto
import Derived.WalkKit
namespace Go.Proofs.YthndkkjgjhgdnaaGreatDoor
open Go.ChangeShapes Go.WideShapes Go.ChangeAt Go.RowKit
set_option linter.unusedVariables false
set_option linter.unusedSimpArgs false

/-- The numbers of a list, one behind the other. -/
def numsB (xs : List Int) : List UInt8 := xs.flatMap fun x => numB x.toNat
/-- The bytes of a list of numbers. -/
def lstB (xs : List Int) : List UInt8 := numB xs.length ++ numsB xs
theorem numsB_take (xs : List Int) (k : Nat) (h : k < xs.length) : numsB (xs.take (k + 1)) = numsB (xs.take k) ++ numB xs[k].toNat := by
  unfold numsB
  rw [List.take_succ_eq_append_getElem h, List.flatMap_append, List.flatMap_cons, List.flatMap_nil, List.append_nil]
theorem numsB_len (xs : List Int) : (numsB xs).length ≤ 9 * xs.length := by
  induction xs with
  | nil => simp [numsB]
  | cons x l ih =>
    have h := numB_len x.toNat
    unfold numsB at ih ⊢
    rw [List.flatMap_cons, List.length_append, List.length_cons]
    omega
theorem lstB_pos (xs : List Int) : 0 < (lstB xs).length := by
  have := numB_pos xs.length
  unfold lstB
  rw [List.length_append]
  omega
theorem lstB_len (xs : List Int) : (lstB xs).length ≤ 9 * xs.length + 9 := by
  have h := numB_len xs.length
  have h2 := numsB_len xs
  unfold lstB
  rw [List.length_append]
  omega
/-- The cells of a list of numbers. -/
theorem Ns.at17 {w : World} {a : Option Addr} {n cap : Nat} {xs : List Int} (h : Ns w (.slice a n cap) xs) {k : Nat} (hk : k < xs.length) : ∃ b off, a = some ⟨b, off, none⟩ ∧ ∀ i (hi : i < xs.length), w.cell? ⟨b, off + i, none⟩ = some (.int .i64 xs[i]) := by
  obtain ⟨-, a', cap', e, -, h⟩ := h
  cases e
  rcases h with h | h
  · rw [h] at hk; simp at hk
  · exact h
/-- Numbers that are not below 0. -/
def natI (xs : List Int) : Prop := ∀ x ∈ xs, 0 ≤ x ∧ x ≤ 9223372036854775807
set_option maxHeartbeats 4000000 in
theorem specList17_any (v : Value) (xs : List Int) (w : World) (hv : Ns w v xs) (h0 : natI xs) (hl : xs.length ≤ 1048576) :
    Calls Tryz.prog 24 #[v] w fun e w' => (∃ u, e = .returned u ∧ w'.ownsRow w.heap.size 5 1 u (lstB xs).length (bcells (lstB xs))) ∧ Below w.heap.size w w' := by
  have HV := dHide fun W (hb : Below w.heap.size w W) => hv.below hb
  obtain ⟨-, a, cap, rfl, -, -⟩ := hv
  have CP := dHide (put_at xs.length (by omega) w w (Below.refl _ _))
  go_enter Tryz.func24, Tryz.ntmps24
  go_wp2_with fail
  refine (dUnhide CP).mono ?_
  rintro e w1 ⟨g1, c1, rfl, o1, r1, b1⟩
  have l1 := numB_len xs.length
  have ES : Hid (lstB xs = numB xs.length ++ numsB xs) := rfl
  have LP := dHide (numB_pos xs.length)
  have HO := dHide o1
  generalize numB xs.length = pre at *
  clear CP r1 o1
  go_wp2
  go_loopw [3, 4] (fun o x wr => ∃ k : Nat, x = .int .i64 (k : Int) ∧ k ≤ xs.length ∧ wr.ownsRow w.heap.size 5 1 o (pre ++ numsB (xs.take k)).length (bcells (pre ++ numsB (xs.take k))) ∧ Below w.heap.size w wr) (fun _ x _ => xs.length - (intOf x).toNat)
  case atStart => exact ⟨0, rfl, Nat.zero_le _, by simpa [numsB] using dUnhide HO, b1⟩
  case round =>
    clear HO b1
    obtain ⟨k, rfl, hk, ho, hb⟩ := hrel
    by_cases hlt : (k : Int) < (xs.length : Int)
    · have hkl : k < xs.length := by omega
      obtain ⟨b, off, rfl, hc⟩ := (dUnhide HV wr hb).at17 hkl
      have c0 := hc k hkl
      have hS := dHide (numsB_take xs k hkl)
      have hx0 := h0 _ (List.getElem_mem hkl)
      have hfl := numsB_len (xs.take k)
      rw [List.length_take] at hfl
      generalize xs[k] = y at *
      generalize numsB (xs.take k) = FK at *
      obtain ⟨n, rfl⟩ := Int.eq_ofNat_of_zero_le hx0.1
      rw [Int.toNat_natCast] at hS
      have hpp := numB_pos n
      have hp9 := numB_len n
      have CP := dHide (put_at n (by omega) w wr hb)
      have HOB := dHide ho
      clear hc ho
      go_wp2_with fail
      refine (dUnhide CP).mono ?_
      rintro e w2 ⟨g2, c2, rfl, o2, r2, b2⟩
      have ho2 := own_kept (dUnhide HOB) r2
      clear CP HOB r2 c0 hb
      go_wp2_with (at_builtin; refine app8 _ rfl _ _ rfl w.heap.size _ (pre ++ FK) rfl ho2 ⟨g2, 0, none⟩ _ _ (numB n) rfl rfl (o2.cells rfl) ?c3 b2.size ?_)
      case c3 => simp only [List.length_append]; omega
      intro v3 w3 o3 r3
      have hb3 := b2.grown r3 b2.size (fun j hj => (ho2.lt j hj).1)
      have hrel : Hid (w3.ownsRow w.heap.size 5 1 v3 (pre ++ numsB (xs.take (k + 1))).length (bcells (pre ++ numsB (xs.take (k + 1))))) := by
        rw [Hid, dUnhide hS]
        first | exact own_len8 o3 | exact own_len8 (by rw [← List.append_assoc]; exact o3)
      clear o3 r3 ho2 o2 b2
      go_wp2
      go_roundw
      case rel => exact ⟨k + 1, by go_num, by omega, dUnhide hrel, hb3⟩
      case measure => simp [intOf]; omega
    · have e1 : xs.take k = xs := List.take_of_length_le (by omega)
      rw [e1] at ho
      have Q := dHide ho
      clear e1 ho
      go_wp2
      go_ret
      refine ⟨⟨_, rfl, ?_⟩, hb⟩
      rw [dUnhide ES]
      exact dUnhide Q
end Go.Proofs.YthndkkjgjhgdnaaGreatDoor
namespace Go.Proofs.YthndkkjgjhgdnaaGreatDoor
open Go.ChangeShapes Go.WideShapes Go.ChangeAt Go.RowKit
set_option linter.unusedVariables false
set_option linter.unusedSimpArgs false

/-- entP, as a Bool. -/
def entOk (e : Ent) : Bool := decide ((0 < e.pl ∧ 1 ≤ e.pl / 4294967296 ∧ e.pl / 4294967296 ≤ 30 ∧ 1 ≤ e.pl % 4294967296 ∧ e.pl % 4294967296 ≤ 60) ∧ 0 ≤ e.wave ∧ e.wave ≤ 30 ∧ (0 < e.wave → e.pl / 4294967296 < e.wave) ∧ e.data.size ≤ 40 ∧ (e.hole = true → 0 < e.wave ∧ e.data.size = 0))
theorem entOk_yes {e : Ent} (h : entP e) : entOk e = true := decide_eq_true h
theorem entOk_no {e : Ent} (h : ¬ entP e) : entOk e = false := decide_eq_false h
/-- The entry whose numbers and text these are. -/
def entOf (n1 n2 n3 : Nat) (t : List UInt8) : Ent := ⟨n1, n2, n3 == 1, ⟨t.toArray⟩⟩
/-- EntryRead behind its third number. -/
def readC (bs : List UInt8) (n1 n2 n3 p : Nat) : Option (Ent × Nat) := match gtextB bs p with
  | none => none
  | some (t, q) => if entOk (entOf n1 n2 n3 t) then some (entOf n1 n2 n3 t, q) else none
/-- EntryRead behind its second number. -/
def readB (bs : List UInt8) (n1 n2 p : Nat) : Option (Ent × Nat) := match getB (bs.drop p) with
  | none => none
  | some (n3, k) => if 1 < n3 then none else readC bs n1 n2 n3 (p + k)
/-- EntryRead behind its first number. -/
def readA (bs : List UInt8) (n1 p : Nat) : Option (Ent × Nat) := match getB (bs.drop p) with
  | none => none
  | some (n2, k) => readB bs n1 n2 (p + k)
/-- EntryRead. -/
def readZ (bs : List UInt8) (x : Int) : Option (Ent × Nat) := match getZ bs x with
  | none => none
  | some (n1, k) => readA bs n1 (x.toNat + k)
/-- EntryRead's answer, as a value. -/
def readT (o : Option (Ent × Nat)) : Value := match o with
  | none => .tuple #[.agg #[.int .i64 0, .int .i64 0, .bool false, .string ⟨#[]⟩], .int .i64 0, .bool false]
  | some (e, p) => .tuple #[e.val, .int .i64 (p : Int), .bool true]
theorem getZ_of (bs : List UInt8) (n : Nat) : getZ bs (n : Int) = getB (bs.drop n) := by
  rw [getZ]
  split
  · rename_i h
    rw [getB_nil bs n (by omega)]
  · rw [Int.toNat_natCast]
theorem gtextZ_of (bs : List UInt8) (n : Nat) : gtextZ bs (n : Int) = gtextB bs n := by
  rw [gtextZ]
  split
  · rename_i h
    simp only [gtextB, getB_nil bs n (show bs.length ≤ n by omega)]
  · rw [Int.toNat_natCast]
theorem getZ_bd {bs : List UInt8} {x : Int} {n k : Nat} (h : getZ bs x = some (n, k)) : n ≤ 9223372036854775807 := by
  rw [getZ] at h
  split at h
  · cases h
  · exact (getB_bd h).1
theorem gtextB_len {bs t : List UInt8} {p q : Nat} (h : gtextB bs p = some (t, q)) : t.length ≤ bs.length := by
  simp only [gtextB] at h
  split at h
  · cases h
  · split at h
    · cases h
      simp only [List.length_take, List.length_drop]
      omega
    · cases h
theorem specGetNum_same (v : Value) (bs : List UInt8) (x : Int) (w : World) (hv : Bs w v bs) (hl : bs.length ≤ 1099511627776) :
    Calls Tryz.prog 65 #[v, .int .i64 x] w fun e w' => e = .returned (getT (getZ bs x) x.toNat) ∧ w' = w := by
  by_cases h : x < 0 ∨ (bs.length : Int) ≤ x
  · refine (specGet_out v bs x w hv h).mono fun e w' ⟨h1, h2⟩ => ⟨?_, h2.symm⟩
    rw [h1, getZ, if_pos h]; rfl
  · obtain ⟨n, rfl⟩ := Int.eq_ofNat_of_zero_le (show 0 ≤ x by omega)
    refine (specGet_in v bs n w hv (by omega) (by omega)).mono fun e w' ⟨h1, h2⟩ => ⟨?_, h2.symm⟩
    rw [h1, getZ, if_neg h, Int.toNat_natCast]
theorem specGetText_same (v : Value) (bs : List UInt8) (x : Int) (w : World) (hv : Bs w v bs) (hl : bs.length ≤ 1099511627776) :
    Calls Tryz.prog 79 #[v, .int .i64 x] w fun e w' => e = .returned (gtextT (gtextZ bs x)) ∧ w' = w := by
  by_cases h : x < 0 ∨ (bs.length : Int) ≤ x
  · refine (specGetText_out v bs x w hv h).mono fun e w' ⟨h1, h2⟩ => ⟨?_, h2.symm⟩
    rw [h1, gtextZ, if_pos h]
  · obtain ⟨n, rfl⟩ := Int.eq_ofNat_of_zero_le (show 0 ≤ x by omega)
    refine (specGetText_in v bs n w hv (by omega) (by omega)).mono fun e w' ⟨h1, h2⟩ => ⟨?_, h2.symm⟩
    rw [h1, gtextZ, if_neg h, Int.toNat_natCast]
theorem three_new {w w1 : World} {o1 o2 o3 : Obj} (hb : Below (((w.alloc o1).alloc o2).alloc o3).heap.size (((w.alloc o1).alloc o2).alloc o3) w1) :
    (∀ i, w1.cell? ⟨w.heap.size, i, none⟩ = (w.alloc o1).cell? ⟨w.heap.size, i, none⟩) ∧ (∀ i, w1.frozen? ⟨w.heap.size, i, none⟩ = (w.alloc o1).frozen? ⟨w.heap.size, i, none⟩) ∧
    (∀ i, w1.cell? ⟨w.heap.size + 1, i, none⟩ = ((w.alloc o1).alloc o2).cell? ⟨(w.alloc o1).heap.size, i, none⟩) ∧ (∀ i, w1.cell? ⟨w.heap.size + 1 + 1, i, none⟩ = (((w.alloc o1).alloc o2).alloc o3).cell? ⟨((w.alloc o1).alloc o2).heap.size, i, none⟩) ∧ Below w.heap.size w w1 := by
  have s1 : (w.alloc o1).heap.size = w.heap.size + 1 := by simp
  have s2 : ((w.alloc o1).alloc o2).heap.size = w.heap.size + 1 + 1 := by simp
  have s3 : (((w.alloc o1).alloc o2).alloc o3).heap.size = w.heap.size + 1 + 1 + 1 := by simp
  have hB : Below ((w.alloc o1).alloc o2).heap.size ((w.alloc o1).alloc o2) w1 := ((Below.refl _ _).alloc (Nat.le_refl _) o3).trans (hb.mono (by omega))
  have hA : Below (w.alloc o1).heap.size (w.alloc o1) w1 := ((Below.refl _ _).alloc (Nat.le_refl _) o2).trans (hB.mono (by omega))
  refine ⟨fun i => hA.cell (p := ⟨w.heap.size, i, none⟩) (by rw [s1]; exact Nat.lt_succ_self _), fun i => hA.frozen (p := ⟨w.heap.size, i, none⟩) (by rw [s1]; exact Nat.lt_succ_self _), fun i => ?_, fun i => ?_, ((Below.refl _ _).alloc (Nat.le_refl _) o1).trans (hA.mono (by omega))⟩
  · rw [s1]; exact hB.cell (p := ⟨w.heap.size + 1, i, none⟩) (by rw [s2]; exact Nat.lt_succ_self _)
  · rw [s2]; exact hb.cell (p := ⟨w.heap.size + 1 + 1, i, none⟩) (by rw [s3]; exact Nat.lt_succ_self _)
end Go.Proofs.YthndkkjgjhgdnaaGreatDoor
namespace Go.Proofs.YthndkkjgjhgdnaaGreatDoor
open Go.ChangeShapes Go.WideShapes Go.ChangeAt Go.RowKit
set_option linter.unusedVariables false
set_option linter.unusedSimpArgs false
set_option maxRecDepth 100000

/-- A number that is read by the cursor, and where it is then. -/
def rdN (bs : List UInt8) (q : Nat) (ok : Bool) : Int × Nat × Bool := if ok then (match getZ bs (q : Int) with | some (x, k) => ((x : Int), q + k, true) | none => (0, q, false)) else (0, q, false)
theorem rdN_off (bs : List UInt8) (q : Nat) : rdN bs q false = (0, q, false) := rfl
theorem rdN_none {bs : List UInt8} {q : Nat} (ok : Bool) (h : getZ bs (q : Int) = none) : rdN bs q ok = (0, q, false) := by
  cases ok
  · rfl
  · simp [rdN, h]
theorem rdN_some {bs : List UInt8} {q x k : Nat} (h : getZ bs (q : Int) = some (x, k)) : rdN bs q true = ((x : Int), q + k, true) := by simp [rdN, h]
/-- The cursor, in its block cb. -/
def Cu (W : World) (B cb : Nat) (v : Value) (q : Nat) (ok : Bool) : Prop := BxZ W B cb [v, .int .i64 (q : Int), .bool ok]
set_option maxHeartbeats 4000000 in
theorem specNum17_any (B cb : Nat) (v : Value) (bs : List UInt8) (q : Nat) (ok : Bool) (w : World) (hc : Cu w B cb v q ok) (hv : Bs w v bs) (hl : bs.length ≤ 1048576) :
    Calls Tryz.prog 31 #[.pointer (some ⟨cb, 0, none⟩)] w fun e w' => e = .returned (.int .i64 (rdN bs q ok).1) ∧ Cu w' B cb v (rdN bs q ok).2.1 (rdN bs q ok).2.2 ∧ Drawn cb w w' := by
  have CG := dHide fun W (hb : Below w.heap.size w W) => specGetNum_same v bs (q : Int) W (hv.below hb) (by omega)
  obtain ⟨-, a, cap, rfl, -⟩ := hv
  have HC := dHide fun W (hb : Below w.heap.size w W) => BxZ.below hc hb
  cases hz : getZ bs (q : Int) with
  | none =>
    have HR : Hid (rdN bs q ok = (0, q, false)) := rdN_none ok hz
    have CN := dHide fun W (hb : Below w.heap.size w W) => (dUnhide CG W hb).mono fun e w' h => (⟨by rw [h.1, hz]; rfl, h.2⟩ : e = .returned (.tuple #[.int .i64 0, .int .i64 0, .bool false]) ∧ w' = W)
    rw [dUnhide HR]
    clear hz
    obtain ⟨b0, -⟩ := hc.2 0 _ rfl
    obtain ⟨b1, -⟩ := hc.2 1 _ rfl
    clear HR CG
    go_enter Tryz.func31, Tryz.ntmps31
    go_wp2_with fail
    go_quiet ((go_at_call 65; exact Calls.quiet_of_same (dUnhide CN _ (below_drewN (Below.refl _ _) _))))
    have Xd := dUnhide HC (w.drewN nq) (below_drewN (Below.refl _ _) nq)
    have Dd := (Drawn.refl cb w).drewN nq
    obtain ⟨d0, -⟩ := Xd.2 0 _ rfl
    obtain ⟨d1, g1⟩ := Xd.2 1 _ rfl
    obtain ⟨d2, g2⟩ := Xd.2 2 _ rfl
    generalize w.drewN nq = wd at *
    have F := dHide (And.intro (Xd.put 2 (.bool false)) (Dd.setCell 2 (.bool false)))
    clear Xd Dd CN HC hc
    go_wp2
    go_ret
    exact ⟨rfl, (dUnhide F).1, (dUnhide F).2⟩
  | some r =>
    obtain ⟨x, k⟩ := r
    have CN := dHide fun W (hb : Below w.heap.size w W) => (dUnhide CG W hb).mono fun e w' h => (⟨by rw [h.1, hz]; simp [getT], h.2⟩ : e = .returned (.tuple #[.int .i64 (x : Int), .int .i64 ((q + k : Nat) : Int), .bool true]) ∧ w' = W)
    cases ok
    case false =>
      have HR : Hid (rdN bs q false = (0, q, false)) := rdN_off bs q
      rw [dUnhide HR]
      clear hz
      obtain ⟨b0, -⟩ := hc.2 0 _ rfl
      obtain ⟨b1, -⟩ := hc.2 1 _ rfl
      clear HR CG
      go_enter Tryz.func31, Tryz.ntmps31
      go_wp2_with fail
      go_quiet ((go_at_call 65; exact Calls.quiet_of_same (dUnhide CN _ (below_drewN (Below.refl _ _) _))))
      have Xd := dUnhide HC (w.drewN nq) (below_drewN (Below.refl _ _) nq)
      have Dd := (Drawn.refl cb w).drewN nq
      obtain ⟨d0, -⟩ := Xd.2 0 _ rfl
      obtain ⟨d1, g1⟩ := Xd.2 1 _ rfl
      obtain ⟨d2, g2⟩ := Xd.2 2 _ rfl
      generalize w.drewN nq = wd at *
      have F := dHide (And.intro (Xd.put 2 (.bool false)) (Dd.setCell 2 (.bool false)))
      clear Xd Dd CN HC hc
      go_wp2
      go_ret
      exact ⟨rfl, (dUnhide F).1, (dUnhide F).2⟩
    case true =>
      have HR : Hid (rdN bs q true = ((x : Int), q + k, true)) := rdN_some hz
      rw [dUnhide HR]
      clear hz
      obtain ⟨b0, -⟩ := hc.2 0 _ rfl
      obtain ⟨b1, -⟩ := hc.2 1 _ rfl
      clear HR CG
      go_enter Tryz.func31, Tryz.ntmps31
      go_wp2_with fail
      go_quiet ((go_at_call 65; exact Calls.quiet_of_same (dUnhide CN _ (below_drewN (Below.refl _ _) _))))
      have Xd := dUnhide HC (w.drewN nq) (below_drewN (Below.refl _ _) nq)
      have Dd := (Drawn.refl cb w).drewN nq
      obtain ⟨d0, -⟩ := Xd.2 0 _ rfl
      obtain ⟨d1, g1⟩ := Xd.2 1 _ rfl
      obtain ⟨d2, g2⟩ := Xd.2 2 _ rfl
      generalize w.drewN nq = wd at *
      have F := dHide (And.intro (Xd.put 1 (.int .i64 ((q + k : Nat) : Int))) (Dd.setCell 1 (.int .i64 ((q + k : Nat) : Int))))
      clear Xd Dd CN HC hc
      go_wp2
      go_ret
      exact ⟨rfl, (dUnhide F).1, (dUnhide F).2⟩
end Go.Proofs.YthndkkjgjhgdnaaGreatDoor
namespace Go.Proofs.YthndkkjgjhgdnaaGreatDoor
open Go.ChangeShapes Go.WideShapes Go.ChangeAt Go.RowKit
set_option linter.unusedVariables false
set_option linter.unusedSimpArgs false
set_option maxRecDepth 100000

/-- The bytes of a config. -/
def cfgB (ds : List Int) (cop : Int) : List UInt8 := lstB ds ++ numB cop.toNat
open Classical in
/-- ConfigPack. -/
noncomputable def cfgM (ds : List Int) (cop : Int) : List UInt8 × Bool := if cfgP ds cop then (cfgB ds cop, true) else ([], false)
theorem cfgM_yes {ds : List Int} {cop : Int} (h : cfgP ds cop) : cfgM ds cop = (cfgB ds cop, true) := if_pos h
theorem cfgM_no {ds : List Int} {cop : Int} (h : ¬ cfgP ds cop) : cfgM ds cop = ([], false) := if_neg h
/-- A list's bytes, in a world that grew. -/
theorem list_at (v : Value) (xs : List Int) (w0 W : World) (hv : Ns W v xs) (h0 : natI xs) (hl : xs.length ≤ 1048576) (hb : Below w0.heap.size w0 W) :
    Calls Tryz.prog 24 #[v] W fun e w' => ∃ g cap, e = .returned (.slice (some ⟨g, 0, none⟩) (lstB xs).length cap) ∧ w'.ownsRow w0.heap.size 5 1 (.slice (some ⟨g, 0, none⟩) (lstB xs).length cap) (lstB xs).length (bcells (lstB xs)) ∧ W.grownBy w' none ∧ Below w0.heap.size w0 w' := by
  refine (specList17_any v xs W hv h0 hl).mono fun e w' ⟨⟨u, h1, h2⟩, h3⟩ => ?_
  obtain ⟨g, cap, rfl⟩ := own_some h2 (lstB_pos xs)
  exact ⟨g, cap, h1, own_mono h2 hb.size, Below.row h3 none, hb.trans (h3.mono hb.size)⟩
end Go.Proofs.YthndkkjgjhgdnaaGreatDoor
namespace Go.Proofs.YthndkkjgjhgdnaaGreatDoor
open Go.ChangeShapes Go.WideShapes Go.ChangeAt Go.RowKit
set_option linter.unusedVariables false
set_option maxRecDepth 100000

section
variable {T TS : TypeId} {zs : List Value} {w : World} {ops : Array Oper} {o : Oper} {a : Act} {Q : Exit → Act → World → Prop} {K : Act → World → Prop} {F : Prop}
/-- A record's block. -/
def AllocsAs (T : TypeId) (zs : List Value) : Prop := ∀ w : World, (Instr.alloc T true (.tuple #[])).run Tryz.prog w = .ok (.pointer (some ⟨w.heap.size, 0, none⟩)) (w.alloc (.cells zs.toArray T))
/-- A slice of nothing. -/
def MakesNone (TS T : TypeId) : Prop := ∀ w : World, (Instr.buildSlice TS 0 #[]).run Tryz.prog w = .ok (.slice (some ⟨w.heap.size, 0, none⟩) 0 0) (w.alloc (.cells #[] T))
theorem step_alloc (hr : AllocsAs T zs) (hg : o.guard = none) (hop : o.op = .alloc T) (B : Nat) (hB : B ≤ w.heap.size)
    (h : ∀ w' b, BxZ w' B b zs → Below w.heap.size w w' → w.heap.size ≤ b → b < w'.heap.size → K (a.put o.dst (.pointer (some ⟨b, 0, none⟩))) w') :
    if Region.wanted o (yielded ops a.tmps) = true then Oper.wp Tryz.prog o a w K Q else F := by
  have hw : Region.wanted o (yielded ops a.tmps) = true := by simp [Region.wanted, hg]
  rw [if_pos hw]
  have h4 := h _ w.heap.size (BxZ.new w zs T hB) ((Below.refl _ _).alloc (Nat.le_refl _) _) (Nat.le_refl _) (by simp)
  unfold Oper.wp
  simp [execOp, hop, hr w, Result.andThen]
  exact h4
theorem step_made (hr : MakesNone TS T) (hg : o.guard = none) (hop : o.op = .buildSlice TS 0 #[])
    (h : ∀ w' a0, Below w.heap.size w w' → K (a.put o.dst (.slice a0 0 0)) w') :
    if Region.wanted o (yielded ops a.tmps) = true then Oper.wp Tryz.prog o a w K Q else F := by
  have hw : Region.wanted o (yielded ops a.tmps) = true := by simp [Region.wanted, hg]
  rw [if_pos hw]
  have h4 := h _ (some ⟨w.heap.size, 0, none⟩) ((Below.refl _ _).alloc (Nat.le_refl _) (.cells #[] T))
  unfold Oper.wp
  simp [execOp, hop, hr w, Result.andThen]
  exact h4
end
/-- What touches from base on touches no block below. -/
theorem touch_base {α : Type} {T TS : TypeId} {z : Value} {sz bytes : Nat} {cl : α → List Value} {w : World} {base b : Nat} {v : Value} {ms : List α} (E : Elem T TS z sz bytes cl) (h : ApR T sz cl w base v ms) (hb : b < base) : touch v ≠ some b := fun e => by have := (h.touched E e).1; omega
end Go.Proofs.YthndkkjgjhgdnaaGreatDoor
namespace Go.Proofs.YthndkkjgjhgdnaaGreatDoor
open Go.ChangeShapes Go.WideShapes Go.ChangeAt Go.RowKit
set_option linter.unusedVariables false

theorem l1In_any (x a b : Int) (W : World) : Calls Tryz.prog 54 #[.int .i64 x, .int .i64 a, .int .i64 b] W fun e w' => RetB (a ≤ x ∧ x ≤ b) e ∧ w' = W := by
  by_cases h : a ≤ x ∧ x ≤ b
  · exact (l1In_yes x a b h.1 h.2 W).mono fun e w' ⟨h1, h2⟩ => ⟨h1 ▸ RetB.yes h, by first | exact h2 | exact h2.symm⟩
  · exact (l1In_no x a b (by omega) W).mono fun e w' ⟨h1, h2⟩ => ⟨h1 ▸ RetB.no h, by first | exact h2 | exact h2.symm⟩
end Go.Proofs.YthndkkjgjhgdnaaGreatDoor
namespace Go.Proofs.YthndkkjgjhgdnaaGreatDoor
open Go.ChangeShapes Go.WideShapes Go.ChangeAt Go.RowKit
set_option linter.unusedVariables false

theorem retB_yes {F : Nat} {args : Array Value} {w : World} {p : Prop} (h : Calls Tryz.prog F args w fun e w' => RetB p e ∧ Below w.heap.size w w') (hp : p) : Calls Tryz.prog F args w fun e w' => e = .returned (.bool true) ∧ Below w.heap.size w w' := h.mono fun e w' ⟨h1, h2⟩ => ⟨h1.of_yes hp, h2⟩
theorem retB_no {F : Nat} {args : Array Value} {w : World} {p : Prop} (h : Calls Tryz.prog F args w fun e w' => RetB p e ∧ Below w.heap.size w w') (hp : ¬ p) : Calls Tryz.prog F args w fun e w' => e = .returned (.bool false) ∧ Below w.heap.size w w' := h.mono fun e w' ⟨h1, h2⟩ => ⟨h1.of_no hp, h2⟩
end Go.Proofs.YthndkkjgjhgdnaaGreatDoor
namespace Go.Proofs.YthndkkjgjhgdnaaGreatDoor
open Go.ChangeShapes Go.WideShapes Go.ChangeAt Go.RowKit
set_option linter.unusedVariables false

theorem big_yes (a : Option Addr) (len cap : Nat) (h : 1048576 < len) (h' : len ≤ 9223372036854775807) (w : World) :
    Calls Tryz.prog 5 #[.slice a len cap] w fun e w' => e = .returned (.bool true) ∧ w = w' := by
  have hz : (1048576 : Int) < (len : Int) := by omega
  go_enter Tryz.func5, Tryz.ntmps5
  go_wp2
  go_ret
  exact ⟨rfl, rfl⟩
theorem big_no (a : Option Addr) (len cap : Nat) (h : ¬ 1048576 < len) (w : World) :
    Calls Tryz.prog 5 #[.slice a len cap] w fun e w' => e = .returned (.bool false) ∧ w = w' := by
  have hz : ¬ ((1048576 : Int) < (len : Int)) := by omega
  go_enter Tryz.func5, Tryz.ntmps5
  go_wp2
  go_ret
  exact ⟨rfl, rfl⟩
end Go.Proofs.YthndkkjgjhgdnaaGreatDoor
