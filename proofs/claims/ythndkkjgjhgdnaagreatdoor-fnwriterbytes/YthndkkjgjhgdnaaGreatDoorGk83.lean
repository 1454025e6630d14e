/- Several texts in one: NumP, NumS, GetP, GetS, TextS, TextG, CpN, MarkT, WrA, WrSa. -/
import Derived.Test.YthndkkjgjhgdnaaGreatDoorGaA
import Derived.Laws.AppendOwn
import Derived.OwnWalk
import Derived.Lib.ConvBytes
import Derived.Lib.Strings
import Derived.Laws.BytesArg
import Derived.Laws.IdiomStrings
import Derived.Test.YthndkkjgjhgdnaaGreatDoorGaB
import Derived.Test.YthndkkjgjhgdnaaGreatDoorGk75
import Derived.Deep.RegionHeld3
import Derived.Deep.DeepCutAuto
namespace Go.Proofs.YthndkkjgjhgdnaaGreatDoor

/-- The number form of x, at most n bytes. -/
def numF : Nat → Nat → List UInt8
  | 0, _ => []
  | n + 1, x => if x < 128 then [UInt8.ofNat x] else UInt8.ofNat (x % 128 + 128) :: numF n (x / 128)
/-- The number form of a number below 2^63. -/
def numB (x : Nat) : List UInt8 := numF 9 x
theorem numF_len (n x : Nat) : (numF n x).length ≤ n := by
  induction n generalizing x with
  | zero => simp [numF]
  | succ n ih =>
    simp only [numF]
    split
    · simp
    · have := ih (x / 128); simp; omega
theorem numB_len (x : Nat) : (numB x).length ≤ 9 := numF_len 9 x
theorem numF_small {n x : Nat} (h : x < 128) : numF (n + 1) x = [UInt8.ofNat x] := by simp [numF, h]
theorem numF_big {n x : Nat} (h : ¬ x < 128) : numF (n + 1) x = UInt8.ofNat (x % 128 + 128) :: numF n (x / 128) := by simp [numF, h]
/-- Where PutNum stands: l is written, m is left. -/
def NumInv (x m : Nat) (l : List UInt8) : Prop := l ++ numF (9 - l.length) m = numB x ∧ l.length ≤ 8 ∧ m < 128 ^ (9 - l.length)
theorem NumInv.start {x : Nat} (h : x ≤ 9223372036854775807) : NumInv x x [] := ⟨rfl, by simp, by have : 128 ^ (9 - ([] : List UInt8).length) = 9223372036854775808 := by decide
                                                                                                  omega⟩
theorem NumInv.step {x m : Nat} {l : List UInt8} (h : NumInv x m l) (hm : ¬ m < 128) : NumInv x (m / 128) (l ++ [UInt8.ofNat (m % 128 + 128)]) := by
  obtain ⟨h1, h2, h3⟩ := h
  have h8 : l.length ≤ 7 := by
    rcases Nat.lt_or_ge l.length 8 with h | h
    · omega
    · have : 9 - l.length = 1 := by omega
      rw [this] at h3
      omega
  have e : 9 - l.length = (9 - (l.length + 1)) + 1 := by omega
  refine ⟨?_, by simp; omega, ?_⟩
  · rw [← h1, e, numF_big hm]
    simp
  · rw [e, Nat.pow_succ] at h3
    rw [List.length_append, List.length_singleton]
    omega
theorem NumInv.done {x m : Nat} {l : List UInt8} (h : NumInv x m l) (hm : m < 128) : l ++ [UInt8.ofNat m] = numB x := by
  obtain ⟨h1, h2, h3⟩ := h
  have e : 9 - l.length = (8 - l.length) + 1 := by omega
  rw [← h1, e, numF_small hm]
theorem bcells_snoc (l : List UInt8) (c : UInt8) : bcells (l ++ [c]) = bcells l ++ [.int .u8 (c.toNat : Int)] := by simp [bcells]
theorem bcells_len (l : List UInt8) : (bcells l).length = l.length := by simp [bcells]
end Go.Proofs.YthndkkjgjhgdnaaGreatDoor
namespace Go.Proofs.YthndkkjgjhgdnaaGreatDoor
open Go.ChangeShapes Go.WideShapes Go.ChangeAt Go.RowKit
set_option linter.unusedVariables false

theorem info8' : (Tryz.prog.info? 5).map (fun i => (i.zero, i.size, i.bytes)) = some (some (.int .u8 0), 1, 1) := by kernel_rfl
theorem grown_below {B : Nat} {w0 w w' : World} {row : Option Nat} (hb : Below B w0 w) (hg : w.grownBy w' row) (hB : B ≤ w.heap.size) (hr : ∀ k, row = some k → B ≤ k) : Below B w0 w' := hb.grown hg hB hr
theorem one_new (w : World) (x : Value) (T : TypeId) : ∀ j u, [x][j]? = some u → (w.alloc (.cells #[x] T)).cell? ((⟨w.heap.size, 0, none⟩ : Addr).add j) = some u := by
  intro j u hj
  match j, hj with
  | 0, hj => simp at hj; subst hj; simp [Addr.add]
theorem one_cell (n : Int) : ∀ u ∈ [Value.int .u8 n], u.oneCell' = true := by
  intro u hu; simp at hu; subst hu; rfl
theorem specPut_no (x : Int) (h : x < 0) (w : World) :
    Calls Tryz.prog 23 #[.int .i64 x] w fun e w' => (∃ v, e = .returned v ∧ w'.ownsRow w.heap.size 5 1 v 0 (bcells [])) ∧ Below w.heap.size w w' := by
  go_enter Tryz.func23, Tryz.ntmps23
  go_wp2
  go_ret
  exact ⟨⟨_, rfl, World.ownsRow_made w #[] 0 (Nat.le_refl _) (by decide) (by simp)⟩, (Below.refl _ _).alloc (Nat.le_refl _) _⟩
set_option maxHeartbeats 1000000 in
theorem specPut_yes (x : Nat) (h : x ≤ 9223372036854775807) (w : World) :
    Calls Tryz.prog 23 #[.int .i64 (x : Int)] w fun e w' => (∃ v, e = .returned v ∧ w'.ownsRow w.heap.size 5 1 v (numB x).length (bcells (numB x))) ∧ Below w.heap.size w w' := by
  obtain ⟨i0, hi, hz0, hz1, hz2⟩ := info_parts info8'
  have hx : ¬ ((x : Int) < 0) := by omega
  go_enter Tryz.func23, Tryz.ntmps23
  go_wp2
  go_loopw [3, 0] (fun o xv wr => ∃ (m : Nat) (l : List UInt8), xv = .int .i64 (m : Int) ∧ wr.ownsRow w.heap.size 5 1 o l.length (bcells l) ∧ m ≤ x ∧ Hid (NumInv x m l) ∧ Below w.heap.size w wr) (fun _ xv _ => (intOf xv).toNat)
  case atStart => exact ⟨x, [], rfl, World.ownsRow_made w #[] 0 (Nat.le_refl _) (by decide) (by simp), Nat.le_refl _, NumInv.start h, (Below.refl _ _).alloc (Nat.le_refl _) _⟩
  case round =>
    obtain ⟨m, l, rfl, hown, hmx, hinv, hb⟩ := hrel
    have hl8 := (dUnhide hinv).2.1
    have hlt := hown.lt
    by_cases hm : (127 : Int) < (m : Int)
    · have hmod : ((UInt8.ofNat (m % 128 + 128)).toNat : Int) = (m : Int) % 128 + 128 := by simp; omega
      go_wp2_with (at_builtin; refine wpList_append_own _ rfl _ _ 22 rfl w.heap.size 5 i0 (.int .u8 0) 1 1 Tryz.underlying22 hi hz0 hz1 hz2 rfl (by decide) _ _ _ rfl (hown.alloc _) ⟨wr.heap.size, 0, none⟩ 1 1 [.int .u8 ((m : Int) % 128 + 128)] rfl rfl (one_new _ _ _) (one_cell _) ?c3 ?c4 ?c5 ?_)
      case c3 => unfold maxLen; omega
      case c4 => omega
      case c5 => have := hb.size; simp; omega
      intro v' w1 hown' hgrow _
      have hb1 : Below w.heap.size w w1 := grown_below (hb.alloc hb.size _) hgrow (by have := hb.size; simp; omega) (fun k hk => (hlt k hk).1)
      have hown2 : w1.ownsRow w.heap.size 5 1 v' (l ++ [UInt8.ofNat (m % 128 + 128)]).length (bcells (l ++ [UInt8.ofNat (m % 128 + 128)])) := by
        rw [bcells_snoc, hmod]; simpa using hown'
      have hst : Hid (NumInv x (m / 128) (l ++ [UInt8.ofNat (m % 128 + 128)])) := NumInv.step hinv (by omega)
      clear hown hown' hgrow hb hlt hmod hinv
      generalize l ++ [UInt8.ofNat (m % 128 + 128)] = l' at *
      go_wp2
      go_roundw
      case rel => exact ⟨m / 128, l', by go_num, hown2, by omega, hst, hb1⟩
      case measure => simp [intOf]; omega
    · have hfin := NumInv.done hinv (by omega)
      have hmod : ((UInt8.ofNat m).toNat : Int) = (m : Int) := by simp; omega
      have HF := dHide hfin
      clear hfin
      go_wp2_with (at_builtin; refine wpList_append_own _ rfl _ _ 22 rfl w.heap.size 5 i0 (.int .u8 0) 1 1 Tryz.underlying22 hi hz0 hz1 hz2 rfl (by decide) _ _ _ rfl (hown.alloc _) ⟨wr.heap.size, 0, none⟩ 1 1 [.int .u8 (m : Int)] rfl rfl (one_new _ _ _) (one_cell _) ?c3 ?c4 ?c5 ?_)
      case c3 => unfold maxLen; omega
      case c4 => omega
      case c5 => have := hb.size; simp; omega
      intro v' w1 hown' hgrow _
      have hb1 : Below w.heap.size w w1 := grown_below (hb.alloc hb.size _) hgrow (by have := hb.size; simp; omega) (fun k hk => (hlt k hk).1)
      have hown2 : w1.ownsRow w.heap.size 5 1 v' (numB x).length (bcells (numB x)) := by
        rw [← dUnhide HF, bcells_snoc, hmod]; simpa using hown'
      clear hown hown' hgrow hb hlt hmod hinv HF
      go_wp2
      go_ret
      exact ⟨⟨_, rfl, hown2⟩, hb1⟩
end Go.Proofs.YthndkkjgjhgdnaaGreatDoor
namespace Go.Proofs.YthndkkjgjhgdnaaGreatDoor

/-- Reads at most n bytes more of a number form, k bytes being read, the unit u, the number x so far: the number, and how many bytes. -/
def getF : Nat → Nat → Nat → Nat → List UInt8 → Option (Nat × Nat)
  | 0, _, _, _, _ => none
  | _ + 1, _, _, _, [] => none
  | n + 1, k, u, x, d :: r => if d.toNat < 128 then (if d.toNat = 0 ∧ 0 < k then none else some (x + d.toNat % 128 * u, k + 1)) else getF n (k + 1) (u * 128) (x + d.toNat % 128 * u) r
/-- The number that the bytes begin with, and how many bytes it takes. -/
def getB (l : List UInt8) : Option (Nat × Nat) := getF 9 0 1 0 l
/-- GetNum's answer, as a value. -/
def getT (o : Option (Nat × Nat)) (at0 : Nat) : Value := match o with
  | none => .tuple #[.int .i64 0, .int .i64 0, .bool false]
  | some (x, k) => .tuple #[.int .i64 (x : Int), .int .i64 ((at0 + k : Nat) : Int), .bool true]
/-- Where GetNum stands. -/
def GetInv (l : List UInt8) (at0 k x : Nat) : Prop := getF (9 - k) k (128 ^ k) x (l.drop (at0 + k)) = getB (l.drop at0) ∧ k ≤ 9 ∧ x < 128 ^ k
theorem GetInv.start (l : List UInt8) (at0 : Nat) : GetInv l at0 0 0 := ⟨rfl, by omega, by simp⟩
theorem pow_step (k x d : Nat) (h : x < 128 ^ k) : x + d % 128 * 128 ^ k < 128 ^ (k + 1) := by
  have h1 : d % 128 * 128 ^ k ≤ 127 * 128 ^ k := Nat.mul_le_mul_right _ (by omega)
  rw [Nat.pow_succ]
  omega
theorem pow_le8 {k : Nat} (h : k ≤ 8) : 128 ^ k ≤ 72057594037927936 := Nat.le_trans (Nat.pow_le_pow_right (n := 128) (by omega) h) (by decide)
theorem pow_le9 {k : Nat} (h : k ≤ 8) : 128 ^ (k + 1) ≤ 9223372036854775808 := Nat.le_trans (Nat.pow_le_pow_right (n := 128) (by omega) (show k + 1 ≤ 9 by omega)) (by decide)
theorem GetInv.more {l : List UInt8} {at0 k x : Nat} (h : GetInv l at0 k x) (hk : k < 9) (hl : at0 + k < l.length) (hd : ¬ l[at0 + k].toNat < 128) : GetInv l at0 (k + 1) (x + l[at0 + k].toNat % 128 * 128 ^ k) := by
  obtain ⟨h1, h2, h3⟩ := h
  refine ⟨?_, by omega, pow_step k x _ h3⟩
  rw [← h1, show 9 - k = (9 - (k + 1)) + 1 by omega, List.drop_eq_getElem_cons hl]
  simp only [getF, hd, if_false]
  rw [← Nat.pow_succ, Nat.add_assoc]
theorem GetInv.stop {l : List UInt8} {at0 k x : Nat} (h : GetInv l at0 k x) (hk : k < 9) (hl : at0 + k < l.length) (hd : l[at0 + k].toNat < 128) :
    getB (l.drop at0) = if l[at0 + k].toNat = 0 ∧ 0 < k then none else some (x + l[at0 + k].toNat % 128 * 128 ^ k, k + 1) := by
  obtain ⟨h1, h2, h3⟩ := h
  rw [← h1, show 9 - k = (9 - (k + 1)) + 1 by omega, List.drop_eq_getElem_cons hl]
  simp only [getF, hd, if_true]
theorem GetInv.none {l : List UInt8} {at0 k x : Nat} (h : GetInv l at0 k x) (hk : 9 ≤ k ∨ l.length ≤ at0 + k) : getB (l.drop at0) = Option.none := by
  obtain ⟨h1, h2, h3⟩ := h
  rw [← h1]
  rcases hk with hk | hk
  · rw [show 9 - k = 0 by omega]; rfl
  · rw [List.drop_eq_nil_of_le hk]
    cases 9 - k <;> rfl
theorem getB_nil (l : List UInt8) (n : Nat) (h : l.length ≤ n) : getB (l.drop n) = Option.none := by rw [List.drop_eq_nil_of_le h]; rfl
theorem toNat_ofNat (n : Nat) (h : n < 256) : (UInt8.ofNat n).toNat = n := by simp; omega
/-- A number form is read as its number, whatever stands behind it. -/
theorem getF_num (n k u x y : Nat) (r : List UInt8) (hy : y < 128 ^ (n + 1)) (h0 : 0 < k → 0 < y) : getF (n + 1) k u x (numF (n + 1) y ++ r) = some (x + y * u, k + (numF (n + 1) y).length) := by
  induction n generalizing k u x y with
  | zero =>
    have hy' : y < 128 := by simpa using hy
    rw [numF_small hy']
    simp only [List.cons_append, List.nil_append, getF, toNat_ofNat y (by omega), hy', if_true, List.length_singleton]
    rw [if_neg (by omega), Nat.mod_eq_of_lt hy']
  | succ n ih =>
    by_cases hs : y < 128
    · rw [numF_small hs]
      simp only [List.cons_append, List.nil_append, getF, toNat_ofNat y (by omega), hs, if_true, List.length_singleton]
      rw [if_neg (by omega), Nat.mod_eq_of_lt hs]
    · rw [numF_big hs]
      have hd : ¬ y % 128 + 128 < 128 := by omega
      simp only [List.cons_append]
      rw [getF]
      simp only [toNat_ofNat (y % 128 + 128) (by omega), hd, if_false]
      rw [ih (k + 1) (u * 128) (x + (y % 128 + 128) % 128 * u) (y / 128) (by rw [Nat.pow_succ] at hy; omega) (by omega)]
      have e1 : (y % 128 + 128) % 128 = y % 128 := by omega
      have e2 : y % 128 * u + y / 128 * (u * 128) = y * u := by
        have : y / 128 * (u * 128) = (128 * (y / 128)) * u := by rw [Nat.mul_comm u 128, ← Nat.mul_assoc, Nat.mul_comm (y / 128) 128]
        rw [this, ← Nat.add_mul, Nat.mod_add_div]
      rw [e1, Nat.add_assoc, e2, List.length_cons]
      congr 2
      omega
theorem getB_num (y : Nat) (r : List UInt8) (hy : y ≤ 9223372036854775807) : getB (numB y ++ r) = some (y, (numB y).length) := by
  have h := getF_num 8 0 1 0 y r (by have : 128 ^ (8 + 1) = 9223372036854775808 := by decide
                                     omega) (by omega)
  simpa [getB, numB] using h
end Go.Proofs.YthndkkjgjhgdnaaGreatDoor
namespace Go.Proofs.YthndkkjgjhgdnaaGreatDoor
open Go.ChangeShapes Go.WideShapes Go.ChangeAt Go.RowKit
set_option linter.unusedVariables false

set_option maxHeartbeats 1000000 in
theorem specGet_out (v : Value) (bs : List UInt8) (x : Int) (w : World) (hv : Bs w v bs) (hx : x < 0 ∨ (bs.length : Int) ≤ x) :
    Calls Tryz.prog 65 #[v, .int .i64 x] w fun e w' => e = .returned (.tuple #[.int .i64 0, .int .i64 0, .bool false]) ∧ w = w' := by
  obtain ⟨h0, a, cap, rfl, -, hv⟩ := hv
  clear hv
  by_cases h : x < 0
  · clear hx
    go_enter Tryz.func65, Tryz.ntmps65
    go_wp2
    go_ret3
    exact ⟨rfl, rfl⟩
  · have h2 : (bs.length : Int) ≤ x := by omega
    clear hx
    go_enter Tryz.func65, Tryz.ntmps65
    go_wp2
    go_ret3
    exact ⟨rfl, rfl⟩
set_option maxHeartbeats 2000000 in
set_option maxRecDepth 100000 in
theorem specGet_in (v : Value) (bs : List UInt8) (at0 : Nat) (w : World) (hv : Bs w v bs) (hx : at0 < bs.length) (hl : bs.length ≤ 9223372036854775000) :
    Calls Tryz.prog 65 #[v, .int .i64 (at0 : Int)] w fun e w' => e = .returned (getT (getB (bs.drop at0)) at0) ∧ w = w' := by
  obtain ⟨h0, a, cap, rfl, -, hv⟩ := hv
  obtain ⟨b, off, rfl, hc⟩ := or_of_lt hv hx
  have HC := dHide hc
  clear hc hv
  have a1 : ¬ ((at0 : Int) < 0) := by omega
  have a2 : ¬ ((bs.length : Int) ≤ (at0 : Int)) := by omega
  go_enter Tryz.func65, Tryz.ntmps65
  go_wp2
  go_loop [7, 8, 9] (fun x u j => ∃ k X : Nat, ∃ U : Int, j = .int .i64 (k : Int) ∧ x = .int .i64 (X : Int) ∧ u = .int .i64 U ∧ (k ≤ 8 → U = ((128 ^ k : Nat) : Int)) ∧ k ≤ 9 ∧ Hid (GetInv bs at0 k X)) (fun _ _ j => 9 - (intOf j).toNat)
  case atStart => exact ⟨0, 0, 1, rfl, rfl, rfl, fun _ => rfl, by omega, GetInv.start _ _⟩
  case round =>
    obtain ⟨k, X, U, rfl, rfl, rfl, hU, hk9, hinv⟩ := hrel
    by_cases hk : (k : Int) < 9
    · by_cases hlt : (at0 : Int) + (k : Int) < (bs.length : Int)
      · have hlt' : at0 + k < bs.length := by omega
        have c1 := dUnhide HC (at0 + k) hlt'
        have hstop := dHide (GetInv.stop hinv (by omega) hlt')
        have hmore := dHide (GetInv.more hinv (by omega) hlt')
        have hbd := pow_step k X bs[at0 + k].toNat (dUnhide hinv).2.2
        have hp8 := pow_le8 (show k ≤ 8 by omega)
        have hp9 := pow_le9 (show k ≤ 8 by omega)
        have hU' := hU (by omega)
        have hd256 : bs[at0 + k].toNat < 256 := bs[at0 + k].toNat_lt
        rw [Nat.pow_succ] at hp9 hbd
        have hnext : Hid (k + 1 ≤ 8 → wrap64 (((128 ^ k : Nat) : Int) * 128) = ((128 ^ (k + 1) : Nat) : Int)) := fun h => by
          have h9 := pow_le8 h
          rw [Nat.pow_succ] at h9 ⊢
          rw [show (((128 ^ k : Nat) : Int) * 128) = ((128 ^ k * 128 : Nat) : Int) by push_cast; rfl]
          exact IntWalk.wrap64_in _ (by omega)
        clear hinv hU HC
        generalize bs[at0 + k].toNat = d at *
        generalize 128 ^ k = P at *
        subst hU'
        have hPd : d % 128 * P ≤ 9223372036854775807 := by omega
        have hmul : wrap64 ((d : Int) % 128 * (P : Int)) = ((d % 128 * P : Nat) : Int) := by
          rw [show ((d : Int) % 128 * (P : Int)) = ((d % 128 * P : Nat) : Int) by push_cast; rfl]
          exact IntWalk.wrap64_in _ (by omega)
        generalize d % 128 * P = M at *
        by_cases hd : (d : Int) < 128
        · have hs := dUnhide hstop (by omega)
          by_cases hz : ((d : Int) == 0) = true
          · by_cases hk0 : (0 : Int) < (k : Int)
            · have HS := dHide (show getB (bs.drop at0) = none by rw [hs, if_pos ⟨by simpa using hz, by omega⟩])
              clear hs hstop hmore
              go_wp2
              go_ret3
              exact ⟨by rw [dUnhide HS]; rfl, rfl⟩
            · have HS := dHide (show getB (bs.drop at0) = some (X + M, k + 1) by rw [hs, if_neg (by omega)])
              clear hs hstop hmore
              go_wp2
              go_ret3
              exact ⟨by rw [dUnhide HS]; simp only [getT]; go_num, rfl⟩
          · have hz' : ((d : Int) == 0) = false := by simpa using hz
            have HS := dHide (show getB (bs.drop at0) = some (X + M, k + 1) by rw [hs, if_neg (by intro h; apply hz; rw [beq_iff_eq]; omega)])
            clear hs hstop hmore hz
            go_wp2
            go_ret3
            exact ⟨by rw [dUnhide HS]; simp only [getT]; go_num, rfl⟩
        · have hm := dHide (dUnhide hmore (by omega))
          clear hstop hmore
          go_wp2
          go_round
          case rel => exact ⟨k + 1, X + M, _, by go_num, by go_num, rfl, dUnhide hnext, by omega, hm⟩
          case measure => simp [intOf]; omega
      · have HS := dHide (GetInv.none hinv (.inr (by omega)))
        go_wp2
        go_ret3
        exact ⟨by rw [dUnhide HS]; rfl, rfl⟩
    · have HS := dHide (GetInv.none hinv (.inl (by omega)))
      go_wp2
      go_ret3
      exact ⟨by rw [dUnhide HS]; rfl, rfl⟩
end Go.Proofs.YthndkkjgjhgdnaaGreatDoor
namespace Go.Proofs.YthndkkjgjhgdnaaGreatDoor
open Go.ChangeShapes Go.WideShapes Go.ChangeAt Go.RowKit
set_option linter.unusedVariables false

/-- The bytes of a text: the number form of its length, and itself. -/
def textB (l : List UInt8) : List UInt8 := numB l.length ++ l
theorem conv_bytes (s : ByteArray) (w : World) : (convert 9 22 (.string s)).run Tryz.prog w = .ok (.slice (some ⟨w.heap.size, 0, none⟩) s.size (grownCap w s.size 0 5)) (Lib.bytesWorld w 5 s) :=
  Lib.run_convert_string_bytes w 9 22 5 s Tryz.underlying9 Tryz.underlying22 Tryz.underlying5
theorem bytes_grown (w : World) (T : TypeId) (s : ByteArray) : w.grownBy (Lib.bytesWorld w T s) none :=
  ⟨rfl, rfl, rfl, by rw [Lib.bytesWorld_size]; omega, fun k hk _ => Lib.bytesWorld_at_old w T s k hk⟩
theorem bytes_cells (w : World) (T : TypeId) (s : ByteArray) : ∀ j u, (bcells s.data.toList)[j]? = some u → (Lib.bytesWorld w T s).cell? ((⟨w.heap.size, 0, none⟩ : Addr).add j) = some u := by
  intro j u hu
  have hj : j < s.data.toList.length := by
    rcases Nat.lt_or_ge j s.data.toList.length with h | h
    · exact h
    · rw [List.getElem?_eq_none (by rw [bcells_len]; exact h)] at hu
      cases hu
  have hj' : j < s.size := by rw [Lib.size_eq]; exact hj
  have e : (⟨w.heap.size, 0, none⟩ : Addr).add j = ⟨w.heap.size, j, none⟩ := by unfold Addr.add; split <;> simp_all
  rw [e, Lib.bytesWorld_cell w T s j hj']
  rw [← hu]
  simp only [bcells, List.getElem?_map, List.getElem?_eq_getElem hj, Option.map_some, List.getD, Option.getD_some]
theorem many_cell (l : List UInt8) : ∀ u ∈ bcells l, u.oneCell' = true := by
  intro u hu
  simp only [bcells, List.mem_map] at hu
  obtain ⟨c, -, rfl⟩ := hu
  rfl
set_option maxHeartbeats 1000000 in
theorem specPutText_any (s : ByteArray) (h : s.size ≤ 1099511627776) (w : World) :
    Calls Tryz.prog 38 #[.string s] w fun e w' => (∃ v, e = .returned v ∧ w'.ownsRow w.heap.size 5 1 v (textB s.data.toList).length (bcells (textB s.data.toList))) ∧ Below w.heap.size w w' := by
  obtain ⟨i0, hi, hz0, hz1, hz2⟩ := info_parts info8'
  have hcv := conv_bytes s
  have hsz : s.data.toList.length = s.size := by rw [← Lib.size_eq]
  have HS := dHide hsz
  clear hsz
  go_enter Tryz.func38, Tryz.ntmps38
  go_wp2_with fail
  refine (specPut_yes s.size (by omega) w).mono ?_
  rintro e w1 ⟨⟨v, rfl, hown⟩, hb⟩
  have hlt := hown.lt
  have hown1 := hown.kept (bytes_grown w1 5 s) (by cases hv : v.ownBlock <;> simp)
  have hn9 := numB_len s.size
  go_wp2_with (at_builtin; refine wpList_append_own _ rfl _ _ 22 rfl w.heap.size 5 i0 (.int .u8 0) 1 1 Tryz.underlying22 hi hz0 hz1 hz2 rfl (by decide) _ _ _ rfl hown1 ⟨w1.heap.size, 0, none⟩ s.size _ (bcells s.data.toList) rfl ?c1 (bytes_cells _ _ _) (many_cell _) ?c3 ?c4 ?c5 ?_)
  case c1 => rw [bcells_len, dUnhide HS]; omega
  case c3 => unfold maxLen; omega
  case c4 => omega
  case c5 => have := hb.size; rw [Lib.bytesWorld_size]; omega
  intro v' w2 hown' hgrow _
  have hb1 : Below w.heap.size w (Lib.bytesWorld w1 5 s) := hb.grown (bytes_grown w1 _ s) hb.size (fun k hk => by cases hk)
  have hb2 : Below w.heap.size w w2 := hb1.grown hgrow hb1.size (fun k hk => (hlt k hk).1)
  have hown2 : w2.ownsRow w.heap.size 5 1 v' (textB s.data.toList).length (bcells (textB s.data.toList)) := by
    have e1 : bcells (textB s.data.toList) = bcells (numB s.size) ++ bcells s.data.toList := by rw [textB, dUnhide HS]; simp [bcells]
    have e2 : (textB s.data.toList).length = (numB s.size).length + s.size := by rw [textB, List.length_append, dUnhide HS]
    rw [e1, e2]; exact hown'
  clear hown hown1 hown' hgrow hb hb1 hlt HS hcv
  go_wp2
  go_ret
  exact ⟨⟨_, rfl, hown2⟩, hb2⟩
end Go.Proofs.YthndkkjgjhgdnaaGreatDoor
namespace Go.Proofs.YthndkkjgjhgdnaaGreatDoor
open Go.ChangeShapes Go.WideShapes Go.ChangeAt Go.RowKit
set_option linter.unusedVariables false

/-- The text that stands at a place, and the place behind it. -/
def gtextB (l : List UInt8) (at0 : Nat) : Option (List UInt8 × Nat) := match getB (l.drop at0) with
  | none => none
  | some (n, k) => if n + (at0 + k) ≤ l.length then some ((l.drop (at0 + k)).take n, at0 + k + n) else none
/-- GetText's answer, as a value. -/
def gtextT (o : Option (List UInt8 × Nat)) : Value := match o with
  | none => .tuple #[.string ⟨#[]⟩, .int .i64 0, .bool false]
  | some (t, p) => .tuple #[.string ⟨t.toArray⟩, .int .i64 (p : Int), .bool true]
theorem getF_bd (n k u x : Nat) (l : List UInt8) {y m : Nat} (h : getF n k u x l = some (y, m)) (hu : u = 128 ^ k) (hk : k + n ≤ 9) (hx : x < 128 ^ k) : y ≤ 9223372036854775807 ∧ m ≤ k + l.length ∧ m ≤ 9 := by
  induction n generalizing k u x l with
  | zero => simp [getF] at h
  | succ n ih =>
    cases l with
    | nil => simp [getF] at h
    | cons d r =>
      subst hu
      have hs := pow_step k x d.toNat hx
      have h9 := pow_le9 (show k ≤ 8 by omega)
      simp only [getF] at h
      by_cases h1 : d.toNat < 128
      · rw [if_pos h1] at h
        by_cases h2 : d.toNat = 0 ∧ 0 < k
        · rw [if_pos h2] at h; cases h
        · rw [if_neg h2] at h
          simp only [Option.some.injEq, Prod.mk.injEq] at h
          obtain ⟨rfl, rfl⟩ := h
          refine ⟨by omega, by simp, by omega⟩
      · rw [if_neg h1] at h
        have := ih (k + 1) (128 ^ k * 128) _ r h (by rw [Nat.pow_succ]) (by omega) hs
        simp; omega
theorem getB_bd {l : List UInt8} {y m : Nat} (h : getB l = some (y, m)) : y ≤ 9223372036854775807 ∧ m ≤ l.length ∧ m ≤ 9 := by
  have := getF_bd 9 0 1 0 l h rfl (by omega) (by simp)
  simpa using this
theorem take_cells {w : World} {b off p n : Nat} {bs : List UInt8} (hc : ∀ i (h : i < bs.length), w.cell? ⟨b, off + i, none⟩ = some (.int .u8 (bs[i].toNat : Int))) (h : p + n ≤ bs.length) :
    ∀ j (hj : j < ((bs.drop p).take n).length), w.cell? ((⟨b, off + p, none⟩ : Addr).add j) = some (.int .u8 (((bs.drop p).take n)[j].toNat : Int)) := by
  intro j hj
  have hl : ((bs.drop p).take n).length = n := by simp; omega
  have e : (⟨b, off + p, none⟩ : Addr).add j = ⟨b, off + (p + j), none⟩ := by unfold Addr.add; split <;> simp_all <;> omega
  rw [e, hc (p + j) (by omega)]
  simp
theorem conv_cut {w : World} {b off p n cap : Nat} {bs : List UInt8} (hc : ∀ i (h : i < bs.length), w.cell? ⟨b, off + i, none⟩ = some (.int .u8 (bs[i].toNat : Int))) (h : p + n ≤ bs.length) :
    (convert 22 9 (.slice (some ⟨b, off + p, none⟩) n cap)).run Tryz.prog w = .ok (.string ⟨((bs.drop p).take n).toArray⟩) w := by
  have hl : ((bs.drop p).take n).length = n := by simp; omega
  have := run_convert_bytes_back (P := Tryz.prog) w 22 9 5 ⟨b, off + p, none⟩ cap ((bs.drop p).take n) Tryz.underlying22 Tryz.underlying5 Tryz.underlying9 (take_cells hc h)
  rwa [hl] at this
theorem conv_none {w : World} (b off : Nat) (cap : Nat) : (convert 22 9 (.slice (some ⟨b, off, none⟩) 0 cap)).run Tryz.prog w = .ok (.string ⟨#[]⟩) w := by
  have := run_convert_bytes_back (P := Tryz.prog) w 22 9 5 ⟨b, off, none⟩ cap [] Tryz.underlying22 Tryz.underlying5 Tryz.underlying9 (fun j hj => by simp at hj)
  exact this
set_option maxHeartbeats 1000000 in
theorem specGetText_out (v : Value) (bs : List UInt8) (x : Int) (w : World) (hv : Bs w v bs) (hx : x < 0 ∨ (bs.length : Int) ≤ x) :
    Calls Tryz.prog 79 #[v, .int .i64 x] w fun e w' => e = .returned (gtextT none) ∧ w = w' := by
  have C := dHide (specGet_out v bs x w hv hx)
  obtain ⟨h0, a, cap, rfl, hcap, hv⟩ := hv
  clear hv
  go_enter Tryz.func79, Tryz.ntmps79
  go_wp2_with fail
  refine (dUnhide C).mono ?_
  rintro e w1 ⟨rfl, rfl⟩
  go_wp2
  go_ret3
  exact ⟨rfl, rfl⟩
set_option maxHeartbeats 1000000 in
theorem specGetText_in (v : Value) (bs : List UInt8) (at0 : Nat) (w : World) (hv : Bs w v bs) (hx : at0 < bs.length) (hl : bs.length ≤ 9223372036854775000) :
    Calls Tryz.prog 79 #[v, .int .i64 (at0 : Int)] w fun e w' => e = .returned (gtextT (gtextB bs at0)) ∧ w = w' := by
  have C := dHide (specGet_in v bs at0 w hv hx hl)
  obtain ⟨h0, a, cap, rfl, hcap, hv⟩ := hv
  obtain ⟨b, off, rfl, hc⟩ := or_of_lt hv hx
  clear hv
  cases hg : getB (bs.drop at0) with
  | none =>
    have hfin : gtextB bs at0 = none := by simp only [gtextB, hg]
    have HF := dHide hfin
    rw [hg] at C
    clear hc hfin hg
    go_enter Tryz.func79, Tryz.ntmps79
    go_wp2_with fail
    refine (dUnhide C).mono ?_
    rintro e w1 ⟨rfl, rfl⟩
    simp only [getT]
    go_wp2
    go_ret3
    exact ⟨by rw [dUnhide HF]; rfl, rfl⟩
  | some r =>
    obtain ⟨n, k⟩ := r
    obtain ⟨b1, b2, b3⟩ := getB_bd hg
    rw [List.length_drop] at b2
    rw [hg] at C
    have hple : at0 + k ≤ bs.length := by omega
    by_cases hn : n + (at0 + k) ≤ bs.length
    · have hfin : gtextB bs at0 = some ((bs.drop (at0 + k)).take n, at0 + k + n) := by simp only [gtextB, hg]; rw [if_pos hn]
      have HF := dHide hfin
      have hcv := fun cap' => conv_cut (cap := cap') hc (show (at0 + k) + n ≤ bs.length by omega)
      have hcv0 := conv_none (w := w) b off
      generalize hp : at0 + k = p at *
      have HP := dHide hp
      clear hc hfin hg hp
      have t1 : ¬ ((bs.length : Int) - (p : Int) < (n : Int)) := by omega
      go_enter Tryz.func79, Tryz.ntmps79
      go_wp2_with fail
      refine (dUnhide C).mono ?_
      rintro e w1 ⟨rfl, rfl⟩
      simp only [getT]
      rw [dUnhide HP]
      by_cases hcp : cap = p
      · obtain rfl : n = 0 := by omega
        go_wp2
        all_goals
          go_ret3
          exact ⟨by rw [dUnhide HF]; simp only [gtextT, List.take_zero]; go_num, rfl⟩
      · go_wp2
        go_ret3
        exact ⟨by rw [dUnhide HF]; simp only [gtextT]; go_num, rfl⟩
    · have hfin : gtextB bs at0 = none := by simp only [gtextB, hg]; rw [if_neg hn]
      have HF := dHide hfin
      generalize hp : at0 + k = p at *
      have HP := dHide hp
      clear hc hfin hg hp
      have t1 : ((bs.length : Int) - (p : Int) < (n : Int)) := by omega
      go_enter Tryz.func79, Tryz.ntmps79
      go_wp2_with fail
      refine (dUnhide C).mono ?_
      rintro e w1 ⟨rfl, rfl⟩
      simp only [getT]
      rw [dUnhide HP]
      go_wp2
      go_ret3
      exact ⟨by rw [dUnhide HF]; rfl, rfl⟩
end Go.Proofs.YthndkkjgjhgdnaaGreatDoor
namespace Go.Proofs.YthndkkjgjhgdnaaGreatDoor
open Go.ChangeShapes Go.WideShapes Go.ChangeAt Go.RowKit
set_option linter.unnecessarySimpa false
set_option linter.unusedVariables false
set_option linter.unusedSimpArgs false
set_option maxRecDepth 100000

theorem elemN : Elem (α := Int) 3 24 (.int .i64 0) 1 8 (fun x => [.int .i64 x]) where
  under := Tryz.underlying24
  info := by kernel_rfl
  zcells := by kernel_rfl
  pos := by decide
  len := fun _ => rfl
  one := fun a u hu => by simp at hu; subst hu; rfl
theorem Ns.rw1 {w : World} {v : Value} {xs : List Int} (h : Ns w v xs) : Rw 1 (fun x => [.int .i64 x]) w v xs := by
  obtain ⟨h0, a, cap, rfl, hcap, h⟩ := h
  refine ⟨h0, a, cap, rfl, hcap, ?_⟩
  rcases h with h | ⟨b, off, rfl, hc⟩
  · exact .inl h
  · refine .inr ⟨b, off, rfl, fun i hi j u hu => ?_⟩
    cases j with
    | zero => simp at hu; subst hu; simpa using hc i hi
    | succ j => simp at hu
theorem OwnRw.n1 {w : World} {base : Nat} {v : Value} {xs : List Int} (h : OwnRw 1 (fun x => [.int .i64 x]) w base v xs) : OwnN w base v xs := by
  obtain ⟨h0, a, cap, rfl, hcap, h⟩ := h
  refine ⟨h0, a, cap, rfl, hcap, ?_⟩
  rcases h with h | ⟨b, off, rfl, hb, hc⟩
  · exact .inl h
  · exact .inr ⟨b, off, rfl, hb, fun i hi => by simpa using hc i hi 0 _ rfl⟩
/-- A copy of ints by append. -/
theorem run_cpN {w : World} (ty : TypeId) (a0 : Option Addr) (sv : Value) (xs : List Int) (hsrc : Ns w sv xs) (hb : xs.length ≤ 1099511627776) :
    ∃ v' w', (Builtin.append_ #[24, 24] ty #[.slice a0 0 0, sv]).run Tryz.prog w = .ok v' w' ∧ OwnN w' w.heap.size v' xs ∧ Below w.heap.size w w' := by
  obtain ⟨v', w', h1, h2, h3⟩ := run_cpR elemN ty a0 sv hsrc.rw1 (by omega)
  exact ⟨v', w', h1, (ApR.own elemN h2).n1, h3⟩
theorem wp_cpN {w : World} {ops : Array Oper} {rest : List Oper} {o : Oper} {a : Act} {Q : Exit → Act → World → Prop} (hgd : o.guard = none) (s x : Operand) (ho : o.op = .call { callee := .builtin .append, args := #[s, x], argTypes := #[24, 24] })
    (a0 : Option Addr) (hs : a.eval s = .slice a0 0 0) (sv : Value) (xs : List Int) (hx : a.eval x = sv) (hsrc : Ns w sv xs) (hb : xs.length ≤ 1099511627776)
    (h : ∀ v' w', OwnN w' w.heap.size v' xs → Below w.heap.size w w' → wpList Tryz.prog ops Q rest (a.put o.dst v') w') : wpList Tryz.prog ops Q (o :: rest) a w := by
  refine wpList_plain hgd fun K' hK' => ?_
  obtain ⟨v', w', hrun, h1, h2⟩ := run_cpN o.type a0 sv xs hsrc hb
  unfold Oper.wp
  simp [execOp, ho, resolve, invoke, builtin, hs, hx, hrun, Result.andThen]
  exact hK' _ _ (h v' w' h1 h2)
theorem step_cpN {w : World} {ops : Array Oper} {o : Oper} {a : Act} {Q : Exit → Act → World → Prop} {K : Act → World → Prop} {F : Prop} (hg : o.guard = none) (s x : Operand) (hop : o.op = .call { callee := .builtin .append, args := #[s, x], argTypes := #[24, 24] })
    (a0 : Option Addr) (hs : a.eval s = .slice a0 0 0) (sv : Value) (xs : List Int) (hx : a.eval x = sv) (hsrc : Ns w sv xs) (hb : xs.length ≤ 1099511627776)
    (h : ∀ v' w', OwnN w' w.heap.size v' xs → Below w.heap.size w w' → K (a.put o.dst v') w') :
    if Region.wanted o (yielded ops a.tmps) = true then Oper.wp Tryz.prog o a w K Q else F :=
  step_cpR elemN hg s x hop a0 hs sv xs hx hsrc.rw1 (by omega) fun v' w' h1 h2 => h v' w' (ApR.own elemN h1).n1 h2
theorem OwnN.grown {w w' : World} {base : Nat} {v : Value} {xs : List Int} {row : Option Nat} (h : OwnN w base v xs) (g : w.grownBy w' row) (hn : xs = [] ∨ row ≠ some (blockOf v)) : OwnN w' base v xs := by
  have hlt := h.bs.lt
  obtain ⟨h0, a, cap, rfl, hcap, h⟩ := h
  refine ⟨h0, a, cap, rfl, hcap, ?_⟩
  rcases hn with hn | hn
  · exact .inl hn
  · rcases h with h | ⟨b, off, rfl, hb, hc⟩
    · exact .inl h
    · rcases hlt with hlt | hlt
      · exact .inl hlt
      · have e := g.block b hlt (fun e => hn e.symm)
        exact .inr ⟨b, off, rfl, hb, fun i hi => ⟨(World.cell?_of_block (a := ⟨b, off + i, none⟩) e).trans (hc i hi).1, (World.frozen?_of_block (a := ⟨b, off + i, none⟩) e).trans (hc i hi).2⟩⟩
end Go.Proofs.YthndkkjgjhgdnaaGreatDoor
namespace Go.Proofs.YthndkkjgjhgdnaaGreatDoor
open Go.ChangeShapes Go.WideShapes Go.ChangeAt Go.RowKit
set_option linter.unusedVariables false
set_option maxRecDepth 100000

/-- The last digit. -/
def dig1 (k : Nat) : ByteArray := ⟨#[UInt8.ofNat (48 + k % 10)]⟩
/-- All digits ahead of out. -/
def digs (k : Nat) (out : ByteArray) : ByteArray := if h : k = 0 then out else digs (k / 10) (dig1 k ++ out)
termination_by k
decreasing_by omega
def markT (k : Nat) : ByteArray := (⟨#[109]⟩ : ByteArray) ++ digs k ⟨#[]⟩
theorem digs_zero (out : ByteArray) : digs 0 out = out := by rw [digs]; simp
theorem digs_step (k : Nat) (out : ByteArray) (h : k ≠ 0) : digs k out = digs (k / 10) (dig1 k ++ out) := by rw [digs]; simp [h]
theorem dig_size (k : Nat) (s : ByteArray) : (dig1 k ++ s).size = s.size + 1 := by
  rw [ByteArray.size_append]
  show 1 + s.size = _
  omega
theorem conv_one (w : World) (d : Nat) (h : d < 256) : (convert 22 9 (.slice (some ⟨w.heap.size, 0, none⟩) 1 1)).run Tryz.prog (w.alloc (.cells #[.int .u8 (d : Int)] 5)) = .ok (.string ⟨#[UInt8.ofNat d]⟩) (w.alloc (.cells #[.int .u8 (d : Int)] 5)) := by
  have := run_convert_bytes_back (P := Tryz.prog) (w.alloc (.cells #[.int .u8 (d : Int)] 5)) 22 9 5 ⟨w.heap.size, 0, none⟩ 1 [UInt8.ofNat d] Tryz.underlying22 Tryz.underlying5 Tryz.underlying9 (fun j hj => by
    obtain rfl : j = 0 := by simp at hj; omega
    have e : ((UInt8.ofNat d).toNat : Int) = (d : Int) := by simp; omega
    simp [Addr.add]
    omega)
  simpa using this
end Go.Proofs.YthndkkjgjhgdnaaGreatDoor
namespace Go.Proofs.YthndkkjgjhgdnaaGreatDoor
open Go.ChangeShapes Go.WideShapes Go.ChangeAt Go.RowKit
set_option linter.unusedVariables false
set_option linter.unusedSimpArgs false

/-- The text of any number. -/
def markU (k : Nat) : ByteArray := if k = 0 then ⟨#[109, 48]⟩ else markT k
/-- A word. -/
structure Wd where
  data : ByteArray
  acks : List Int
  done : Bool
/-- A writer. -/
structure Wt where
  epoch : Int
  words : List Wd
/-- The cells of a word. -/
def wdCl (p : Nst Wd) : List Value := [.string p.m.data, Sv Wd.acks p, .bool p.m.done]
/-- A word as a value. -/
def wdVal (p : Nst Wd) : Value := .agg #[.string p.m.data, Sv Wd.acks p, .bool p.m.done]
theorem wdCl_len (p : Nst Wd) : (wdCl p).length = 3 := rfl
theorem elemW : Elem (α := Nst Wd) 82 38 (.agg #[.string ⟨#[]⟩, .slice none 0 0, .bool false]) 3 48 wdCl where
  under := Tryz.underlying38
  info := by kernel_rfl
  zcells := by kernel_rfl
  pos := by decide
  len := wdCl_len
  one := fun a u hu => by
    simp only [wdCl, List.mem_cons, List.not_mem_nil, or_false] at hu
    rcases hu with rfl | rfl | rfl <;> rfl
/-- The three cells of a word in a row. -/
def WdAt (w : World) (b o : Nat) (p : Nst Wd) : Prop := w.cell? ⟨b, o, none⟩ = some (.string p.m.data) ∧ w.cell? ⟨b, o + 1, none⟩ = some (.slice p.a p.m.acks.length p.c) ∧ w.cell? ⟨b, o + 2, none⟩ = some (.bool p.m.done)
theorem WdAt.below {w w' : World} {b o : Nat} {p : Nst Wd} (h : WdAt w b o p) (hb : Below w.heap.size w w') : WdAt w' b o p :=
  ⟨(hb.cell (p := ⟨b, o, none⟩) (dCell_lt h.1)).trans h.1, (hb.cell (p := ⟨b, o + 1, none⟩) (dCell_lt h.2.1)).trans h.2.1, (hb.cell (p := ⟨b, o + 2, none⟩) (dCell_lt h.2.2)).trans h.2.2⟩
theorem Rw.word {w : World} {a : Option Addr} {n cap : Nat} {rs : List (Nst Wd)} (h : Rw 3 wdCl w (.slice a n cap) rs) {k : Nat} (hk : k < rs.length) : ∃ b off, a = some ⟨b, off, none⟩ ∧ ∀ i (hi : i < rs.length), WdAt w b (off + i * 3) rs[i] := by
  obtain ⟨b, off, e, hc⟩ := h.el hk
  exact ⟨b, off, e, fun i hi => ⟨hc i hi 0 _ rfl, hc i hi 1 _ rfl, hc i hi 2 _ rfl⟩⟩
/-- A new block of one word. -/
theorem rwW_one (w : World) (p : Nst Wd) (T : TypeId) (c : Nat) (hc : 1 ≤ c ∧ c ≤ 9223372036854775807) : Rw 3 wdCl (w.alloc (.cells #[.string p.m.data, .slice p.a p.m.acks.length p.c, .bool p.m.done] T)) (.slice (some ⟨w.heap.size, 0, none⟩) 1 c) [p] := by
  refine ⟨by simp, _, _, rfl, by simpa using hc, .inr ⟨w.heap.size, 0, rfl, fun i hi j u hu => ?_⟩⟩
  obtain rfl : i = 0 := by simp at hi; omega
  simp only [List.getElem_cons_zero, wdCl, Sv] at hu
  simpa using hu
/-- How many nodes words have. -/
def sumW (ms : List Wd) : Nat := (ms.map fun e => e.acks.length).sum
theorem sumW_take (ms : List Wd) (k : Nat) (h : k < ms.length) : sumW (ms.take (k + 1)) = sumW (ms.take k) + ms[k].acks.length := by
  unfold sumW
  rw [List.take_succ_eq_append_getElem h, List.map_append, List.sum_append, List.map_cons, List.map_nil, List.sum_cons, List.sum_nil, Nat.add_zero]
theorem sumW_le (ms : List Wd) (k : Nat) : sumW (ms.take k) ≤ sumW ms := by
  unfold sumW
  conv => rhs; rw [← List.take_append_drop k ms, List.map_append, List.sum_append]
  exact Nat.le_add_right _ _
theorem sumW_mem {ms : List Wd} {k : Nat} (h : k < ms.length) : ms[k].acks.length ≤ sumW ms := by
  have h1 := sumW_take ms k h
  have h2 := sumW_le ms (k + 1)
  omega
/-- How many bytes words have. -/
def sumX (ms : List Wd) : Nat := (ms.map fun e => e.data.size).sum
theorem sumX_take (ms : List Wd) (k : Nat) (h : k < ms.length) : sumX (ms.take (k + 1)) = sumX (ms.take k) + ms[k].data.size := by
  unfold sumX
  rw [List.take_succ_eq_append_getElem h, List.map_append, List.sum_append, List.map_cons, List.map_nil, List.sum_cons, List.sum_nil, Nat.add_zero]
theorem sumX_le (ms : List Wd) (k : Nat) : sumX (ms.take k) ≤ sumX ms := by
  unfold sumX
  conv => rhs; rw [← List.take_append_drop k ms, List.map_append, List.sum_append]
  exact Nat.le_add_right _ _
theorem sumX_mem {ms : List Wd} {k : Nat} (h : k < ms.length) : ms[k].data.size ≤ sumX ms := by
  have h1 := sumX_take ms k h
  have h2 := sumX_le ms (k + 1)
  omega
def RdWordS (v : Value) (ms : List Wd) (W : World) : Prop := RdK 3 Wd.acks wdCl v ms W
def OwWordS (lo hi : Nat) (v : Value) (ms : List Wd) (W : World) : Prop := OwK 3 Wd.acks wdCl lo hi v ms W
def RdWriter (v : Value) (m : Wt) (W : World) : Prop := ∃ sv, v = .agg #[.int .i64 m.epoch, sv] ∧ RdWordS sv m.words W
def OwWriter (lo hi : Nat) (v : Value) (m : Wt) (W : World) : Prop := ∃ sv, v = .agg #[.int .i64 m.epoch, sv] ∧ OwWordS lo hi sv m.words W
def sizWordS (m : List Wd) : Nat := m.length + sumX m + sumW m
def sizWriter (m : Wt) : Nat := sizWordS m.words
/-- How many marks a word takes. -/
def cntWordS (m : List Wd) : Nat := sumW m + 2 * m.length
def cntWriter (m : Wt) : Nat := cntWordS m.words
/-- A marked word. -/
def mkWd (k : Nat) (e : Wd) : Wd := ⟨markU k, marksN (k + 1) e.acks.length, ((k + 1 + e.acks.length) % 3 == 0)⟩
def mkWordS : Nat → List Wd → List Wd
  | _, [] => []
  | k, e :: l => mkWd k e :: mkWordS (k + e.acks.length + 2) l
def mkWriter (k : Nat) (m : Wt) : Wt := ⟨m.epoch, mkWordS k m.words⟩
theorem mkWordS_len : ∀ (k : Nat) (m : List Wd), (mkWordS k m).length = m.length
  | _, [] => rfl
  | k, e :: l => by rw [mkWordS, List.length_cons, List.length_cons, mkWordS_len]
theorem cntWordS_cons (e : Wd) (l : List Wd) : cntWordS (e :: l) = e.acks.length + 2 + cntWordS l := by
  simp only [cntWordS, sumW, List.map_cons, List.sum_cons, List.length_cons]
  omega
theorem mkWordS_at : ∀ (k : Nat) (m : List Wd) (i : Nat) (h : i < m.length) (h' : i < (mkWordS k m).length), (mkWordS k m)[i] = mkWd (k + cntWordS (m.take i)) m[i]
  | _, [], i, h, _ => by simp at h
  | k, e :: l, 0, h, _ => by simp [mkWordS, cntWordS, sumW]
  | k, e :: l, i + 1, h, h' => by
    have ih := mkWordS_at (k + e.acks.length + 2) l i (by simpa using h) (by rw [mkWordS_len]; simpa using h)
    simp only [mkWordS, List.getElem_cons_succ, List.take_succ_cons, cntWordS_cons]
    rw [ih]
    congr 1
    omega
theorem cntWordS_take (m : List Wd) (k : Nat) (h : k < m.length) : cntWordS (m.take (k + 1)) = cntWordS (m.take k) + m[k].acks.length + 2 := by
  have h1 := sumW_take m k h
  unfold cntWordS
  rw [h1, List.length_take, List.length_take]
  omega
theorem cntWordS_le' (m : List Wd) (k : Nat) : cntWordS (m.take k) ≤ cntWordS m := by
  have h1 := sumW_le m k
  unfold cntWordS
  rw [List.length_take]
  omega
theorem OwWriter.rd {lo hi : Nat} {v : Value} {m : Wt} {W : World} (h : OwWriter lo hi v m W) : RdWriter v m W := by
  obtain ⟨sv, h1, h2⟩ := h
  exact ⟨sv, h1, OwK.rd h2⟩
theorem RdWriter.below {v : Value} {m : Wt} {W W' : World} (h : RdWriter v m W) (b : Below W.heap.size W W') : RdWriter v m W' := by
  obtain ⟨sv, h1, h2⟩ := h
  exact ⟨sv, h1, RdK.below h2 b⟩
theorem formWriter {v : Value} {m : Wt} {W : World} (h : RdWriter v m W) : ∃ a cap, v = .agg #[.int .i64 m.epoch, .slice a m.words.length cap] ∧ m.words.length ≤ 9223372036854775807 := by
  obtain ⟨sv, rfl, h⟩ := h
  obtain ⟨a, cap, rfl, h0⟩ := formK h
  exact ⟨a, cap, rfl, h0⟩
theorem OwWriter.sits {lo hi : Nat} {w : World} {v : Value} {m : Wt} (h : OwWriter lo hi v m w) (hf : hi ≤ w.heap.size) : Sits (OwWriter lo hi v m) lo hi w := by
  obtain ⟨sv, h1, h2⟩ := h
  have s2 := OwK.sits h2 hf
  exact ⟨hf, fun W hW => ⟨sv, h1, s2.all W hW⟩⟩
theorem cntWordS_le {m : List Wd} (h : sizWordS m ≤ 1048576) : cntWordS m ≤ 2097152 := by unfold sizWordS at h; unfold cntWordS; omega
theorem cntWriter_le {m : Wt} (h : sizWriter m ≤ 1048576) : cntWriter m ≤ 2097152 := cntWordS_le h
end Go.Proofs.YthndkkjgjhgdnaaGreatDoor
namespace Go.Proofs.YthndkkjgjhgdnaaGreatDoor
open Go.ChangeShapes Go.WideShapes Go.ChangeAt Go.RowKit
set_option linter.unusedVariables false
set_option linter.unusedSimpArgs false
set_option maxRecDepth 100000

/-- Each text can be measured. -/
def txtW (ms : List Wd) : Prop := ∀ e ∈ ms, e.data.size ≤ 9223372036854775807
/-- Bytes and nodes of the first ones. -/
def sumB (ms : List Wd) (k : Nat) : Nat := sumX (ms.take k) + sumW (ms.take k)
theorem sumB_step (ms : List Wd) (k : Nat) (h : k < ms.length) : sumB ms (k + 1) = sumB ms k + (ms[k].data.size + ms[k].acks.length) := by
  unfold sumB
  rw [sumX_take ms k h, sumW_take ms k h]
  omega
theorem sumB_le (ms : List Wd) (k : Nat) : sumB ms k ≤ sumX ms + sumW ms := by
  have h1 := sumX_le ms k
  have h2 := sumW_le ms k
  unfold sumB
  omega
end Go.Proofs.YthndkkjgjhgdnaaGreatDoor
