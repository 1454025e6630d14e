/- Records as bytes: impl's addList of numbers, addFlag, addConfig. -/
import Derived.Test.YtioocibgfhgkhaaDoorPkB
import Derived.Test.YtioocibgfhgkhaaDoorAddY
import Derived.Deep.RegionHeld3
import Derived.Deep.DeepCutAuto
namespace Go.Proofs.YtioocibgfhgkhaaDoor
open Go.ChangeShapes Go.WideShapes Go.ChangeAt Go.RowKit
set_option linter.unusedVariables false
set_option linter.unusedSimpArgs false
set_option maxRecDepth 100000

/-- What an adder leaves, seen from a world w0 below whose B nothing turns. -/
theorem Onto.at {w0 w w' : World} {B : Nat} {b v : Value} {bs : List UInt8} (h : Onto w w' b v) (hO : OwnX w B b bs) (h0 : Below B w0 w) (hB : B ≤ w.heap.size) : Below B w0 w' ∧ B ≤ w'.heap.size :=
  ⟨h.below (fun k hk => (hO.lt k hk).1) h0 hB, Nat.le_trans hB h.1.size⟩
set_option maxHeartbeats 2000000 in
theorem addListI_x (B : Nat) (w0 : World) (b : Value) (bs : List UInt8) (lv : Value) (xs : List Int) (h0 : natI xs) (hl : xs.length ≤ 1048576) (hbs : bs.length ≤ 1099511627776) (HV : ∀ W, Below B w0 W → Ns W lv xs) (w : World) (hb0 : Below B w0 w) (hown0 : OwnX w B b bs) (hB : B ≤ w.heap.size) :
    Calls Tryd.prog 53 #[b, lv, .func (.func 54) #[] #[]] w fun e w' => ∃ v, e = .returned v ∧ OwnX w' B v (bs ++ lstB xs) ∧ Onto w w' b v := by
  have HV := dHide HV
  obtain ⟨-, a, cap, rfl, -, -⟩ := dUnhide HV w hb0
  have C := dHide (addNum_x B b bs xs.length (by omega) w hown0 (by omega) hB)
  have n9 := numB_len xs.length
  have ES : Hid (bs ++ lstB xs = (bs ++ numB xs.length) ++ numsB xs) := by rw [Hid, lstB, List.append_assoc]
  have hhd : (bs ++ numB xs.length).length ≤ 1099511627776 + 9 := by rw [List.length_append]; omega
  generalize bs ++ numB xs.length = hd at *
  go_enter Tryd.func53, Tryd.ntmps53
  go_wp2_with fail
  refine (dUnhide C).mono ?_
  rintro e w1 ⟨v1, rfl, O1, T1⟩
  have B1 := T1.at hown0 hb0 hB
  clear C n9 hown0 hb0
  go_wp2
  go_loopw [0, 15] (fun o xv wr => ∃ k : Nat, xv = .int .i64 (k : Int) ∧ k ≤ xs.length ∧ OwnX wr B o (hd ++ numsB (xs.take k)) ∧ Onto w wr b o ∧ Below B w0 wr ∧ B ≤ wr.heap.size) (fun _ xv _ => xs.length - (intOf xv).toNat)
  case atStart => exact ⟨0, rfl, Nat.zero_le _, by simpa [numsB] using O1, T1, B1.1, B1.2⟩
  case round =>
    clear O1 T1 B1
    obtain ⟨k, rfl, hk, ho, ht, hb, hbz⟩ := hrel
    by_cases hlt : (k : Int) < (xs.length : Int)
    · have hkl : k < xs.length := by omega
      obtain ⟨bk, off, rfl, hc⟩ := (dUnhide HV wr hb).at17 hkl
      have c0 := hc k hkl
      have hS := dHide (numsB_take xs k hkl)
      have hx0 := h0 _ (List.getElem_mem hkl)
      have hfl := numsB_len (xs.take k)
      rw [List.length_take] at hfl
      generalize xs[k] = y at *
      generalize numsB (xs.take k) = FK at *
      obtain ⟨n, rfl⟩ := Int.eq_ofNat_of_zero_le hx0.1
      rw [Int.toNat_natCast] at hS
      have CP := dHide (addNum_x B u0 (hd ++ FK) n (by omega) wr ho (by rw [List.length_append]; omega) hbz)
      have FIN : Hid (∀ v5 w5, OwnX w5 B v5 ((hd ++ FK) ++ numB n) → Onto wr w5 u0 v5 → OwnX w5 B v5 (hd ++ numsB (xs.take (k + 1))) ∧ Onto w w5 b v5 ∧ Below B w0 w5 ∧ B ≤ w5.heap.size) := fun v5 w5 h1 h2 =>
        ⟨by rw [dUnhide hS, ← List.append_assoc]; exact h1, ht.trans h2, h2.at ho hb hbz⟩
      clear hc ho ht hS hb
      go_wp2_with fail
      refine (dUnhide CP).mono ?_
      rintro e w5 ⟨v5, rfl, O5, T5⟩
      have F := dHide (dUnhide FIN v5 w5 O5 T5)
      clear O5 T5 FIN CP c0
      go_wp2
      go_roundw
      case rel => exact ⟨k + 1, by go_num, by omega, (dUnhide F).1, (dUnhide F).2.1, (dUnhide F).2.2.1, (dUnhide F).2.2.2⟩
      case measure => simp [intOf]; omega
    · have e1 : xs.take k = xs := List.take_of_length_le (by omega)
      rw [e1] at ho
      have Q := dHide (And.intro ho ht)
      clear e1 ho ht hb
      go_wp2
      go_ret
      refine ⟨_, rfl, ?_⟩
      rw [dUnhide ES]
      exact dUnhide Q
theorem textB_len (d : ByteArray) : (textB d.data.toList).length ≤ 9 + d.size := by
  have h3 := numB_len d.data.toList.length
  have h4 : d.data.toList.length = d.size := by rw [← Lib.size_eq]
  unfold textB
  rw [List.length_append]
  omega
/-- A flag's byte. -/
def flgB (f : Bool) : List UInt8 := numB (if f then 1 else 0)
theorem flgB_len (f : Bool) : (flgB f).length ≤ 9 := numB_len _
set_option maxHeartbeats 2000000 in
theorem addConfig_x (B : Nat) (w0 : World) (b : Value) (bs : List UInt8) (sv : Value) (ds : List Int) (cop : Nat) (hc : cop ≤ 9223372036854775807) (h0 : natI ds) (hl : ds.length ≤ 1048576) (hbs : bs.length ≤ 1048576) (HV : ∀ W, Below B w0 W → Ns W sv ds) (w : World) (hb0 : Below B w0 w) (hown0 : OwnX w B b bs) (hB : B ≤ w.heap.size) :
    Calls Tryd.prog 37 #[b, .agg #[sv, .int .i64 (cop : Int)]] w fun e w' => ∃ v, e = .returned v ∧ OwnX w' B v (bs ++ cfgB ds (cop : Int)) ∧ Onto w w' b v := by
  have HV := dHide HV
  have ba : ∀ (w : World) o, Below w.heap.size w (w.alloc o) := fun w o => (Below.refl _ _).alloc (Nat.le_refl _) o
  obtain ⟨-, a, cap, rfl, -, -⟩ := dUnhide HV w hb0
  have X0 := Bx.new w [.slice a ds.length cap, .int .i64 (cop : Int)] 25
  have B0 := ba w (.cells #[.slice a ds.length cap, .int .i64 (cop : Int)] 25)
  have O0 := hown0.alloc (.cells #[.slice a ds.length cap, .int .i64 (cop : Int)] 25)
  have T0 := (Onto.refl w b).alloc (.cells #[.slice a ds.length cap, .int .i64 (cop : Int)] 25)
  have Z0 := T0.at hown0 hb0 hB
  have ES : Hid (bs ++ cfgB ds (cop : Int) = (bs ++ lstB ds) ++ numB cop) := by rw [Hid, cfgB, Int.toNat_natCast, List.append_assoc]
  have NB : ∀ k, b.ownBlock = some k → k ≠ w.heap.size := fun k hk => by have := (hown0.lt k hk).2; omega
  clear ba hown0 hb0
  go_enter Tryd.func37, Tryd.ntmps37
  go_wp2_with fail
  generalize w.alloc (.cells #[.slice a ds.length cap, .int .i64 (cop : Int)] 25) = wb at *
  have C := addListI_x B w0 b bs (.slice a ds.length cap) ds h0 hl (by omega) (dUnhide HV) wb Z0.1 O0 Z0.2
  refine C.mono ?_
  rintro e w1 ⟨v1, rfl, O1, T1⟩
  have X1 := X0.grown T1.1 (by intro e; exact NB _ e rfl)
  have Z1 := T1.at O0 Z0.1 Z0.2
  have T01 := T0.trans T1
  have h2 := lstB_len ds
  have C2 := dHide (addNum_x B v1 (bs ++ lstB ds) cop hc w1 O1 (by rw [List.length_append]; omega) Z1.2)
  have k0 := X1 0 _ rfl
  have k1 := X1 1 _ rfl
  clear C X0 X1 B0 O0 T0 Z0 T1 O1 Z1
  go_wp2_with fail
  refine (dUnhide C2).mono ?_
  rintro e w2 ⟨v2, rfl, O2, T2⟩
  have F := dHide (And.intro O2 (T01.trans T2))
  clear C2 O2 T2 T01 k0 k1
  go_wp2
  go_ret
  refine ⟨_, rfl, ?_⟩
  rw [dUnhide ES]
  exact dUnhide F
end Go.Proofs.YtioocibgfhgkhaaDoor
