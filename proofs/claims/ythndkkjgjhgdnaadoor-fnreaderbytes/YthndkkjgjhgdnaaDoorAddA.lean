/- impl's addNum and PutNum. -/
import Derived.Test.YthndkkjgjhgdnaaDoorGbF
namespace Go.Proofs.YthndkkjgjhgdnaaDoor
open Go.ChangeShapes Go.WideShapes Go.ChangeAt Go.RowKit
set_option linter.unusedVariables false

set_option maxHeartbeats 1000000 in
theorem addNum_any (B : Nat) (b : Value) (bs : List UInt8) (x : Nat) (h : x ≤ 9223372036854775807) (w : World) (hown0 : w.ownsRow B 5 1 b bs.length (bcells bs)) (hl0 : bs.length ≤ 2199023255552) (hB : B ≤ w.heap.size) :
    Calls Tryd.prog 65 #[b, .int .i64 (x : Int)] w fun e w' => (∃ v, e = .returned v ∧ w'.ownsRow B 5 1 v (bs ++ numB x).length (bcells (bs ++ numB x))) ∧ Below B w w' := by
  obtain ⟨i0, hi, hz0, hz1, hz2⟩ := info_parts info8'
  have hx : ¬ ((x : Int) < 0) := by omega
  go_enter Tryd.func65, Tryd.ntmps65
  go_wp2
  go_loopw [0, 1] (fun o xv wr => ∃ (m : Nat) (l : List UInt8), xv = .int .i64 (m : Int) ∧ wr.ownsRow B 5 1 o (bs ++ l).length (bcells (bs ++ l)) ∧ m ≤ x ∧ Hid (NumInv x m l) ∧ Below B w wr) (fun _ xv _ => (intOf xv).toNat)
  case atStart => exact ⟨x, [], rfl, by simpa using hown0, Nat.le_refl _, NumInv.start h, Below.refl _ _⟩
  case round =>
    obtain ⟨m, l, rfl, hown, hmx, hinv, hb⟩ := hrel
    have hl8 := (dUnhide hinv).2.1
    have hlt := hown.lt
    have hla : (bs ++ l).length ≤ 2199023255552 + 8 := by simp; omega
    by_cases hm : (m : Int) < 128
    · have hfin := NumInv.done hinv (by omega)
      have hmod : ((UInt8.ofNat m).toNat : Int) = (m : Int) := by simp; omega
      have HF := dHide hfin
      have hm' : ¬ ((128 : Int) ≤ (m : Int)) := by omega
      clear hfin
      go_wp2_with (at_builtin; refine wpList_append_own _ rfl _ _ 22 rfl B 5 i0 (.int .u8 0) 1 1 Tryd.underlying22 hi hz0 hz1 hz2 rfl (by decide) _ _ _ rfl (hown.alloc _) ⟨wr.heap.size, 0, none⟩ 1 1 [.int .u8 (m : Int)] rfl rfl (one_new _ _ _) (one_cell _) ?c3 ?c4 ?c5 ?_)
      case c3 => unfold maxLen; omega
      case c4 => omega
      case c5 => have := hb.size; simp; omega
      intro v' w1 hown' hgrow _
      have hb1 : Below B w w1 := grown_below (hb.alloc (by have := hb.size; omega) _) hgrow (by have := hb.size; simp; omega) (fun k hk => (hlt k hk).1)
      have hown2 : w1.ownsRow B 5 1 v' (bs ++ numB x).length (bcells (bs ++ numB x)) := by
        rw [← dUnhide HF, ← List.append_assoc, bcells_snoc, hmod, List.length_append, List.length_append]; exact hown'
      clear hown hown' hgrow hb hlt hmod hinv HF
      go_wp2
      go_ret
      exact ⟨⟨_, rfl, hown2⟩, hb1⟩
    · have hmod : ((UInt8.ofNat (m % 128 + 128)).toNat : Int) = (m : Int) % 128 + 128 := by simp; omega
      have hm' : (128 : Int) ≤ (m : Int) := by omega
      go_wp2_with (at_builtin; refine wpList_append_own _ rfl _ _ 22 rfl B 5 i0 (.int .u8 0) 1 1 Tryd.underlying22 hi hz0 hz1 hz2 rfl (by decide) _ _ _ rfl (hown.alloc _) ⟨wr.heap.size, 0, none⟩ 1 1 [.int .u8 ((m : Int) % 128 + 128)] rfl rfl (one_new _ _ _) (one_cell _) ?c3 ?c4 ?c5 ?_)
      case c3 => unfold maxLen; omega
      case c4 => omega
      case c5 => have := hb.size; simp; omega
      intro v' w1 hown' hgrow _
      have hb1 : Below B w w1 := grown_below (hb.alloc (by have := hb.size; omega) _) hgrow (by have := hb.size; simp; omega) (fun k hk => (hlt k hk).1)
      have hown2 : w1.ownsRow B 5 1 v' (bs ++ (l ++ [UInt8.ofNat (m % 128 + 128)])).length (bcells (bs ++ (l ++ [UInt8.ofNat (m % 128 + 128)]))) := by
        rw [← List.append_assoc, bcells_snoc, hmod, List.length_append, List.length_append]; exact hown'
      have hst : Hid (NumInv x (m / 128) (l ++ [UInt8.ofNat (m % 128 + 128)])) := NumInv.step hinv (by omega)
      clear hown hown' hgrow hb hlt hmod hinv hla hl8
      generalize l ++ [UInt8.ofNat (m % 128 + 128)] = l' at *
      go_wp2
      go_roundw
      case rel => exact ⟨m / 128, l', by go_num, hown2, by omega, hst, hb1⟩
      case measure => simp [intOf]; omega
end Go.Proofs.YthndkkjgjhgdnaaDoor
