/- The contract of spec's PutNum: the number form in new memory; nothing of what is below 0. -/
import Derived.Test.YtcjchbapeoeaeaaNumP
import Derived.Laws.AppendOwn
import Derived.OwnWalk
namespace Go.Proofs.Ytcjchbapeoeaeaa
open Go.ChangeShapes Go.WideShapes Go.ChangeAt Go.RowKit
set_option linter.unusedVariables false

theorem info8' : (Try.prog.info? 5).map (fun i => (i.zero, i.size, i.bytes)) = some (some (.int .u8 0), 1, 1) := by kernel_rfl
theorem grown_below {B : Nat} {w0 w w' : World} {row : Option Nat} (hb : Below B w0 w) (hg : w.grownBy w' row) (hB : B ≤ w.heap.size) (hr : ∀ k, row = some k → B ≤ k) : Below B w0 w' := hb.grown hg hB hr
theorem one_new (w : World) (x : Value) (T : TypeId) : ∀ j u, [x][j]? = some u → (w.alloc (.cells #[x] T)).cell? ((⟨w.heap.size, 0, none⟩ : Addr).add j) = some u := by
  intro j u hj
  match j, hj with
  | 0, hj => simp at hj; subst hj; simp [Addr.add]
theorem one_cell (n : Int) : ∀ u ∈ [Value.int .u8 n], u.oneCell' = true := by
  intro u hu; simp at hu; subst hu; rfl
theorem specPut_no (x : Int) (h : x < 0) (w : World) :
    Calls Try.prog 54 #[.int .i64 x] w fun e w' => (∃ v, e = .returned v ∧ w'.ownsRow w.heap.size 5 1 v 0 (bcells [])) ∧ Below w.heap.size w w' := by
  go_enter Try.func54, Try.ntmps54
  go_wp2
  go_ret
  exact ⟨⟨_, rfl, World.ownsRow_made w #[] 0 (Nat.le_refl _) (by decide) (by simp)⟩, (Below.refl _ _).alloc (Nat.le_refl _) _⟩
set_option maxHeartbeats 1000000 in
theorem specPut_yes (x : Nat) (h : x ≤ 9223372036854775807) (w : World) :
    Calls Try.prog 54 #[.int .i64 (x : Int)] w fun e w' => (∃ v, e = .returned v ∧ w'.ownsRow w.heap.size 5 1 v (numB x).length (bcells (numB x))) ∧ Below w.heap.size w w' := by
  obtain ⟨i0, hi, hz0, hz1, hz2⟩ := info_parts info8'
  have hx : ¬ ((x : Int) < 0) := by omega
  go_enter Try.func54, Try.ntmps54
  go_wp2
  go_loopw [3, 0] (fun o xv wr => ∃ (m : Nat) (l : List UInt8), xv = .int .i64 (m : Int) ∧ wr.ownsRow w.heap.size 5 1 o l.length (bcells l) ∧ m ≤ x ∧ Hid (NumInv x m l) ∧ Below w.heap.size w wr) (fun _ xv _ => (intOf xv).toNat)
  case atStart => exact ⟨x, [], rfl, World.ownsRow_made w #[] 0 (Nat.le_refl _) (by decide) (by simp), Nat.le_refl _, NumInv.start h, (Below.refl _ _).alloc (Nat.le_refl _) _⟩
  case round =>
    obtain ⟨m, l, rfl, hown, hmx, hinv, hb⟩ := hrel
    have hl8 := (dUnhide hinv).2.1
    have hlt := hown.lt
    by_cases hm : (127 : Int) < (m : Int)
    · have hmod : ((UInt8.ofNat (m % 128 + 128)).toNat : Int) = (m : Int) % 128 + 128 := by simp; omega
      go_wp2_with (at_builtin; refine wpList_append_own _ rfl _ _ 22 rfl w.heap.size 5 i0 (.int .u8 0) 1 1 Try.underlying22 hi hz0 hz1 hz2 rfl (by decide) _ _ _ rfl (hown.alloc _) ⟨wr.heap.size, 0, none⟩ 1 1 [.int .u8 ((m : Int) % 128 + 128)] rfl rfl (one_new _ _ _) (one_cell _) ?c3 ?c4 ?c5 ?_)
      case c3 => unfold maxLen; omega
      case c4 => omega
      case c5 => have := hb.size; simp; omega
      intro v' w1 hown' hgrow _
      have hb1 : Below w.heap.size w w1 := grown_below (hb.alloc hb.size _) hgrow (by have := hb.size; simp; omega) (fun k hk => (hlt k hk).1)
      have hown2 : w1.ownsRow w.heap.size 5 1 v' (l ++ [UInt8.ofNat (m % 128 + 128)]).length (bcells (l ++ [UInt8.ofNat (m % 128 + 128)])) := by
        rw [bcells_snoc, hmod]; simpa using hown'
      have hst : Hid (NumInv x (m / 128) (l ++ [UInt8.ofNat (m % 128 + 128)])) := NumInv.step hinv (by omega)
      clear hown hown' hgrow hb hlt hmod hinv
      generalize l ++ [UInt8.ofNat (m % 128 + 128)] = l' at *
      go_wp2
      go_roundw
      case rel => exact ⟨m / 128, l', by go_num, hown2, by omega, hst, hb1⟩
      case measure => simp [intOf]; omega
    · have hfin := NumInv.done hinv (by omega)
      have hmod : ((UInt8.ofNat m).toNat : Int) = (m : Int) := by simp; omega
      have HF := dHide hfin
      clear hfin
      go_wp2_with (at_builtin; refine wpList_append_own _ rfl _ _ 22 rfl w.heap.size 5 i0 (.int .u8 0) 1 1 Try.underlying22 hi hz0 hz1 hz2 rfl (by decide) _ _ _ rfl (hown.alloc _) ⟨wr.heap.size, 0, none⟩ 1 1 [.int .u8 (m : Int)] rfl rfl (one_new _ _ _) (one_cell _) ?c3 ?c4 ?c5 ?_)
      case c3 => unfold maxLen; omega
      case c4 => omega
      case c5 => have := hb.size; simp; omega
      intro v' w1 hown' hgrow _
      have hb1 : Below w.heap.size w w1 := grown_below (hb.alloc hb.size _) hgrow (by have := hb.size; simp; omega) (fun k hk => (hlt k hk).1)
      have hown2 : w1.ownsRow w.heap.size 5 1 v' (numB x).length (bcells (numB x)) := by
        rw [← dUnhide HF, bcells_snoc, hmod]; simpa using hown'
      clear hown hown' hgrow hb hlt hmod hinv HF
      go_wp2
      go_ret
      exact ⟨⟨_, rfl, hown2⟩, hb1⟩
end Go.Proofs.Ytcjchbapeoeaeaa
