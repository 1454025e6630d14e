/- Several texts in one: WrA, WrSa, CpN. -/
import Derived.Test.YtkiclbbialadlaaGreatGaB
import Derived.Test.YtkiclbbialadlaaGreatGaD
import Derived.Test.YtkiclbbialadlaaGreatGaT
import Derived.Test.YtkiclbbialadlaaGreatGaA
import Derived.Deep.RegionHeld3
import Derived.Deep.DeepCutAuto
namespace Go.Proofs.YtkiclbbialadlaaGreat
open Go.ChangeShapes Go.WideShapes Go.ChangeAt Go.RowKit
set_option linter.unnecessarySimpa false
set_option linter.unusedSimpArgs false
set_option linter.unusedVariables false
set_option maxRecDepth 100000
def markU (k : Nat) : ByteArray := if k = 0 then ⟨#[109, 48]⟩ else markT k
theorem markText_all (k : Nat) (hk : k ≤ 4294967296) (w : World) :
  Calls Tryz.prog 54 #[.int .i64 (k : Int)] w fun e w' => e = .returned (.string (markU k)) ∧ Below w.heap.size w w' := by
 by_cases h : k = 0
 ·subst h
  rw [show markU 0 = ⟨#[109, 48]⟩ from rfl]
  go_enter Tryz.func54, Tryz.ntmps54
  go_wp2
  go_ret
  exact ⟨rfl, Below.refl _ _⟩
 ·rw [show markU k = markT k from if_neg h]
  exact markText_any k hk (by omega) w
structure Wd where
 data : ByteArray
 acks : List Int
 done : Bool
structure Wt where
 epoch : Int
 words : List Wd
def wdCl (p : Nst Wd) : List Value := [.string p.m.data, Sv Wd.acks p, .bool p.m.done]
theorem wdCl_len (p : Nst Wd) : (wdCl p).length = 3 := rfl
theorem elemW : Elem (α := Nst Wd) 209 128 (.agg #[.string ⟨#[]⟩, .slice none 0 0, .bool false]) 3 48 wdCl where
 under := Tryz.underlying128
 info := by kernel_rfl
 zcells := by kernel_rfl
 pos := by decide
 len := wdCl_len
 one := fun a u hu => by
  simp only [wdCl, List.mem_cons, List.not_mem_nil, or_false] at hu
  rcases hu with rfl | rfl | rfl <;> rfl
def WdAt (w : World) (b o : Nat) (p : Nst Wd) : Prop := w.cell? ⟨b, o, none⟩ = some (.string p.m.data) ∧ w.cell? ⟨b, o + 1, none⟩ = some (.slice p.a p.m.acks.length p.c) ∧ w.cell? ⟨b, o + 2, none⟩ = some (.bool p.m.done)
theorem WdAt.below {w w' : World} {b o : Nat} {p : Nst Wd} (h : WdAt w b o p) (hb : Below w.heap.size w w') : WdAt w' b o p :=
 ⟨(hb.cell (p := ⟨b, o, none⟩) (dCell_lt h.1)).trans h.1, (hb.cell (p := ⟨b, o + 1, none⟩) (dCell_lt h.2.1)).trans h.2.1, (hb.cell (p := ⟨b, o + 2, none⟩) (dCell_lt h.2.2)).trans h.2.2⟩
theorem Rw.word {w : World} {a : Option Addr} {n cap : Nat} {rs : List (Nst Wd)} (h : Rw 3 wdCl w (.slice a n cap) rs) {k : Nat} (hk : k < rs.length) : ∃ b off, a = some ⟨b, off, none⟩ ∧ ∀ i (hi : i < rs.length), WdAt w b (off + i * 3) rs[i] := by
 obtain ⟨b, off, e, hc⟩ := h.el hk
 exact ⟨b, off, e, fun i hi => ⟨hc i hi 0 _ rfl, hc i hi 1 _ rfl, hc i hi 2 _ rfl⟩⟩
def sumW (ms : List Wd) : Nat := (ms.map fun e => e.acks.length).sum
theorem sumW_take (ms : List Wd) (k : Nat) (h : k < ms.length) : sumW (ms.take (k + 1)) = sumW (ms.take k) + ms[k].acks.length := by
 unfold sumW
 rw [List.take_succ_eq_append_getElem h, List.map_append, List.sum_append, List.map_cons, List.map_nil, List.sum_cons, List.sum_nil, Nat.add_zero]
theorem sumW_le (ms : List Wd) (k : Nat) : sumW (ms.take k) ≤ sumW ms := by
 unfold sumW
 conv => rhs; rw [← List.take_append_drop k ms, List.map_append, List.sum_append]
 exact Nat.le_add_right _ _
theorem sumW_mem {ms : List Wd} {k : Nat} (h : k < ms.length) : ms[k].acks.length ≤ sumW ms := by
 have h1 := sumW_take ms k h
 have h2 := sumW_le ms (k + 1)
 omega
def sumX (ms : List Wd) : Nat := (ms.map fun e => e.data.size).sum
theorem sumX_take (ms : List Wd) (k : Nat) (h : k < ms.length) : sumX (ms.take (k + 1)) = sumX (ms.take k) + ms[k].data.size := by
 unfold sumX
 rw [List.take_succ_eq_append_getElem h, List.map_append, List.sum_append, List.map_cons, List.map_nil, List.sum_cons, List.sum_nil, Nat.add_zero]
theorem sumX_le (ms : List Wd) (k : Nat) : sumX (ms.take k) ≤ sumX ms := by
 unfold sumX
 conv => rhs; rw [← List.take_append_drop k ms, List.map_append, List.sum_append]
 exact Nat.le_add_right _ _
def RdWordS (v : Value) (ms : List Wd) (W : World) : Prop := RdK 3 Wd.acks wdCl v ms W
def OwWordS (lo hi : Nat) (v : Value) (ms : List Wd) (W : World) : Prop := OwK 3 Wd.acks wdCl lo hi v ms W
def RdWriter (v : Value) (m : Wt) (W : World) : Prop := ∃ sv, v = .agg #[.int .i64 m.epoch, sv] ∧ RdWordS sv m.words W
def OwWriter (lo hi : Nat) (v : Value) (m : Wt) (W : World) : Prop := ∃ sv, v = .agg #[.int .i64 m.epoch, sv] ∧ OwWordS lo hi sv m.words W
def sizWordS (m : List Wd) : Nat := m.length + sumX m + sumW m
def sizWriter (m : Wt) : Nat := sizWordS m.words
def cntWordS (m : List Wd) : Nat := sumW m + 2 * m.length
def cntWriter (m : Wt) : Nat := cntWordS m.words
def mkWd (k : Nat) (e : Wd) : Wd := ⟨markU k, marksN (k + 1) e.acks.length, ((k + 1 + e.acks.length) % 3 == 0)⟩
def mkWordS : Nat → List Wd → List Wd
 | _, [] => []
 | k, e :: l => mkWd k e :: mkWordS (k + e.acks.length + 2) l
theorem mkWordS_len : ∀ (k : Nat) (m : List Wd), (mkWordS k m).length = m.length
 | _, [] => rfl
 | k, e :: l => by rw [mkWordS, List.length_cons, List.length_cons, mkWordS_len]
theorem cntWordS_cons (e : Wd) (l : List Wd) : cntWordS (e :: l) = e.acks.length + 2 + cntWordS l := by
 simp only [cntWordS, sumW, List.map_cons, List.sum_cons, List.length_cons]
 omega
theorem mkWordS_at : ∀ (k : Nat) (m : List Wd) (i : Nat) (h : i < m.length) (h' : i < (mkWordS k m).length), (mkWordS k m)[i] = mkWd (k + cntWordS (m.take i)) m[i]
 | _, [], i, h, _ => by simp at h
 | k, e :: l, 0, h, _ => by simp [mkWordS, cntWordS, sumW]
 | k, e :: l, i + 1, h, h' => by
  have ih := mkWordS_at (k + e.acks.length + 2) l i (by simpa using h) (by rw [mkWordS_len]; simpa using h)
  simp only [mkWordS, List.getElem_cons_succ, List.take_succ_cons, cntWordS_cons]
  rw [ih]
  congr 1
  omega
theorem cntWordS_take (m : List Wd) (k : Nat) (h : k < m.length) : cntWordS (m.take (k + 1)) = cntWordS (m.take k) + m[k].acks.length + 2 := by
 have h1 := sumW_take m k h
 unfold cntWordS
 rw [h1, List.length_take, List.length_take]
 omega
theorem cntWordS_le' (m : List Wd) (k : Nat) : cntWordS (m.take k) ≤ cntWordS m := by
 have h1 := sumW_le m k
 unfold cntWordS
 rw [List.length_take]
 omega
theorem OwWriter.rd {lo hi : Nat} {v : Value} {m : Wt} {W : World} (h : OwWriter lo hi v m W) : RdWriter v m W := by
 obtain ⟨sv, h1, h2⟩ := h
 exact ⟨sv, h1, OwK.rd h2⟩
theorem RdWriter.below {v : Value} {m : Wt} {W W' : World} (h : RdWriter v m W) (b : Below W.heap.size W W') : RdWriter v m W' := by
 obtain ⟨sv, h1, h2⟩ := h
 exact ⟨sv, h1, RdK.below h2 b⟩
theorem formWriter {v : Value} {m : Wt} {W : World} (h : RdWriter v m W) : ∃ a cap, v = .agg #[.int .i64 m.epoch, .slice a m.words.length cap] ∧ m.words.length ≤ 9223372036854775807 := by
 obtain ⟨sv, rfl, h⟩ := h
 obtain ⟨a, cap, rfl, h0⟩ := formK h
 exact ⟨a, cap, rfl, h0⟩
theorem OwWriter.sits {lo hi : Nat} {w : World} {v : Value} {m : Wt} (h : OwWriter lo hi v m w) (hf : hi ≤ w.heap.size) : Sits (OwWriter lo hi v m) lo hi w := by
 obtain ⟨sv, h1, h2⟩ := h
 have s2 := OwK.sits h2 hf
 exact ⟨hf, fun W hW => ⟨sv, h1, s2.all W hW⟩⟩
def txtW (ms : List Wd) : Prop := ∀ e ∈ ms, e.data.size ≤ 9223372036854775807
theorem szWord_any (p : Nst Wd) (left : Int) (l0 : 0 ≤ left) (l1 : left ≤ 1048576) (w : World) (ht : p.m.data.size ≤ 9223372036854775807) (h : Ns w (Sv Wd.acks p) p.m.acks) :
  Calls Tryz.prog 155 #[.agg #[.string p.m.data, .slice p.a p.m.acks.length p.c, .bool p.m.done], .int .i64 left] w fun r w' => r = .returned (.int .i64 (lft left (p.m.data.size + p.m.acks.length))) ∧ Below w.heap.size w w' := by
 have hb0 : ∀ o, Below w.heap.size w (w.alloc o) := fun o => (Below.refl _ _).alloc (Nat.le_refl _) o
 by_cases hd : left < (p.m.data.size : Int)
 ·rw [lft_no (show left < ((p.m.data.size + p.m.acks.length : Nat) : Int) by omega)]
  have hd' : left - (p.m.data.size : Int) < 0 := by omega
  clear hd h
  go_enter Tryz.func155, Tryz.ntmps155
  go_wp2
  go_ret
  exact ⟨rfl, hb0 _⟩
 have hd' : ¬ (left - (p.m.data.size : Int) < 0) := by omega
 have C1 := dH fun o => szIntS_any _ p.m.acks (left - (p.m.data.size : Int)) (by omega) (by omega) (w.alloc o) (h.below (hb0 o))
 clear h
 unfold Sv at C1
 by_cases hl : left - (p.m.data.size : Int) < (p.m.acks.length : Int)
 ·rw [show left1 p.m.acks.length (left - (p.m.data.size : Int)) = -1 from if_pos hl] at C1
  rw [lft_no (show left < ((p.m.data.size + p.m.acks.length : Nat) : Int) by omega)]
  clear hl hd
  go_enter Tryz.func155, Tryz.ntmps155
  go_wp2_with fail
  refine (dU C1 _).mono ?_
  rintro e w1 ⟨rfl, rfl⟩
  go_wp2
  go_ret
  exact ⟨rfl, hb0 _⟩
 ·rw [show left1 p.m.acks.length (left - (p.m.data.size : Int)) = left - (p.m.data.size : Int) - (p.m.acks.length : Int) from if_neg hl] at C1
  rw [lft_yes (show ¬ left < ((p.m.data.size + p.m.acks.length : Nat) : Int) by omega), show left - ((p.m.data.size + p.m.acks.length : Nat) : Int) = left - (p.m.data.size : Int) - (p.m.acks.length : Int) by omega]
  have hd2 : ¬ (left - (p.m.data.size : Int) - (p.m.acks.length : Int) < 0) := by omega
  clear hl hd
  go_enter Tryz.func155, Tryz.ntmps155
  go_wp2_with fail
  refine (dU C1 _).mono ?_
  rintro e w1 ⟨rfl, rfl⟩
  go_wp2
  go_ret
  exact ⟨rfl, hb0 _⟩
def sumB (ms : List Wd) (k : Nat) : Nat := sumX (ms.take k) + sumW (ms.take k)
theorem sumB_step (ms : List Wd) (k : Nat) (h : k < ms.length) : sumB ms (k + 1) = sumB ms k + (ms[k].data.size + ms[k].acks.length) := by
 unfold sumB
 rw [sumX_take ms k h, sumW_take ms k h]
 omega
theorem sumB_le (ms : List Wd) (k : Nat) : sumB ms k ≤ sumX ms + sumW ms := by
 have h1 := sumX_le ms k
 have h2 := sumW_le ms k
 unfold sumB
 omega
set_option maxHeartbeats 2000000 in
theorem szWordS_any (v : Value) (ms : List Wd) (left : Int) (l0 : 0 ≤ left) (l1 : left ≤ 1048576) (ht : txtW ms) (w : World) (hv : RdWordS v ms w) :
  Calls Tryz.prog 100 #[v, .int .i64 left] w fun r w' => r = .returned (.int .i64 (lft left (sizWordS ms))) ∧ Below w.heap.size w w' := by
 obtain ⟨rs, rfl, hr, hn⟩ := hv
 have HV := dH fun W (hb : Below w.heap.size w W) => hr.below hb
 have HN := dH fun W (hb : Below w.heap.size w W) k (hk : k < rs.length) => (hn _ (List.getElem_mem hk)).below hb
 have HT := dH fun k (hk : k < rs.length) => ht _ (List.mem_map.2 ⟨_, List.getElem_mem hk, rfl⟩)
 obtain ⟨h0, a, cap, rfl, -, -⟩ := hr
 have e0 : sizWordS (rs.map Nst.m) = rs.length + (sumX (rs.map Nst.m) + sumW (rs.map Nst.m)) := by unfold sizWordS; rw [List.length_map]; omega
 rw [e0]
 clear hn e0 ht
 by_cases hl : left < (rs.length : Int)
 ·have e1 : lft left (rs.length + (sumX (rs.map Nst.m) + sumW (rs.map Nst.m))) = -1 := lft_no (by omega)
  rw [e1]
  have hd : left - (rs.length : Int) < 0 := by omega
  clear HV HN HT e1
  go_enter Tryz.func100, Tryz.ntmps100
  go_wp2
  go_ret
  exact ⟨rfl, Below.refl _ _⟩
 ·have hd : ¬ left - (rs.length : Int) < 0 := by omega
  have hs3 := sumB_le (rs.map Nst.m)
  have hs4 : sumB (rs.map Nst.m) rs.length = sumX (rs.map Nst.m) + sumW (rs.map Nst.m) := by unfold sumB; rw [List.take_of_length_le (by rw [List.length_map]; omega)]
  generalize sumX (rs.map Nst.m) + sumW (rs.map Nst.m) = SB at *
  have LN : Hid (left < ((rs.length + SB : Nat) : Int) → lft left (rs.length + SB) = -1) := lft_no
  have LY : Hid (¬ left < ((rs.length + SB : Nat) : Int) → lft left (rs.length + SB) = left - ((rs.length + SB : Nat) : Int)) := lft_yes
  generalize lft left (rs.length + SB) = M at *
  have HS3 := dH hs3
  have HS4 := dH hs4
  clear hs3 hs4
  go_enter Tryz.func100, Tryz.ntmps100
  go_wp2
  go_loopw [5, 1] (fun x y wr => ∃ (k : Nat) (q : Int), x = .int .i64 (k : Int) ∧ y = .int .i64 q ∧ k ≤ rs.length ∧ 0 ≤ q ∧ q ≤ 1048576 ∧ Hid (q = left - (rs.length : Int) - (sumB (rs.map Nst.m) k : Int)) ∧ Below w.heap.size w wr) (fun x _ _ => rs.length - (intOf x).toNat)
  case atStart => exact ⟨0, _, rfl, rfl, Nat.zero_le _, by omega, by omega, by simp [Hid, sumB, sumX, sumW], Below.refl _ _⟩
  case round =>
   obtain ⟨k, q, rfl, rfl, hk, q0, q1, hq, hb⟩ := hrel
   by_cases hlt : (k : Int) < (rs.length : Int)
   ·have hkl : k < rs.length := by omega
    obtain ⟨b, off, rfl, hc⟩ := (dU HV wr hb).word hkl
    have hs := sumB_step (rs.map Nst.m) k (by simpa using hkl)
    have hs2 := dU HS3 (k + 1)
    rw [List.getElem_map] at hs
    have CE := dH fun W (hB : Below wr.heap.size wr W) => szWord_any rs[k] q q0 q1 W (dU HT k hkl) (dU HN W (bT hb hB) k hkl)
    obtain ⟨c0, c1, c2⟩ := hc k hkl
    have hq' := dU hq
    generalize rs[k] = y at *
    obtain ⟨ya, yc, yd, yn, yb⟩ := y
    simp only at *
    by_cases hn : q < ((yd.size + yn.length : Nat) : Int)
    ·rw [lft_no hn] at CE
     have e1 := dU LN (by omega)
     subst e1
     clear hc HV HN HT HS3 HS4 hq' hq hs hs2 hn LN LY
     go_wp2_with fail
     refine (dU CE _ (Below.refl _ _)).mono ?_
     rintro r w2 ⟨rfl, b2⟩
     have hb2 := bT hb b2
     clear CE b2 c0 c1 c2 hb
     go_wp2
     go_ret
     exact ⟨rfl, hb2⟩
    ·rw [lft_yes hn] at CE
     have e1 : Hid (q - ((yd.size + yn.length : Nat) : Int) = left - (rs.length : Int) - (sumB (rs.map Nst.m) (k + 1) : Int)) := by rw [Hid, hs]; omega
     have q0' : 0 ≤ q - ((yd.size + yn.length : Nat) : Int) := by omega
     have q1' : q - ((yd.size + yn.length : Nat) : Int) ≤ 1048576 := by omega
     generalize q - ((yd.size + yn.length : Nat) : Int) = q' at *
     have hd' : ¬ q' < 0 := by omega
     clear hc hq' hq hs hs2 hn
     go_wp2_with fail
     refine (dU CE _ (Below.refl _ _)).mono ?_
     rintro r w2 ⟨rfl, b2⟩
     have hb2 := bT hb b2
     clear CE b2 c0 c1 c2 hb
     go_wp2
     go_roundw
     case rel => exact ⟨k + 1, q', by go_num, rfl, by omega, q0', q1', e1, hb2⟩
     case measure => simp [intOf]; omega
   ·have e1 : k = rs.length := by omega
    have hq' := dU hq
    rw [e1, dU HS4] at hq'
    have e2 := dU LY (by omega)
    have e3 : Hid (q = M) := by rw [Hid, e2, hq']; omega
    clear hq hq' e1 e2 LN LY HV HN HT HS3 HS4
    go_wp2
    go_ret
    exact ⟨by rw [← dU e3]; rfl, hb⟩
theorem szWriter_ (v : Value) (m : Wt) (left : Int) (l0 : 0 ≤ left) (l1 : left ≤ 1048576) (ht : txtW m.words) (w : World) (h : RdWriter v m w) :
  Calls Tryz.prog 60 #[v, .int .i64 left] w fun e w' => e = .returned (.int .i64 (lft left (sizWriter m))) ∧ Below w.heap.size w w' := by
 have hb0 : ∀ o, Below w.heap.size w (w.alloc o) := fun o => (Below.refl _ _).alloc (Nat.le_refl _) o
 obtain ⟨sv, rfl, h⟩ := h
 have C1 := dH fun W (hb : Below w.heap.size w W) => szWordS_any sv m.words left l0 l1 ht W (RdK.below h hb)
 obtain ⟨a, cap, rfl, -⟩ := formK h
 have e0 : sizWriter m = sizWordS m.words := rfl
 rw [e0]
 have hL : lft left (sizWordS m.words) < 0 → lft left (sizWordS m.words) = -1 := fun h => by
  unfold lft at h ⊢
  split
  ·rfl
  ·rename_i h2; rw [if_neg h2] at h; omega
 generalize lft left (sizWordS m.words) = M at *
 have HL := dH hL
 clear hL h e0 ht
 go_enter Tryz.func60, Tryz.ntmps60
 go_wp2_with fail
 refine (dU C1 _ (hb0 _)).mono ?_
 rintro r w1 ⟨rfl, b1⟩
 have B1 := bT (hb0 _) b1
 clear b1 hb0 C1
 by_cases hM : M < 0
 ·have e1 := dU HL hM
  subst e1
  go_wp2
  go_ret
  exact ⟨rfl, B1⟩
 ·go_wp2
  go_ret
  exact ⟨rfl, B1⟩
set_option maxHeartbeats 2000000 in
theorem eqWord_yes (p q : Nst Wd) (w : World) (hm : p.m = q.m) (h : Ns w (Sv Wd.acks p) p.m.acks) (h' : Ns w (Sv Wd.acks q) q.m.acks) :
  Calls Tryz.prog 197 #[.agg #[.string p.m.data, .slice p.a p.m.acks.length p.c, .bool p.m.done], .agg #[.string q.m.data, .slice q.a q.m.acks.length q.c, .bool q.m.done]] w fun r w' => r = .returned (.bool true) ∧ Below w.heap.size w w' := by
 obtain ⟨pa, pc, m⟩ := p
 obtain ⟨qa, qc, m'⟩ := q
 cases hm
 have hb0 : ∀ o o', Below w.heap.size w ((w.alloc o).alloc o') := fun o o' => ((Below.refl _ _).alloc (Nat.le_refl _) o).alloc (by simp) o'
 have C1 := dH fun o o' => eqIntS_yes _ _ m.acks ((w.alloc o).alloc o') (h.below (hb0 o o')) (h'.below (hb0 o o'))
 unfold Sv at C1
 clear h h'
 simp only at *
 obtain ⟨yd, yn, yb⟩ := m
 simp only at *
 have X0 := (Bx.new w [.string yd, .slice pa yn.length pc, .bool yb] 209).below ((Below.refl _ _).alloc (Nat.le_refl _) (.cells #[.string yd, .slice qa yn.length qc, .bool yb] 209))
 have Y0 := Bx.new (w.alloc (.cells #[.string yd, .slice pa yn.length pc, .bool yb] 209)) [.string yd, .slice qa yn.length qc, .bool yb] 209
 have e1 : (w.alloc (.cells #[.string yd, .slice pa yn.length pc, .bool yb] 209)).heap.size = w.heap.size + 1 := by simp
 rw [e1] at Y0
 clear e1
 go_enter Tryz.func197, Tryz.ntmps197
 go_wp2_with fail
 refine (dU C1 _ _).mono ?_
 rintro e w1 ⟨rfl, b1⟩
 have B1 := bT (hb0 _ _) b1
 have X1 := X0.below b1
 have Y1 := Y0.below b1
 have k2 := X1 2 _ rfl
 have j2 := Y1 2 _ rfl
 clear X0 Y0 b1 hb0 C1 X1 Y1
 go_wp2
 go_ret
 exact ⟨rfl, B1⟩
set_option maxHeartbeats 4000000 in
theorem eqWordS_ (u v : Value) (m : List Wd) (w : World) (hu : RdWordS u m w) (hv : RdWordS v m w) :
  Calls Tryz.prog 150 #[u, v] w fun e w' => e = .returned (.bool true) ∧ Below w.heap.size w w' := by
 obtain ⟨rs, e1, hr, hn⟩ := hu
 obtain ⟨ss, e2, hs, hp⟩ := hv
 have el : rs.length = ss.length := by rw [← List.length_map (f := Nst.m), e1, ← e2, List.length_map]
 have em : Hid (∀ k (h : k < rs.length) (h' : k < ss.length), rs[k].m = ss[k].m) := fun k h h' => by
  have q1 : (rs.map Nst.m)[k]? = (ss.map Nst.m)[k]? := by rw [e1, e2]
  rw [List.getElem?_map, List.getElem?_map, List.getElem?_eq_getElem h, List.getElem?_eq_getElem h'] at q1
  simpa using q1
 have HU := dH fun W (hb : Below w.heap.size w W) => hr.below hb
 have HV := dH fun W (hb : Below w.heap.size w W) => hs.below hb
 have HN := dH fun W (hb : Below w.heap.size w W) k (hk : k < rs.length) => (hn _ (List.getElem_mem hk)).below hb
 have HP := dH fun W (hb : Below w.heap.size w W) k (hk : k < ss.length) => (hp _ (List.getElem_mem hk)).below hb
 obtain ⟨h0, a, cap, rfl, -, -⟩ := hr
 obtain ⟨h0', a', cap', rfl, -, -⟩ := hs
 rw [← el]
 have EL := dH el
 clear hn hp e1 e2 el h0'
 go_enter Tryz.func150, Tryz.ntmps150
 go_wp2
 go_loopw [5] (fun i wr => ∃ k : Nat, i = .int .i64 (k : Int) ∧ k ≤ rs.length ∧ Below w.heap.size w wr) (fun i _ => rs.length - (intOf i).toNat)
 case atStart => exact ⟨0, rfl, Nat.zero_le _, Below.refl _ _⟩
 case round =>
  obtain ⟨k, rfl, hk, hb⟩ := hrel
  by_cases hlt : (k : Int) < (rs.length : Int)
  ·have hkl : k < rs.length := by omega
   have hkl' : k < ss.length := by rw [← dU EL]; exact hkl
   obtain ⟨b, off, rfl, hc⟩ := (dU HU wr hb).word hkl
   obtain ⟨b', off', rfl, hc'⟩ := (dU HV wr hb).word hkl'
   have E1 := dH (hc k hkl)
   have E2 := dH (hc' k hkl')
   obtain ⟨c0, c1, c2⟩ := hc k hkl
   obtain ⟨e0, e1, e2⟩ := hc' k hkl'
   have CE := dH fun W (hB : Below wr.heap.size wr W) => eqWord_yes rs[k] ss[k] W (dU em k hkl hkl') (dU HN W (bT hb hB) k hkl) (dU HP W (bT hb hB) k hkl')
   generalize rs[k] = y at *
   generalize ss[k] = y' at *
   obtain ⟨ya, yc, yd, yn, yb⟩ := y
   obtain ⟨za, zc, zd, zn, zb⟩ := y'
   unfold WdAt at E1 E2
   simp only at *
   clear hc hc' HU HV HN HP em
   have hbr : Below wr.heap.size wr wr.drew := (Below.refl _ _).drew
   go_wp2_with fail
   go_region_held3 (fun W => (W.cell? ⟨b, off + k * 3, none⟩ = some (.string yd) ∧ W.cell? ⟨b, off + k * 3 + 1, none⟩ = some (.slice ya yn.length yc) ∧ W.cell? ⟨b, off + k * 3 + 2, none⟩ = some (.bool yb)) ∧ W.cell? ⟨b', off' + k * 3, none⟩ = some (.string zd) ∧ W.cell? ⟨b', off' + k * 3 + 1, none⟩ = some (.slice za zn.length zc) ∧ W.cell? ⟨b', off' + k * 3 + 2, none⟩ = some (.bool zb)) (first | exact ⟨WdAt.below (p := ⟨ya, yc, yd, yn, yb⟩) (dU E1) hb5, WdAt.below (p := ⟨za, zc, zd, zn, zb⟩) (dU E2) hb5⟩ | go_keep)
    (first
     | (go_at_call 197; refine (dU CE _ hbr).mono ?_; rintro r w5 ⟨rfl, b5⟩; have hb5 := bT hbr b5))
   all_goals
    go_wp2
    go_roundw
    case rel => exact ⟨k + 1, by go_num, by omega, bT hb hb5⟩
    case measure => simp [intOf]; omega
  ·clear HU HV HN HP em
   go_wp2
   go_ret
   exact ⟨rfl, hb⟩
set_option maxHeartbeats 2000000 in
theorem eqWriter_ (u v : Value) (m : Wt) (w : World) (hu : RdWriter u m w) (hv : RdWriter v m w) :
  Calls Tryz.prog 87 #[u, v] w fun e w' => e = .returned (.bool true) ∧ Below w.heap.size w w' := by
 have hb0 : ∀ o o', Below w.heap.size w ((w.alloc o).alloc o') := fun o o' => ((Below.refl _ _).alloc (Nat.le_refl _) o).alloc (by simp) o'
 obtain ⟨su, rfl, hu⟩ := hu
 obtain ⟨sv, rfl, hv⟩ := hv
 have C1 := dH fun W (hb : Below w.heap.size w W) => eqWordS_ su sv m.words W (RdK.below hu hb) (RdK.below hv hb)
 obtain ⟨a, cap, rfl, -⟩ := formK hu
 obtain ⟨a', cap', rfl, -⟩ := formK hv
 generalize m.epoch = sl at *
 have X0 := (Bx.new w [.int .i64 sl, .slice a m.words.length cap] 130).below ((Below.refl _ _).alloc (Nat.le_refl _) (.cells #[.int .i64 sl, .slice a' m.words.length cap'] 130))
 have Y0 := Bx.new (w.alloc (.cells #[.int .i64 sl, .slice a m.words.length cap] 130)) [.int .i64 sl, .slice a' m.words.length cap'] 130
 have e1 : (w.alloc (.cells #[.int .i64 sl, .slice a m.words.length cap] 130)).heap.size = w.heap.size + 1 := by simp
 rw [e1] at Y0
 clear e1 hu hv
 go_enter Tryz.func87, Tryz.ntmps87
 go_wp2_with fail
 refine (dU C1 _ (hb0 _ _)).mono ?_
 rintro e w1 ⟨rfl, b1⟩
 have B1 := bT (hb0 _ _) b1
 clear X0 Y0 b1 hb0 C1
 go_wp2
 go_ret
 exact ⟨rfl, B1⟩
theorem elemN : Elem (α := Int) 3 22 (.int .i64 0) 1 8 (fun x => [.int .i64 x]) where
 under := Tryz.underlying22
 info := by kernel_rfl
 zcells := by kernel_rfl
 pos := by decide
 len := fun _ => rfl
 one := fun a u hu => by simp at hu; subst hu; rfl
theorem OwnRw.n1 {w : World} {base : Nat} {v : Value} {xs : List Int} (h : OwnRw 1 (fun x => [.int .i64 x]) w base v xs) : OwnN w base v xs := by
 obtain ⟨h0, a, cap, rfl, hcap, h⟩ := h
 refine ⟨h0, a, cap, rfl, hcap, ?_⟩
 rcases h with h | ⟨b, off, rfl, hb, hc⟩
 ·exact .inl h
 ·exact .inr ⟨b, off, rfl, hb, fun i hi => by simpa using hc i hi 0 _ rfl⟩
theorem OwnN.grown {w w' : World} {base : Nat} {v : Value} {xs : List Int} {row : Option Nat} (h : OwnN w base v xs) (g : w.grownBy w' row) (hn : xs = [] ∨ row ≠ some (bO v)) : OwnN w' base v xs := by
 have hlt := h.bs.lt
 obtain ⟨h0, a, cap, rfl, hcap, h⟩ := h
 refine ⟨h0, a, cap, rfl, hcap, ?_⟩
 rcases hn with hn | hn
 ·exact .inl hn
 ·rcases h with h | ⟨b, off, rfl, hb, hc⟩
  ·exact .inl h
  ·rcases hlt with hlt | hlt
   ·exact .inl hlt
   ·have e := g.block b hlt (fun e => hn e.symm)
    exact .inr ⟨b, off, rfl, hb, fun i hi => ⟨(World.cell?_of_block (a := ⟨b, off + i, none⟩) e).trans (hc i hi).1, (World.frozen?_of_block (a := ⟨b, off + i, none⟩) e).trans (hc i hi).2⟩⟩
end Go.Proofs.YtkiclbbialadlaaGreat
