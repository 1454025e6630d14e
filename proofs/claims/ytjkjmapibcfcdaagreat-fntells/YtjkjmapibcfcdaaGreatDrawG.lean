/- Drawn entries, right or not. -/
import Derived.Test.YtjkjmapibcfcdaaGreatGz21
import Derived.Test.YtjkjmapibcfcdaaGreatGaT
import Derived.Laws.OwnMore
namespace Go.Proofs.YtjkjmapibcfcdaaGreat
open Go.ChangeShapes Go.WideShapes Go.ChangeAt Go.RowKit
set_option linter.unusedVariables false

theorem zeros_new (w : World) (n : Nat) (hn : n ≤ 1000) : ∃ (W : World) (S : ByteArray), (Instr.makeSlice 22 (.int .i64 (n : Int)) (.int .i64 (n : Int))).run Tryz.prog w = .ok (.slice (some ⟨w.heap.size, 0, none⟩) n n) W ∧
  (convert 22 9 (.slice (some ⟨w.heap.size, 0, none⟩) n n)).run Tryz.prog W = .ok (.string S) W ∧ S.size = n ∧ Below w.heap.size w W := by
 obtain ⟨i0, hi, hz0, hz1, hz2⟩ := info_parts info8a
 obtain ⟨W, hmk, hown, hg⟩ := run_makeSlice_full (P := Tryz.prog) w w.heap.size 22 5 i0 (.int .u8 0) 1 Tryz.underlying22 hi hz0 hz1 .i64 .i64 n (by omega) (by rw [hz2]; omega) (by unfold maxLen; omega) (Nat.le_refl _)
 have e : (madeCells (Value.int .u8 0).cells (n * 1)).toList = bcells (List.replicate n 0) := by
  show (madeCells #[Value.int .u8 0] (n * 1)).toList = _
  rw [toList_madeCells_one, Nat.mul_one]
  simp [bcells]
 rw [e] at hown
 have ho := ownB_of_row hown
 obtain ⟨h0, a, cap, hs, hcap, h⟩ := ho
 injection hs with h1 h2 h3
 have hl : (List.replicate n (0 : UInt8)).length = n := by simp
 refine ⟨W, ⟨(List.replicate n (0 : UInt8)).toArray⟩, hmk, ?_, by show (List.replicate n (0 : UInt8)).toArray.size = n; simp, (Below.refl _ _).grown hg (Nat.le_refl _) (fun k hk => by cases hk)⟩
 rcases h with h | ⟨b, off, h, hb, hc⟩
 ·obtain rfl : n = 0 := by rw [← hl, h]; rfl
  exact conv_none w.heap.size 0 0
 ·rw [← h1] at h
  cases h
  have hcut := conv_cut (w := W) (b := w.heap.size) (off := 0) (p := 0) (n := n) (cap := n) (bs := List.replicate n (0 : UInt8)) (fun i hi => (hc i hi).1) (by simp)
  have et : ((List.replicate n (0 : UInt8)).drop 0).take n = List.replicate n 0 := by rw [List.drop_zero, List.take_of_length_le (by simp)]
  rw [et] at hcut
  exact hcut
theorem Ent.fits_of {e : Ent} (h : entP e) : e.fits := by
 obtain ⟨⟨p0, p1, p2, p3, p4⟩, v0, v1, hv, hd, hh⟩ := h
 exact ⟨by omega, by omega, by omega, by omega, by omega⟩
set_option maxHeartbeats 2000000 in
theorem l3Draw_any (bk : Nat) (w : World) (hc : Cur w bk) :
  Calls Tryz.prog 25 #[.pointer (some ⟨bk, 0, none⟩)] w fun r w' => (∃ e : Ent, (e.fits ∧ e.data.size ≤ 41) ∧ r = .returned e.val) ∧ Cur w' bk ∧ Drawn bk w w' := by
 have hlt := hc.lt
 have ha : ∀ o, Below w.heap.size w (w.alloc o) := fun o => (Below.refl _ _).alloc (Nat.le_refl _) o
 go_enter Tryz.func25, Tryz.ntmps25
 go_wp2_with fail
 have Z0 := FourZ.fresh w (.int .i64 0) (.int .i64 0) (.bool false) (.string ⟨#[]⟩) 36
 have hc0 := hc.below (ha (.cells #[.int .i64 0, .int .i64 0, .bool false, .string ⟨#[]⟩] 36))
 have D0 := Drawn.of_below (bk := bk) (ha (.cells #[.int .i64 0, .int .i64 0, .bool false, .string ⟨#[]⟩] 36))
 refine (l3DrawRight_any bk _ hc0).mono ?_
 rintro e w1 ⟨⟨m, hm, rfl⟩, hc1, hd1⟩
 obtain ⟨m1, m2, m3, m4, -⟩ := Ent.fits_of hm
 have m5 : m.data.size ≤ 40 := hm.2.2.2.2.1
 obtain ⟨P, WV, HO, T⟩ := m
 simp only [Ent.val] at *
 clear hm
 have Z1 := Z0.drawn hd1 (by omega)
 have D1 := D0.trans hd1
 clear Z0 D0 hc0 hd1 ha hc
 go_wp2_with fail
 have ha3 : ∀ o, Below w1.heap.size w1 (w1.alloc o) := fun o => (Below.refl _ _).alloc (Nat.le_refl _) o
 have E2 := FourZ.fresh w1 (.int .i64 P) (.int .i64 WV) (.bool HO) (.string T) 36
 have Z2 := Z1.kept (ha3 (.cells #[.int .i64 P, .int .i64 WV, .bool HO, .string T] 36))
 have hc2 := hc1.below (ha3 (.cells #[.int .i64 P, .int .i64 WV, .bool HO, .string T] 36))
 have D2 := D1.trans (Drawn.of_below (ha3 (.cells #[.int .i64 P, .int .i64 WV, .bool HO, .string T] 36)))
 have hR := dCell_lt Z1.2.1.1
 generalize hbe : w1.heap.size = be at *
 generalize w1.alloc (.cells #[.int .i64 P, .int .i64 WV, .bool HO, .string T] 36) = w2 at *
 clear ha3 hbe Z1 D1 hc1
 refine (l1Below_any bk 15 (by omega) (by omega) _ hc2).mono ?_
 rintro e w3 ⟨⟨z, hz, rfl⟩, hc3, hd3⟩
 have E3 := E2.drawn hd3 (by omega)
 have Z3 := Z2.drawn hd3 (by omega)
 have D3 := D2.trans hd3
 clear E2 Z2 D2 hd3 hc2
 obtain ⟨-, ⟨a0, a1, a2, a3⟩, y0, y1, y2, y3⟩ := id E3
 by_cases z0 : ((z : Int) == 0) = true
 ·go_wp2_with fail
  refine (l1DrawPlace_any bk _ hc3).mono ?_
  rintro e w4 ⟨⟨x, hx, rfl⟩, hc4, hd4⟩
  obtain ⟨x1, x2⟩ := hx
  have E4 := E3.drawn hd4 (by omega)
  have Z4 := Z3.drawn hd4 (by omega)
  have D4 := D3.trans hd4
  clear E3 Z3 D3 hd4 hc3 a0 a1 a2 a3 y0 y1 y2 y3
  obtain ⟨-, ⟨a0, a1, a2, a3⟩, y0, y1, y2, y3⟩ := id E4
  have E5 := E4.put0 (.int .i64 x)
  have Z5 := Z4.far (b' := be) (o := 0) (by omega) (.int .i64 x)
  have hc5 := hc4.setNew (b := be) (by omega) 0 (.int .i64 x)
  have D5 := D4.setNew (b := be) (by omega) 0 (.int .i64 x)
  obtain ⟨-, ⟨e0, e1, e2, e3⟩, -⟩ := id E5
  obtain ⟨-, ⟨r0, r1, r2, r3⟩, g0, g1, g2, g3⟩ := id Z5
  go_wp2
  obtain ⟨f0, f1, f2, f3⟩ := FourZ.set Z5 (.int .i64 (x)) (.int .i64 (WV)) (.bool HO) (.string T)
  have hcE := (((hc5.setNew (b := w.heap.size) hlt 0 (.int .i64 (x))).setNew (b := w.heap.size) hlt 1 (.int .i64 (WV))).setNew (b := w.heap.size) hlt 2 (.bool HO)).setNew (b := w.heap.size) hlt 3 (.string T)
  have hdE := (((D5.setNew (b := w.heap.size) (Nat.le_refl _) 0 (.int .i64 (x))).setNew (b := w.heap.size) (Nat.le_refl _) 1 (.int .i64 (WV))).setNew (b := w.heap.size) (Nat.le_refl _) 2 (.bool HO)).setNew (b := w.heap.size) (Nat.le_refl _) 3 (.string T)
  generalize (((((w4.setCell ⟨be, 0, none⟩ (.int .i64 x)).setCell ⟨w.heap.size, 0, none⟩ (.int .i64 (x))).setCell ⟨w.heap.size, 1, none⟩ (.int .i64 (WV))).setCell ⟨w.heap.size, 2, none⟩ (.bool HO)).setCell ⟨w.heap.size, 3, none⟩ (.string T)) = V at *
  refine bodyPost_ret (v := (⟨x, WV, HO, T⟩ : Ent).val) (by simp [results, Tryz.results25, go_sem, f0, f1, f2, f3, Ent.val]) rfl ⟨⟨_, ⟨⟨by simp only; omega, by simp only; omega, by simp only; omega, by simp only; omega, by simp only; omega⟩, by simp only; omega⟩, rfl⟩, hcE, hdE⟩
 ·have z0' : ((z : Int) == 0) = false := by simpa using z0
  clear z0
  by_cases z1 : ((z : Int) == 1) = true
  ·go_wp2_with fail
   refine (pick_new hc3 [-1, 1, 30, 31] _ (by simp) (by simp) _).mono ?_
   rintro e w4 ⟨⟨x, hx, rfl⟩, hc4, hd4⟩
   have hx0 : -1 ≤ x ∧ x ≤ 31 := by
    simp only [List.mem_cons, List.mem_nil_iff, or_false] at hx
    omega
   clear hx
   have E4 := E3.drawn hd4 (by omega)
   have Z4 := Z3.drawn hd4 (by omega)
   have D4 := D3.trans hd4
   clear E3 Z3 D3 hd4 hc3 a0 a1 a2 a3 y0 y1 y2 y3
   obtain ⟨-, ⟨a0, a1, a2, a3⟩, y0, y1, y2, y3⟩ := id E4
   have E5 := E4.put1 (.int .i64 x)
   have Z5 := Z4.far (b' := be) (o := 1) (by omega) (.int .i64 x)
   have hc5 := hc4.setNew (b := be) (by omega) 1 (.int .i64 x)
   have D5 := D4.setNew (b := be) (by omega) 1 (.int .i64 x)
   obtain ⟨-, ⟨e0, e1, e2, e3⟩, -⟩ := id E5
   obtain ⟨-, ⟨r0, r1, r2, r3⟩, g0, g1, g2, g3⟩ := id Z5
   go_wp2
   obtain ⟨f0, f1, f2, f3⟩ := FourZ.set Z5 (.int .i64 (P)) (.int .i64 (x)) (.bool HO) (.string T)
   have hcE := (((hc5.setNew (b := w.heap.size) hlt 0 (.int .i64 (P))).setNew (b := w.heap.size) hlt 1 (.int .i64 (x))).setNew (b := w.heap.size) hlt 2 (.bool HO)).setNew (b := w.heap.size) hlt 3 (.string T)
   have hdE := (((D5.setNew (b := w.heap.size) (Nat.le_refl _) 0 (.int .i64 (P))).setNew (b := w.heap.size) (Nat.le_refl _) 1 (.int .i64 (x))).setNew (b := w.heap.size) (Nat.le_refl _) 2 (.bool HO)).setNew (b := w.heap.size) (Nat.le_refl _) 3 (.string T)
   generalize (((((w4.setCell ⟨be, 1, none⟩ (.int .i64 x)).setCell ⟨w.heap.size, 0, none⟩ (.int .i64 (P))).setCell ⟨w.heap.size, 1, none⟩ (.int .i64 (x))).setCell ⟨w.heap.size, 2, none⟩ (.bool HO)).setCell ⟨w.heap.size, 3, none⟩ (.string T)) = V at *
   refine bodyPost_ret (v := (⟨P, x, HO, T⟩ : Ent).val) (by simp [results, Tryz.results25, go_sem, f0, f1, f2, f3, Ent.val]) rfl ⟨⟨_, ⟨⟨by simp only; omega, by simp only; omega, by simp only; omega, by simp only; omega, by simp only; omega⟩, by simp only; omega⟩, rfl⟩, hcE, hdE⟩
  ·have z1' : ((z : Int) == 1) = false := by simpa using z1
   clear z1
   by_cases z2 : ((z : Int) == 2) = true
   ·have E5 := E3.put2 (.bool true)
    have Z5 := Z3.far (b' := be) (o := 2) (by omega) (.bool true)
    have hc5 := hc3.setNew (b := be) (by omega) 2 (.bool true)
    have D5 := D3.setNew (b := be) (by omega) 2 (.bool true)
    obtain ⟨-, ⟨e0, e1, e2, e3⟩, -⟩ := id E5
    obtain ⟨-, ⟨r0, r1, r2, r3⟩, g0, g1, g2, g3⟩ := id Z5
    go_wp2
    obtain ⟨f0, f1, f2, f3⟩ := FourZ.set Z5 (.int .i64 (P)) (.int .i64 (WV)) (.bool true) (.string T)
    have hcE := (((hc5.setNew (b := w.heap.size) hlt 0 (.int .i64 (P))).setNew (b := w.heap.size) hlt 1 (.int .i64 (WV))).setNew (b := w.heap.size) hlt 2 (.bool true)).setNew (b := w.heap.size) hlt 3 (.string T)
    have hdE := (((D5.setNew (b := w.heap.size) (Nat.le_refl _) 0 (.int .i64 (P))).setNew (b := w.heap.size) (Nat.le_refl _) 1 (.int .i64 (WV))).setNew (b := w.heap.size) (Nat.le_refl _) 2 (.bool true)).setNew (b := w.heap.size) (Nat.le_refl _) 3 (.string T)
    generalize (((((w3.setCell ⟨be, 2, none⟩ (.bool true)).setCell ⟨w.heap.size, 0, none⟩ (.int .i64 (P))).setCell ⟨w.heap.size, 1, none⟩ (.int .i64 (WV))).setCell ⟨w.heap.size, 2, none⟩ (.bool true)).setCell ⟨w.heap.size, 3, none⟩ (.string T)) = V at *
    refine bodyPost_ret (v := (⟨P, WV, true, T⟩ : Ent).val) (by simp [results, Tryz.results25, go_sem, f0, f1, f2, f3, Ent.val]) rfl ⟨⟨_, ⟨⟨by simp only; omega, by simp only; omega, by simp only; omega, by simp only; omega, by simp only; omega⟩, by simp only; omega⟩, rfl⟩, hcE, hdE⟩
   ·have z2' : ((z : Int) == 2) = false := by simpa using z2
    clear z2
    by_cases z3 : ((z : Int) == 3) = true
    ·go_wp2_with fail
     refine (l1Below_any bk 2 (by omega) (by omega) _ hc3).mono ?_
     rintro e w4 ⟨⟨y, hy, rfl⟩, hc4, hd4⟩
     obtain ⟨W5, S, hmk, hcv, hS, hbz⟩ := zeros_new w4 (40 + y) (by omega)
     have E4 := (E3.drawn hd4 (by omega)).kept hbz
     have Z4 := (Z3.drawn hd4 (by omega)).kept hbz
     have D4 := (D3.trans hd4).trans (Drawn.of_below hbz)
     have hc4 := hc4.below hbz
     rw [show ((40 + y : Nat) : Int) = 40 + (y : Int) by push_cast; rfl] at hmk
     clear E3 Z3 D3 hd4 hc3 a0 a1 a2 a3 y0 y1 y2 y3 hbz
     obtain ⟨-, ⟨a0, a1, a2, a3⟩, y0, y1, y2, y3⟩ := id E4
     have E5 := E4.put3 (.string S)
     have Z5 := Z4.far (b' := be) (o := 3) (by omega) (.string S)
     have hc5 := hc4.setNew (b := be) (by omega) 3 (.string S)
     have D5 := D4.setNew (b := be) (by omega) 3 (.string S)
     obtain ⟨-, ⟨e0, e1, e2, e3⟩, -⟩ := id E5
     obtain ⟨-, ⟨r0, r1, r2, r3⟩, g0, g1, g2, g3⟩ := id Z5
     go_wp2
     obtain ⟨f0, f1, f2, f3⟩ := FourZ.set Z5 (.int .i64 (P)) (.int .i64 (WV)) (.bool HO) (.string S)
     have hcE := (((hc5.setNew (b := w.heap.size) hlt 0 (.int .i64 (P))).setNew (b := w.heap.size) hlt 1 (.int .i64 (WV))).setNew (b := w.heap.size) hlt 2 (.bool HO)).setNew (b := w.heap.size) hlt 3 (.string S)
     have hdE := (((D5.setNew (b := w.heap.size) (Nat.le_refl _) 0 (.int .i64 (P))).setNew (b := w.heap.size) (Nat.le_refl _) 1 (.int .i64 (WV))).setNew (b := w.heap.size) (Nat.le_refl _) 2 (.bool HO)).setNew (b := w.heap.size) (Nat.le_refl _) 3 (.string S)
     generalize (((((W5.setCell ⟨be, 3, none⟩ (.string S)).setCell ⟨w.heap.size, 0, none⟩ (.int .i64 (P))).setCell ⟨w.heap.size, 1, none⟩ (.int .i64 (WV))).setCell ⟨w.heap.size, 2, none⟩ (.bool HO)).setCell ⟨w.heap.size, 3, none⟩ (.string S)) = V at *
     refine bodyPost_ret (v := (⟨P, WV, HO, S⟩ : Ent).val) (by simp [results, Tryz.results25, go_sem, f0, f1, f2, f3, Ent.val]) rfl ⟨⟨_, ⟨⟨by simp only; omega, by simp only; omega, by simp only; omega, by simp only; omega, by simp only; omega⟩, by simp only; omega⟩, rfl⟩, hcE, hdE⟩
    ·have z3' : ((z : Int) == 3) = false := by simpa using z3
     clear z3
     obtain ⟨-, ⟨e0, e1, e2, e3⟩, -⟩ := id E3
     obtain ⟨-, ⟨r0, r1, r2, r3⟩, g0, g1, g2, g3⟩ := id Z3
     go_wp2
     obtain ⟨f0, f1, f2, f3⟩ := FourZ.set Z3 (.int .i64 (P)) (.int .i64 (WV)) (.bool HO) (.string T)
     have hcE := (((hc3.setNew (b := w.heap.size) hlt 0 (.int .i64 (P))).setNew (b := w.heap.size) hlt 1 (.int .i64 (WV))).setNew (b := w.heap.size) hlt 2 (.bool HO)).setNew (b := w.heap.size) hlt 3 (.string T)
     have hdE := (((D3.setNew (b := w.heap.size) (Nat.le_refl _) 0 (.int .i64 (P))).setNew (b := w.heap.size) (Nat.le_refl _) 1 (.int .i64 (WV))).setNew (b := w.heap.size) (Nat.le_refl _) 2 (.bool HO)).setNew (b := w.heap.size) (Nat.le_refl _) 3 (.string T)
     generalize ((((w3.setCell ⟨w.heap.size, 0, none⟩ (.int .i64 (P))).setCell ⟨w.heap.size, 1, none⟩ (.int .i64 (WV))).setCell ⟨w.heap.size, 2, none⟩ (.bool HO)).setCell ⟨w.heap.size, 3, none⟩ (.string T)) = V at *
     refine bodyPost_ret (v := (⟨P, WV, HO, T⟩ : Ent).val) (by simp [results, Tryz.results25, go_sem, f0, f1, f2, f3, Ent.val]) rfl ⟨⟨_, ⟨⟨by simp only; omega, by simp only; omega, by simp only; omega, by simp only; omega, by simp only; omega⟩, by simp only; omega⟩, rfl⟩, hcE, hdE⟩
end Go.Proofs.YtjkjmapibcfcdaaGreat
