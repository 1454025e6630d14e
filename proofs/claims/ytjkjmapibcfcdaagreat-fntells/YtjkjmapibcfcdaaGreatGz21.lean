/- Several texts in one: DrawB, DrawF. -/
import Derived.Test.YtjkjmapibcfcdaaGreatGaA
import Derived.Test.YtjkjmapibcfcdaaGreatGz18
import Derived.Test.YtjkjmapibcfcdaaGreatGaT
import Derived.Test.YtjkjmapibcfcdaaGreatGbE
namespace Go.Proofs.YtjkjmapibcfcdaaGreat
open Go.ChangeShapes Go.WideShapes Go.ChangeAt Go.RowKit
set_option linter.unusedVariables false
set_option maxHeartbeats 400000 in
theorem l1PickInt_any (bk b off cap : Nat) (vs : List Int) (w : World) (h1 : 1 ≤ vs.length) (h2 : vs.length ≤ 1000000) (hv : ∀ i (h : i < vs.length), w.cell? ⟨b, off + i, none⟩ = some (.int .i64 vs[i])) (hb : b ≠ bk) (hc : Cur w bk) :
  Calls Tryz.prog 72 #[.pointer (some ⟨bk, 0, none⟩), .slice (some ⟨b, off, none⟩) vs.length cap] w fun e w' => (∃ v, v ∈ vs ∧ e = .returned (.int .i64 v)) ∧ Cur w' bk ∧ Drawn bk w w' := by
 have HV := dH hv
 clear hv
 go_enter Tryz.func72, Tryz.ntmps72
 go_wp2_with fail
 refine (l1Below_any bk vs.length h1 (by omega) w hc).mono ?_
 rintro e w1 ⟨⟨x, hx, rfl⟩, hc1, hd1⟩
 have hcell := hd1.cell (dU HV x hx) hb
 have hm := List.getElem_mem hx
 generalize vs[x] = v at *
 go_wp2
 go_ret
 exact ⟨⟨v, hm, rfl⟩, hc1, hd1⟩
theorem l1Once_any (bk n : Nat) (h1 : 1 ≤ n) (h2 : n ≤ 1000000) (w : World) (hc : Cur w bk) :
  Calls Tryz.prog 23 #[.pointer (some ⟨bk, 0, none⟩), .int .i64 n] w fun e w' => (∃ b : Bool, e = .returned (.bool b)) ∧ Cur w' bk ∧ Drawn bk w w' := by
 go_enter Tryz.func23, Tryz.ntmps23
 go_wp2_with fail
 refine (l1Below_any bk n h1 (by omega) w hc).mono ?_
 rintro e w1 ⟨⟨x, hx, rfl⟩, hc1, hd1⟩
 go_wp2
 go_ret
 exact ⟨⟨_, rfl⟩, hc1, hd1⟩
theorem l1Place_in (a b : Int) (h1 : 0 ≤ a) (h2 : a ≤ 1000) (h3 : 0 ≤ b) (h4 : b ≤ 1000) (w : World) :
  Calls Tryz.prog 27 #[.int .i64 a, .int .i64 b] w fun e w' => e = .returned (.int .i64 (4294967296 * a + b)) ∧ w = w' := by
 go_enter Tryz.func27, Tryz.ntmps27
 go_wp2
 go_ret
 exact ⟨rfl, rfl⟩
def I64 (x : Int) : Prop := -9223372036854775808 ≤ x ∧ x ≤ 9223372036854775807
theorem pick_new {bk : Nat} {w : World} (hc : Cur w bk) (vs : List Int) (T : TypeId) (h1 : 1 ≤ vs.length) (h2 : vs.length ≤ 1000000) (cap : Nat) :
  Calls Tryz.prog 72 #[.pointer (some ⟨bk, 0, none⟩), .slice (some ⟨w.heap.size, 0, none⟩) vs.length cap] (w.alloc (.cells (vs.map (Value.int .i64)).toArray T)) fun e w' => (∃ v, v ∈ vs ∧ e = .returned (.int .i64 v)) ∧ Cur w' bk ∧ Drawn bk w w' := by
 have hb : Below w.heap.size w (w.alloc (.cells (vs.map (Value.int .i64)).toArray T)) := (Below.refl _ _).alloc (Nat.le_refl _) _
 have hlt := hc.lt
 refine (l1PickInt_any bk w.heap.size 0 cap vs _ h1 h2 (fun i h => ?_) (by omega) (hc.below hb)).mono fun e w' ⟨h, k, d⟩ => ⟨h, k, (Drawn.of_below hb).trans d⟩
 simp
set_option maxHeartbeats 1000000 in
theorem l1DrawPlace_any (bk : Nat) (w : World) (hc : Cur w bk) :
  Calls Tryz.prog 71 #[.pointer (some ⟨bk, 0, none⟩)] w fun e w' => (∃ x, I64 x ∧ e = .returned (.int .i64 x)) ∧ Cur w' bk ∧ Drawn bk w w' := by
 go_enter Tryz.func71, Tryz.ntmps71
 go_wp2_with fail
 refine (l1Below_any bk 3 (by omega) (by omega) w hc).mono ?_
 rintro e w1 ⟨⟨x, hx, rfl⟩, hc1, hd1⟩
 go_wp2_with fail
 refine (l1Below_any bk 6 (by omega) (by omega) w1 hc1).mono ?_
 rintro e w2 ⟨⟨y, hy, rfl⟩, hc2, hd2⟩
 go_wp2_with (go_at_call 27; refine (l1Place_in _ _ (by omega) (by omega) (by omega) (by omega) _).mono ?_; rintro e w3 ⟨rfl, rfl⟩)
 refine (l1Below_any bk 15 (by omega) (by omega) w2 hc2).mono ?_
 rintro e w3 ⟨⟨z, hz, rfl⟩, hc3, hd3⟩
 have hd := (hd1.trans hd2).trans hd3
 clear hc hc1 hc2 hd1 hd2 hd3
 by_cases z0 : ((z : Int) == 0) = true
 ·go_wp2_with fail
  refine (pick_new hc3 [0, -1, 4294967296, 4294967297, 9223372036854775807, -9223372036854775808] _ (by simp) (by simp) _).mono ?_
  rintro e w4 ⟨⟨v, hv, rfl⟩, hc4, hd4⟩
  have hI : I64 v := by
   simp only [List.mem_cons, List.mem_nil_iff, or_false] at hv
   unfold I64; omega
  clear hv
  go_wp2
  go_ret
  exact ⟨⟨v, hI, rfl⟩, hc4, hd.trans hd4⟩
 ·have z0' : ((z : Int) == 0) = false := by simpa using z0
  clear z0
  by_cases z1 : ((z : Int) == 1) = true
  ·go_wp2_with fail
   refine (pick_new hc3 [0, 30, 31] _ (by simp) (by simp) _).mono ?_
   rintro e w4 ⟨⟨v, hv, rfl⟩, hc4, hd4⟩
   have hv0 : 0 ≤ v ∧ v ≤ 100 := by
    simp only [List.mem_cons, List.mem_nil_iff, or_false] at hv
    omega
   clear hv
   go_wp2_with fail
   refine (pick_new hc4 [0, 60, 61] _ (by simp) (by simp) _).mono ?_
   rintro e w5 ⟨⟨u, hu, rfl⟩, hc5, hd5⟩
   have hu0 : 0 ≤ u ∧ u ≤ 100 := by
    simp only [List.mem_cons, List.mem_nil_iff, or_false] at hu
    omega
   clear hu
   go_wp2_with (go_at_call 27; refine (l1Place_in _ _ (by omega) (by omega) (by omega) (by omega) _).mono ?_; rintro e w6 ⟨rfl, rfl⟩)
   go_ret
   exact ⟨⟨_, by unfold I64; omega, rfl⟩, hc5, (hd.trans hd4).trans hd5⟩
  ·have z1' : ((z : Int) == 1) = false := by simpa using z1
   clear z1
   go_wp2
   go_ret
   exact ⟨⟨_, by unfold I64; omega, rfl⟩, hc3, hd⟩
theorem Cur.setNew {bk : Nat} {W : World} (h : Cur W bk) {b : Nat} (hb : bk < b) (o : Nat) (u : Value) : Cur (W.setCell ⟨b, o, none⟩ u) bk :=
 h.grown (grown_set W b o u) (fun k e => by cases e; exact hb)
set_option maxHeartbeats 2000000 in
theorem l3DrawRight_any (bk : Nat) (w : World) (hc : Cur w bk) :
  Calls Tryz.prog 70 #[.pointer (some ⟨bk, 0, none⟩)] w fun r w' => (∃ e : Ent, entP e ∧ r = .returned e.val) ∧ Cur w' bk ∧ Drawn bk w w' := by
 have hlt := hc.lt
 have ha : ∀ o, Below w.heap.size w (w.alloc o) := fun o => (Below.refl _ _).alloc (Nat.le_refl _) o
 go_enter Tryz.func70, Tryz.ntmps70
 go_wp2_with fail
 have Z0 := FourZ.fresh w (.int .i64 0) (.int .i64 0) (.bool false) (.string ⟨#[]⟩) 36
 have hc0 := hc.below (ha (.cells #[.int .i64 0, .int .i64 0, .bool false, .string ⟨#[]⟩] 36))
 have D0 := Drawn.of_below (bk := bk) (ha (.cells #[.int .i64 0, .int .i64 0, .bool false, .string ⟨#[]⟩] 36))
 refine (l1Below_any bk 3 (by omega) (by omega) _ hc0).mono ?_
 rintro e w1 ⟨⟨x, hx, rfl⟩, hc1, hd1⟩
 have Z1 := Z0.drawn hd1 (by omega)
 have D1 := D0.trans hd1
 clear Z0 D0 hc0 hd1 ha hc
 go_wp2_with fail
 refine (l1Below_any bk 6 (by omega) (by omega) _ hc1).mono ?_
 rintro e w2 ⟨⟨y, hy, rfl⟩, hc2, hd2⟩
 have Z2 := Z1.drawn hd2 (by omega)
 have D2 := D1.trans hd2
 clear Z1 D1 hc1 hd2
 go_wp2_with (go_at_call 27; refine (l1Place_in _ _ (by omega) (by omega) (by omega) (by omega) _).mono ?_; rintro e w3 ⟨rfl, rfl⟩)
 refine (pickT_new hc2 [⟨#[]⟩, ⟨#[97]⟩, ⟨#[98, 99]⟩, ⟨#[0]⟩, ⟨#[119, 111, 114, 100]⟩] _ (by simp) (by simp) _).mono ?_
 rintro e w3 ⟨⟨t, ht, rfl⟩, hc3, hd3⟩
 have Z3 := Z2.drawn hd3 (by omega)
 have D3 := D2.trans hd3
 have hts : t.size ≤ 40 := by
  simp only [List.mem_cons, List.mem_nil_iff, or_false] at ht
  rcases ht with rfl | rfl | rfl | rfl | rfl <;> decide
 clear Z2 D2 hc2 hd3 ht
 go_wp2_with fail
 have hP : ∃ P : Int, P = 4294967296 * (1 + (x : Int)) + (1 + (y : Int)) := ⟨_, rfl⟩
 obtain ⟨P, hP⟩ := hP
 rw [← hP]
 have hp : isPl P := by unfold isPl; omega
 have hep : P / 4294967296 ≤ 3 := by omega
 have hep0 : 1 ≤ P / 4294967296 := by omega
 clear hP
 have ha3 : ∀ o, Below w3.heap.size w3 (w3.alloc o) := fun o => (Below.refl _ _).alloc (Nat.le_refl _) o
 have E4 := FourZ.fresh w3 (.int .i64 P) (.int .i64 0) (.bool false) (.string t) 36
 have Z4 := Z3.kept (ha3 (.cells #[.int .i64 P, .int .i64 0, .bool false, .string t] 36))
 have hc4 := hc3.below (ha3 (.cells #[.int .i64 P, .int .i64 0, .bool false, .string t] 36))
 have D4 := D3.trans (Drawn.of_below (ha3 (.cells #[.int .i64 P, .int .i64 0, .bool false, .string t] 36)))
 have hs3 := D3.size
 have hR3 := dCell_lt Z3.2.1.1
 generalize hbe : w3.heap.size = be at *
 generalize w3.alloc (.cells #[.int .i64 P, .int .i64 0, .bool false, .string t] 36) = w4 at *
 clear ha3 hbe Z3 D3 hc3
 refine (l1Once_any bk 3 (by omega) (by omega) _ hc4).mono ?_
 rintro e w5 ⟨⟨b, rfl⟩, hc5, hd5⟩
 have E5 := E4.drawn hd5 (by omega)
 have Z5 := Z4.drawn hd5 (by omega)
 have D5 := D4.trans hd5
 clear E4 Z4 D4 hd5 hc4
 cases b
 ·obtain ⟨-, ⟨e0, e1, e2, e3⟩, -⟩ := id E5
  obtain ⟨-, ⟨r0, r1, r2, r3⟩, g0, g1, g2, g3⟩ := id Z5
  go_wp2
  obtain ⟨f0, f1, f2, f3⟩ := FourZ.set Z5 (.int .i64 P) (.int .i64 (0)) (.bool false) (.string t)
  have hcE := (((hc5.setNew (b := w.heap.size) hlt 0 (.int .i64 P)).setNew (b := w.heap.size) hlt 1 (.int .i64 (0))).setNew (b := w.heap.size) hlt 2 (.bool false)).setNew (b := w.heap.size) hlt 3 (.string t)
  have hdE := (((D5.setNew (b := w.heap.size) (Nat.le_refl _) 0 (.int .i64 P)).setNew (b := w.heap.size) (Nat.le_refl _) 1 (.int .i64 (0))).setNew (b := w.heap.size) (Nat.le_refl _) 2 (.bool false)).setNew (b := w.heap.size) (Nat.le_refl _) 3 (.string t)
  generalize ((((w5.setCell ⟨w.heap.size, 0, none⟩ (.int .i64 P)).setCell ⟨w.heap.size, 1, none⟩ (.int .i64 (0))).setCell ⟨w.heap.size, 2, none⟩ (.bool false)).setCell ⟨w.heap.size, 3, none⟩ (.string t)) = V at *
  refine bodyPost_ret (v := (⟨P, 0, false, t⟩ : Ent).val) (by simp [results, Tryz.results70, go_sem, f0, f1, f2, f3, Ent.val]) rfl ⟨⟨_, ⟨hp, by simp only; omega, by simp only; omega, by simp only; omega, hts, by intro h; cases h⟩, rfl⟩, hcE, hdE⟩
 ·obtain ⟨-, ⟨e0, e1, e2, e3⟩, y0, y1, y2, y3⟩ := id E5
  go_wp2_with (go_at_call 35; refine (specEpoch_yes P hp _).mono ?_; rintro e w6 ⟨rfl, rfl⟩)
  refine (l1Below_any bk 3 (by omega) (by omega) _ hc5).mono ?_
  rintro e w6 ⟨⟨z, hz, rfl⟩, hc6, hd6⟩
  have E6 := E5.drawn hd6 (by omega)
  have Z6 := Z5.drawn hd6 (by omega)
  have D6 := D5.trans hd6
  clear E5 Z5 D5 hd6 hc5 e0 e1 e2 e3 y0 y1 y2 y3
  obtain ⟨-, ⟨e0, e1, e2, e3⟩, y0, y1, y2, y3⟩ := id E6
  go_wp2_with fail
  obtain ⟨WV, hWV⟩ : ∃ WV : Int, WV = P / 4294967296 + 1 + (z : Int) := ⟨_, rfl⟩
  rw [← hWV]
  have hw0 : 0 < WV := by omega
  have hw1 : WV ≤ 30 := by omega
  have hw2 : P / 4294967296 < WV := by omega
  clear hWV
  have E7 := E6.put1 (.int .i64 WV)
  have Z7 := Z6.far (b' := be) (o := 1) (by omega) (.int .i64 WV)
  have hc7 := hc6.setNew (b := be) (by omega) 1 (.int .i64 WV)
  have D7 := D6.setNew (b := be) (by omega) 1 (.int .i64 WV)
  generalize w6.setCell ⟨be, 1, none⟩ (.int .i64 WV) = w7 at *
  clear E6 Z6 hc6 D6 e0 e1 e2 e3 y0 y1 y2 y3
  refine (l1Once_any bk 2 (by omega) (by omega) _ hc7).mono ?_
  rintro e w8 ⟨⟨b, rfl⟩, hc8, hd8⟩
  have E8 := E7.drawn hd8 (by omega)
  have Z8 := Z7.drawn hd8 (by omega)
  have D8 := D7.trans hd8
  clear E7 Z7 D7 hd8 hc7
  cases b
  ·obtain ⟨-, ⟨e0, e1, e2, e3⟩, -⟩ := id E8
   obtain ⟨-, ⟨r0, r1, r2, r3⟩, g0, g1, g2, g3⟩ := id Z8
   go_wp2
   obtain ⟨f0, f1, f2, f3⟩ := FourZ.set Z8 (.int .i64 (P)) (.int .i64 (WV)) (.bool false) (.string t)
   have hcE := (((hc8.setNew (b := w.heap.size) hlt 0 (.int .i64 (P))).setNew (b := w.heap.size) hlt 1 (.int .i64 (WV))).setNew (b := w.heap.size) hlt 2 (.bool false)).setNew (b := w.heap.size) hlt 3 (.string t)
   have hdE := (((D8.setNew (b := w.heap.size) (Nat.le_refl _) 0 (.int .i64 (P))).setNew (b := w.heap.size) (Nat.le_refl _) 1 (.int .i64 (WV))).setNew (b := w.heap.size) (Nat.le_refl _) 2 (.bool false)).setNew (b := w.heap.size) (Nat.le_refl _) 3 (.string t)
   generalize ((((w8.setCell ⟨w.heap.size, 0, none⟩ (.int .i64 (P))).setCell ⟨w.heap.size, 1, none⟩ (.int .i64 (WV))).setCell ⟨w.heap.size, 2, none⟩ (.bool false)).setCell ⟨w.heap.size, 3, none⟩ (.string t)) = V at *
   refine bodyPost_ret (v := (⟨P, WV, false, t⟩ : Ent).val) (by simp [results, Tryz.results70, go_sem, f0, f1, f2, f3, Ent.val]) rfl ⟨⟨_, ⟨hp, by simp only; omega, by simp only; omega, by simp only; omega, hts, by intro h; cases h⟩, rfl⟩, hcE, hdE⟩
  ·obtain ⟨-, ⟨a0, a1, a2, a3⟩, y0, y1, y2, y3⟩ := id E8
   have E9 := E8.put2 (.bool true)
   obtain ⟨-, ⟨d0, d1, d2, d3⟩, x0, x1, x2, x3⟩ := id E9
   have E10 := E9.put3 (.string ⟨#[]⟩)
   have Z10 := (Z8.far (b' := be) (o := 2) (by omega) (.bool true)).far (b' := be) (o := 3) (by omega) (.string ⟨#[]⟩)
   have hc10 := (hc8.setNew (b := be) (by omega) 2 (.bool true)).setNew (b := be) (by omega) 3 (.string ⟨#[]⟩)
   have D10 := (D8.setNew (b := be) (by omega) 2 (.bool true)).setNew (b := be) (by omega) 3 (.string ⟨#[]⟩)
   obtain ⟨-, ⟨e0, e1, e2, e3⟩, -⟩ := id E10
   obtain ⟨-, ⟨r0, r1, r2, r3⟩, g0, g1, g2, g3⟩ := id Z10
   go_wp2
   obtain ⟨f0, f1, f2, f3⟩ := FourZ.set Z10 (.int .i64 (P)) (.int .i64 (WV)) (.bool true) (.string ⟨#[]⟩)
   have hcE := (((hc10.setNew (b := w.heap.size) hlt 0 (.int .i64 (P))).setNew (b := w.heap.size) hlt 1 (.int .i64 (WV))).setNew (b := w.heap.size) hlt 2 (.bool true)).setNew (b := w.heap.size) hlt 3 (.string ⟨#[]⟩)
   have hdE := (((D10.setNew (b := w.heap.size) (Nat.le_refl _) 0 (.int .i64 (P))).setNew (b := w.heap.size) (Nat.le_refl _) 1 (.int .i64 (WV))).setNew (b := w.heap.size) (Nat.le_refl _) 2 (.bool true)).setNew (b := w.heap.size) (Nat.le_refl _) 3 (.string ⟨#[]⟩)
   generalize ((((((w8.setCell ⟨be, 2, none⟩ (.bool true)).setCell ⟨be, 3, none⟩ (.string ⟨#[]⟩)).setCell ⟨w.heap.size, 0, none⟩ (.int .i64 (P))).setCell ⟨w.heap.size, 1, none⟩ (.int .i64 (WV))).setCell ⟨w.heap.size, 2, none⟩ (.bool true)).setCell ⟨w.heap.size, 3, none⟩ (.string ⟨#[]⟩)) = V at *
   refine bodyPost_ret (v := (⟨P, WV, true, ⟨#[]⟩⟩ : Ent).val) (by simp [results, Tryz.results70, go_sem, f0, f1, f2, f3, Ent.val]) rfl ⟨⟨_, ⟨hp, by simp only; omega, by simp only; omega, by simp only; omega, by show (0 : Nat) ≤ 40; omega, fun _ => ⟨by simp only; omega, rfl⟩⟩, rfl⟩, hcE, hdE⟩
end Go.Proofs.YtjkjmapibcfcdaaGreat
