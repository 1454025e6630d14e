/- Several texts in one: DrawF, StT, StV, StU, DrawG, DrawH. -/
import Derived.Test.YtjkjmapibcfcdaaGreatGx1
import Derived.Test.YtjkjmapibcfcdaaGreatGaT
import Derived.Test.YtjkjmapibcfcdaaGreatGaA
import Derived.Test.YtjkjmapibcfcdaaGreatGbE
import Derived.Test.YtjkjmapibcfcdaaGreatGx2
import Derived.Deep.RegionHeld3
import Derived.Deep.DeepCutAuto
import Derived.Test.YtjkjmapibcfcdaaGreatGx6
import Derived.Deep.RegionLaw
import Derived.Laws.OwnMore
namespace Go.Proofs.YtjkjmapibcfcdaaGreat
open Go.ChangeShapes Go.WideShapes Go.ChangeAt Go.RowKit
set_option linter.unusedSimpArgs false
set_option linter.unusedVariables false
set_option maxRecDepth 100000
theorem Cur.setNew {bk : Nat} {W : World} (h : Cur W bk) {b : Nat} (hb : bk < b) (o : Nat) (u : Value) : Cur (W.setCell ⟨b, o, none⟩ u) bk :=
 h.grown (grown_set W b o u) (fun k e => by cases e; exact hb)
set_option maxHeartbeats 2000000 in
theorem l3DrawRight_any (bk : Nat) (w : World) (hc : Cur w bk) :
  Calls Tryz.prog 70 #[.pointer (some ⟨bk, 0, none⟩)] w fun r w' => (∃ e : Ent, entP e ∧ r = .returned e.val) ∧ Cur w' bk ∧ Drawn bk w w' := by
 have hlt := hc.lt
 have ha : ∀ o, Below w.heap.size w (w.alloc o) := fun o => (Below.refl _ _).alloc (Nat.le_refl _) o
 go_enter Tryz.func70, Tryz.ntmps70
 go_wp2_with fail
 have Z0 := FourZ.fresh w (.int .i64 0) (.int .i64 0) (.bool false) (.string ⟨#[]⟩) 36
 have hc0 := hc.below (ha (.cells #[.int .i64 0, .int .i64 0, .bool false, .string ⟨#[]⟩] 36))
 have D0 := Drawn.of_below (bk := bk) (ha (.cells #[.int .i64 0, .int .i64 0, .bool false, .string ⟨#[]⟩] 36))
 refine (l1Below_any bk 3 (by omega) (by omega) _ hc0).mono ?_
 rintro e w1 ⟨⟨x, hx, rfl⟩, hc1, hd1⟩
 have Z1 := Z0.drawn hd1 (by omega)
 have D1 := D0.trans hd1
 clear Z0 D0 hc0 hd1 ha hc
 go_wp2_with fail
 refine (l1Below_any bk 6 (by omega) (by omega) _ hc1).mono ?_
 rintro e w2 ⟨⟨y, hy, rfl⟩, hc2, hd2⟩
 have Z2 := Z1.drawn hd2 (by omega)
 have D2 := D1.trans hd2
 clear Z1 D1 hc1 hd2
 go_wp2_with (go_at_call 27; refine (l1Place_in _ _ (by omega) (by omega) (by omega) (by omega) _).mono ?_; rintro e w3 ⟨rfl, rfl⟩)
 refine (pickT_new hc2 [⟨#[]⟩, ⟨#[97]⟩, ⟨#[98, 99]⟩, ⟨#[0]⟩, ⟨#[119, 111, 114, 100]⟩] _ (by simp) (by simp) _).mono ?_
 rintro e w3 ⟨⟨t, ht, rfl⟩, hc3, hd3⟩
 have Z3 := Z2.drawn hd3 (by omega)
 have D3 := D2.trans hd3
 have hts : t.size ≤ 40 := by
  simp only [List.mem_cons, List.mem_nil_iff, or_false] at ht
  rcases ht with rfl | rfl | rfl | rfl | rfl <;> decide
 clear Z2 D2 hc2 hd3 ht
 go_wp2_with fail
 have hP : ∃ P : Int, P = 4294967296 * (1 + (x : Int)) + (1 + (y : Int)) := ⟨_, rfl⟩
 obtain ⟨P, hP⟩ := hP
 rw [← hP]
 have hp : isPl P := by unfold isPl; omega
 have hep : P / 4294967296 ≤ 3 := by omega
 have hep0 : 1 ≤ P / 4294967296 := by omega
 clear hP
 have ha3 : ∀ o, Below w3.heap.size w3 (w3.alloc o) := fun o => (Below.refl _ _).alloc (Nat.le_refl _) o
 have E4 := FourZ.fresh w3 (.int .i64 P) (.int .i64 0) (.bool false) (.string t) 36
 have Z4 := Z3.kept (ha3 (.cells #[.int .i64 P, .int .i64 0, .bool false, .string t] 36))
 have hc4 := hc3.below (ha3 (.cells #[.int .i64 P, .int .i64 0, .bool false, .string t] 36))
 have D4 := D3.trans (Drawn.of_below (ha3 (.cells #[.int .i64 P, .int .i64 0, .bool false, .string t] 36)))
 have hs3 := D3.size
 have hR3 := dCell_lt Z3.2.1.1
 generalize hbe : w3.heap.size = be at *
 generalize w3.alloc (.cells #[.int .i64 P, .int .i64 0, .bool false, .string t] 36) = w4 at *
 clear ha3 hbe Z3 D3 hc3
 refine (l1Once_any bk 3 (by omega) (by omega) _ hc4).mono ?_
 rintro e w5 ⟨⟨b, rfl⟩, hc5, hd5⟩
 have E5 := E4.drawn hd5 (by omega)
 have Z5 := Z4.drawn hd5 (by omega)
 have D5 := D4.trans hd5
 clear E4 Z4 D4 hd5 hc4
 cases b
 ·obtain ⟨-, ⟨e0, e1, e2, e3⟩, -⟩ := id E5
  obtain ⟨-, ⟨r0, r1, r2, r3⟩, g0, g1, g2, g3⟩ := id Z5
  go_wp2
  obtain ⟨f0, f1, f2, f3⟩ := FourZ.set Z5 (.int .i64 P) (.int .i64 (0)) (.bool false) (.string t)
  have hcE := (((hc5.setNew (b := w.heap.size) hlt 0 (.int .i64 P)).setNew (b := w.heap.size) hlt 1 (.int .i64 (0))).setNew (b := w.heap.size) hlt 2 (.bool false)).setNew (b := w.heap.size) hlt 3 (.string t)
  have hdE := (((D5.setNew (b := w.heap.size) (Nat.le_refl _) 0 (.int .i64 P)).setNew (b := w.heap.size) (Nat.le_refl _) 1 (.int .i64 (0))).setNew (b := w.heap.size) (Nat.le_refl _) 2 (.bool false)).setNew (b := w.heap.size) (Nat.le_refl _) 3 (.string t)
  generalize ((((w5.setCell ⟨w.heap.size, 0, none⟩ (.int .i64 P)).setCell ⟨w.heap.size, 1, none⟩ (.int .i64 (0))).setCell ⟨w.heap.size, 2, none⟩ (.bool false)).setCell ⟨w.heap.size, 3, none⟩ (.string t)) = V at *
  refine bodyPost_ret (v := (⟨P, 0, false, t⟩ : Ent).val) (by simp [results, Tryz.results70, go_sem, f0, f1, f2, f3, Ent.val]) rfl ⟨⟨_, ⟨hp, by simp only; omega, by simp only; omega, by simp only; omega, hts, by intro h; cases h⟩, rfl⟩, hcE, hdE⟩
 ·obtain ⟨-, ⟨e0, e1, e2, e3⟩, y0, y1, y2, y3⟩ := id E5
  go_wp2_with (go_at_call 35; refine (specEpoch_yes P hp _).mono ?_; rintro e w6 ⟨rfl, rfl⟩)
  refine (l1Below_any bk 3 (by omega) (by omega) _ hc5).mono ?_
  rintro e w6 ⟨⟨z, hz, rfl⟩, hc6, hd6⟩
  have E6 := E5.drawn hd6 (by omega)
  have Z6 := Z5.drawn hd6 (by omega)
  have D6 := D5.trans hd6
  clear E5 Z5 D5 hd6 hc5 e0 e1 e2 e3 y0 y1 y2 y3
  obtain ⟨-, ⟨e0, e1, e2, e3⟩, y0, y1, y2, y3⟩ := id E6
  go_wp2_with fail
  obtain ⟨WV, hWV⟩ : ∃ WV : Int, WV = P / 4294967296 + 1 + (z : Int) := ⟨_, rfl⟩
  rw [← hWV]
  have hw0 : 0 < WV := by omega
  have hw1 : WV ≤ 30 := by omega
  have hw2 : P / 4294967296 < WV := by omega
  clear hWV
  have E7 := E6.put1 (.int .i64 WV)
  have Z7 := Z6.far (b' := be) (o := 1) (by omega) (.int .i64 WV)
  have hc7 := hc6.setNew (b := be) (by omega) 1 (.int .i64 WV)
  have D7 := D6.setNew (b := be) (by omega) 1 (.int .i64 WV)
  generalize w6.setCell ⟨be, 1, none⟩ (.int .i64 WV) = w7 at *
  clear E6 Z6 hc6 D6 e0 e1 e2 e3 y0 y1 y2 y3
  refine (l1Once_any bk 2 (by omega) (by omega) _ hc7).mono ?_
  rintro e w8 ⟨⟨b, rfl⟩, hc8, hd8⟩
  have E8 := E7.drawn hd8 (by omega)
  have Z8 := Z7.drawn hd8 (by omega)
  have D8 := D7.trans hd8
  clear E7 Z7 D7 hd8 hc7
  cases b
  ·obtain ⟨-, ⟨e0, e1, e2, e3⟩, -⟩ := id E8
   obtain ⟨-, ⟨r0, r1, r2, r3⟩, g0, g1, g2, g3⟩ := id Z8
   go_wp2
   obtain ⟨f0, f1, f2, f3⟩ := FourZ.set Z8 (.int .i64 (P)) (.int .i64 (WV)) (.bool false) (.string t)
   have hcE := (((hc8.setNew (b := w.heap.size) hlt 0 (.int .i64 (P))).setNew (b := w.heap.size) hlt 1 (.int .i64 (WV))).setNew (b := w.heap.size) hlt 2 (.bool false)).setNew (b := w.heap.size) hlt 3 (.string t)
   have hdE := (((D8.setNew (b := w.heap.size) (Nat.le_refl _) 0 (.int .i64 (P))).setNew (b := w.heap.size) (Nat.le_refl _) 1 (.int .i64 (WV))).setNew (b := w.heap.size) (Nat.le_refl _) 2 (.bool false)).setNew (b := w.heap.size) (Nat.le_refl _) 3 (.string t)
   generalize ((((w8.setCell ⟨w.heap.size, 0, none⟩ (.int .i64 (P))).setCell ⟨w.heap.size, 1, none⟩ (.int .i64 (WV))).setCell ⟨w.heap.size, 2, none⟩ (.bool false)).setCell ⟨w.heap.size, 3, none⟩ (.string t)) = V at *
   refine bodyPost_ret (v := (⟨P, WV, false, t⟩ : Ent).val) (by simp [results, Tryz.results70, go_sem, f0, f1, f2, f3, Ent.val]) rfl ⟨⟨_, ⟨hp, by simp only; omega, by simp only; omega, by simp only; omega, hts, by intro h; cases h⟩, rfl⟩, hcE, hdE⟩
  ·obtain ⟨-, ⟨a0, a1, a2, a3⟩, y0, y1, y2, y3⟩ := id E8
   have E9 := E8.put2 (.bool true)
   obtain ⟨-, ⟨d0, d1, d2, d3⟩, x0, x1, x2, x3⟩ := id E9
   have E10 := E9.put3 (.string ⟨#[]⟩)
   have Z10 := (Z8.far (b' := be) (o := 2) (by omega) (.bool true)).far (b' := be) (o := 3) (by omega) (.string ⟨#[]⟩)
   have hc10 := (hc8.setNew (b := be) (by omega) 2 (.bool true)).setNew (b := be) (by omega) 3 (.string ⟨#[]⟩)
   have D10 := (D8.setNew (b := be) (by omega) 2 (.bool true)).setNew (b := be) (by omega) 3 (.string ⟨#[]⟩)
   obtain ⟨-, ⟨e0, e1, e2, e3⟩, -⟩ := id E10
   obtain ⟨-, ⟨r0, r1, r2, r3⟩, g0, g1, g2, g3⟩ := id Z10
   go_wp2
   obtain ⟨f0, f1, f2, f3⟩ := FourZ.set Z10 (.int .i64 (P)) (.int .i64 (WV)) (.bool true) (.string ⟨#[]⟩)
   have hcE := (((hc10.setNew (b := w.heap.size) hlt 0 (.int .i64 (P))).setNew (b := w.heap.size) hlt 1 (.int .i64 (WV))).setNew (b := w.heap.size) hlt 2 (.bool true)).setNew (b := w.heap.size) hlt 3 (.string ⟨#[]⟩)
   have hdE := (((D10.setNew (b := w.heap.size) (Nat.le_refl _) 0 (.int .i64 (P))).setNew (b := w.heap.size) (Nat.le_refl _) 1 (.int .i64 (WV))).setNew (b := w.heap.size) (Nat.le_refl _) 2 (.bool true)).setNew (b := w.heap.size) (Nat.le_refl _) 3 (.string ⟨#[]⟩)
   generalize ((((((w8.setCell ⟨be, 2, none⟩ (.bool true)).setCell ⟨be, 3, none⟩ (.string ⟨#[]⟩)).setCell ⟨w.heap.size, 0, none⟩ (.int .i64 (P))).setCell ⟨w.heap.size, 1, none⟩ (.int .i64 (WV))).setCell ⟨w.heap.size, 2, none⟩ (.bool true)).setCell ⟨w.heap.size, 3, none⟩ (.string ⟨#[]⟩)) = V at *
   refine bodyPost_ret (v := (⟨P, WV, true, ⟨#[]⟩⟩ : Ent).val) (by simp [results, Tryz.results70, go_sem, f0, f1, f2, f3, Ent.val]) rfl ⟨⟨_, ⟨hp, by simp only; omega, by simp only; omega, by simp only; omega, by show (0 : Nat) ≤ 40; omega, fun _ => ⟨by simp only; omega, rfl⟩⟩, rfl⟩, hcE, hdE⟩
theorem zero_right : stP zeroSt := ⟨⟨by simp [zeroSt], fun e h => by simp [zeroSt] at h⟩, ⟨by simp [zeroSt], fun e h => by simp [zeroSt] at h⟩, fun i h => by simp [zeroSt] at h, by simp [zeroSt], by simp [zeroSt]⟩
theorem put_right {s : St} {e : Ent} (h : stP s) : stP (putM s e).1 := by
 by_cases hp : putP s e
 ·rw [putM_yes h hp]
  refine ⟨h.1, ⟨?_, fun x hx => ?_⟩, h.2.2⟩
  ·have := h.2.1.1; have := hp.2.2; simp only [List.length_append, List.length_singleton]; omega
  ·rcases List.mem_append.1 hx with hx | hx
   ·exact h.2.1.2 x hx
   ·obtain rfl : x = e := by simpa using hx
    exact hp.1
 ·rw [putM_no h hp]; exact h
theorem crash_right {s : St} {k : Int} (h : stP s) : stP (crashM s k).1 := by
 by_cases hp : crashP s k
 ·rw [crashM_yes h hp]
  exact ⟨⟨hp.2.2, crashL_all k _ _ _ h.1.2 h.2.1.2⟩, ⟨by simp, fun e h => by simp at h⟩, (ascE_iff _).2 (crashL_asc k _ _ _ ((ascE_iff _).1 h.2.2.1)), h.2.2.2⟩
 ·rw [crashM_no h hp]; exact h
theorem seal_right {s : St} {k : Int} (h : stP s) : stP (sealM s k).1 := by
 by_cases hp : sealP s k
 ·rw [sealM_yes h hp]
  have h2 := h.2.2.2
  refine ⟨⟨hp.1.2.2, crashL_all _ _ _ _ h.1.2 h.2.1.2⟩, ⟨by simp, fun e h => by simp at h⟩, (ascE_iff _).2 (crashL_asc _ _ _ _ ((ascE_iff _).1 h.2.2.1)), ?_, ?_⟩
  ·show 0 ≤ max s.lock k; omega
  ·show max s.lock k ≤ 30; have := hp.2; omega
 ·rw [sealM_no h hp]; exact h
theorem entP_fit {e : Ent} (h : entP e) : e.fits := by
 obtain ⟨⟨h0, h1, h2, h3, h4⟩, v0, v1, -, hd, -⟩ := h
 exact ⟨by omega, by omega, by omega, by omega, by omega⟩
theorem stP_fit {s : St} (h : stP s) : fitS s := ⟨fun e he => entP_fit (h.1.2 e he), fun e he => entP_fit (h.2.1.2 e he), by have := h.2.2.2.1; omega, by have := h.2.2.2.2; omega⟩
theorem OwS.drawn {bk base : Nat} {W W' : World} {v : Value} {s : St} (h : OwS W base v s) (hd : Drawn bk W W') (hb : bk < base) : OwS W' base v s := by
 obtain ⟨kv, lv, h1, h2, h3, h4⟩ := h
 exact ⟨kv, lv, h1, ApR.kept elemE h2 hd.row (.inr (touch_base elemE h2 hb)), ApR.kept elemE h3 hd.row (.inr (touch_base elemE h3 hb)), h4⟩
theorem OwS.put {base b o : Nat} {W : World} {kv lv c : Value} {s : St} (h : OwS W base (.agg #[kv, lv, c]) s) (t1 : touch kv ≠ some b) (t2 : touch lv ≠ some b) (u : Value) : OwS (W.setCell ⟨b, o, none⟩ u) base (.agg #[kv, lv, c]) s := by
 obtain ⟨kv', lv', e, p1, p2, p3⟩ := h
 cases e
 exact ⟨_, _, rfl, ApR.put elemE p1 t1 u, ApR.put elemE p2 t2 u, p3⟩
structure DS (w : World) (bk : Nat) (W : World) (B : Nat) (s : St) (ka : Option Addr) (kc : Nat) (la : Option Addr) (lc : Nat) : Prop where
 right : stP s
 box : BxZ W w.heap.size (w.heap.size + 1) [.slice ka s.kept.length kc, .slice la s.late.length lc, .int .i64 s.lock]
 own : OwS W (w.heap.size + 1 + 1) (.agg #[.slice ka s.kept.length kc, .slice la s.late.length lc, .int .i64 s.lock]) s
 res : BxZ W w.heap.size w.heap.size [.slice none 0 0, .slice none 0 0, .int .i64 0]
 cur : Cur W bk
 drawn : Drawn bk w W
 tk : ∀ j, touch (.slice ka s.kept.length kc) = some j → j < B
 tl : ∀ j, touch (.slice la s.late.length lc) = some j → j < B
section
variable {w W W' : World} {bk B bo base : Nat} {s m m' : St} {ka la ka' la' : Option Addr} {kc lc kc' lc' : Nat}
theorem DS.move (h : DS w bk W B s ka kc la lc) (hk : bk < w.heap.size) (hc : Cur W' bk) (hd : Drawn bk W W') : DS w bk W' B s ka kc la lc :=
 ⟨h.right, h.box.drawn hd (by omega), h.own.drawn hd (by omega), h.res.drawn hd (by omega), hc, h.drawn.trans hd, h.tk, h.tl⟩
theorem DS.below (h : DS w bk W B s ka kc la lc) (hk : bk < w.heap.size) (hb : Below W.heap.size W W') : DS w bk W' B s ka kc la lc := h.move hk (h.cur.below hb) (Drawn.of_below hb)
theorem DS.set (h : DS w bk W B s ka kc la lc) (hk : bk < w.heap.size) (hB : B ≤ bo) (hb : w.heap.size + 1 + 1 ≤ bo) (o : Nat) (u : Value) : DS w bk (W.setCell ⟨bo, o, none⟩ u) B s ka kc la lc :=
 ⟨h.right, h.box.far (by omega) u, h.own.put (fun e => by have := h.tk _ e; omega) (fun e => by have := h.tl _ e; omega) u, h.res.far (by omega) u, h.cur.setNew (by omega) o u, h.drawn.setNew (by omega) o u, h.tk, h.tl⟩
theorem DS.weak {B' : Nat} (h : DS w bk W B s ka kc la lc) (hB : B ≤ B') : DS w bk W B' s ka kc la lc :=
 ⟨h.right, h.box, h.own, h.res, h.cur, h.drawn, fun j hj => Nat.lt_of_lt_of_le (h.tk j hj) hB, fun j hj => Nat.lt_of_lt_of_le (h.tl j hj) hB⟩
theorem DS.lt (h : DS w bk W B s ka kc la lc) : w.heap.size + 1 < W.heap.size := h.box.lt
structure DN (w : World) (W : World) (bo : Nat) (m : St) (ka : Option Addr) (kc : Nat) (la : Option Addr) (lc : Nat) : Prop where
 right : stP m
 far : w.heap.size + 1 + 1 ≤ bo
 box : BxZ W w.heap.size bo [.slice ka m.kept.length kc, .slice la m.late.length lc, .int .i64 m.lock]
 own : OwS W (w.heap.size + 1 + 1) (.agg #[.slice ka m.kept.length kc, .slice la m.late.length lc, .int .i64 m.lock]) m
 tk : touch (.slice ka m.kept.length kc) ≠ some bo
 tl : touch (.slice la m.late.length lc) ≠ some bo
theorem DN.move (h : DN w W bo m ka kc la lc) (hk : bk < w.heap.size) (hd : Drawn bk W W') : DN w W' bo m ka kc la lc :=
 ⟨h.right, h.far, h.box.drawn hd (by have := h.far; omega), h.own.drawn hd (by omega), h.tk, h.tl⟩
theorem DN.below (h : DN w W bo m ka kc la lc) (hb : Below W.heap.size W W') : DN w W' bo m ka kc la lc :=
 ⟨h.right, h.far, h.box.below hb, h.own.below hb, h.tk, h.tl⟩
theorem DN.put {x y z : Value} (hX : BxZ W w.heap.size bo [x, y, z]) (hf : w.heap.size + 1 + 1 ≤ bo) (hr : stP m') (O : OwS W base (.agg #[.slice ka' m'.kept.length kc', .slice la' m'.late.length lc', .int .i64 m'.lock]) m') (hb : bo < base) :
  DN w (((W.setCell ⟨bo, 0, none⟩ (.slice ka' m'.kept.length kc')).setCell ⟨bo, 1, none⟩ (.slice la' m'.late.length lc')).setCell ⟨bo, 2, none⟩ (.int .i64 m'.lock)) bo m' ka' kc' la' lc' := by
 obtain ⟨kv, lv, e, p1, p2, p3⟩ := id O
 cases e
 exact ⟨hr, hf, ((hX.put 0 (.slice ka' m'.kept.length kc')).put 1 (.slice la' m'.late.length lc')).put 2 (.int .i64 m'.lock), (((O.far (b := bo) (o := 0) hb _).far (b := bo) (o := 1) hb _).far (b := bo) (o := 2) hb _).mono (by omega), touch_base elemE p1 hb, touch_base elemE p2 hb⟩
theorem DS.set3 (h : DS w bk W B s ka kc la lc) (hk : bk < w.heap.size) (hB : B ≤ bo) (hb : w.heap.size + 1 + 1 ≤ bo) (u v x : Value) : DS w bk (((W.setCell ⟨bo, 0, none⟩ u).setCell ⟨bo, 1, none⟩ v).setCell ⟨bo, 2, none⟩ x) B s ka kc la lc :=
 ((h.set hk hB hb 0 u).set hk hB hb 1 v).set hk hB hb 2 x
theorem DN.made (hr : stP m') (hf : w.heap.size + 1 + 1 ≤ W.heap.size) (hw : w.heap.size ≤ W.heap.size) (hbs : w.heap.size + 1 + 1 ≤ base) (O : OwS W base (.agg #[.slice ka' m'.kept.length kc', .slice la' m'.late.length lc', .int .i64 m'.lock]) m') (T : TypeId) :
  DN w (W.alloc (.cells #[.slice ka' m'.kept.length kc', .slice la' m'.late.length lc', .int .i64 m'.lock] T)) W.heap.size m' ka' kc' la' lc' := by
 have ba : Below W.heap.size W (W.alloc (.cells #[.slice ka' m'.kept.length kc', .slice la' m'.late.length lc', .int .i64 m'.lock] T)) := (Below.refl _ _).alloc (Nat.le_refl _) _
 obtain ⟨kv, lv, e, p1, p2, p3⟩ := id O
 cases e
 exact ⟨hr, hf, BxZ.new W [.slice ka' m'.kept.length kc', .slice la' m'.late.length lc', .int .i64 m'.lock] T hw, (O.below ba).mono hbs, fun e => by have := (p1.touched elemE e).2; omega, fun e => by have := (p2.touched elemE e).2; omega⟩
theorem DS.take (h : DS w bk W B s ka kc la lc) (n : DN w W bo m ka' kc' la' lc') (hk : bk < w.heap.size) :
  DS w bk (((W.setCell ⟨w.heap.size + 1, 0, none⟩ (.slice ka' m.kept.length kc')).setCell ⟨w.heap.size + 1, 1, none⟩ (.slice la' m.late.length lc')).setCell ⟨w.heap.size + 1, 2, none⟩ (.int .i64 m.lock)) W.heap.size m ka' kc' la' lc' := by
 obtain ⟨kv, lv, e, p1, p2, p3⟩ := id n.own
 cases e
 have hb : w.heap.size + 1 < w.heap.size + 1 + 1 := by omega
 refine ⟨n.right, ((h.box.put 0 (.slice ka' m.kept.length kc')).put 1 (.slice la' m.late.length lc')).put 2 (.int .i64 m.lock), ((n.own.far (b := w.heap.size + 1) (o := 0) hb _).far (b := w.heap.size + 1) (o := 1) hb _).far (b := w.heap.size + 1) (o := 2) hb _, ((h.res.far (b' := w.heap.size + 1) (o := 0) (by omega) _).far (b' := w.heap.size + 1) (o := 1) (by omega) _).far (b' := w.heap.size + 1) (o := 2) (by omega) _, ((h.cur.setNew (by omega) 0 _).setNew (by omega) 1 _).setNew (by omega) 2 _, ((h.drawn.setNew (Nat.le_succ _) 0 _).setNew (Nat.le_succ _) 1 _).setNew (Nat.le_succ _) 2 _, fun j hj => (p1.touched elemE hj).2, fun j hj => (p2.touched elemE hj).2⟩
end
theorem step_appRun {w w' : World} {ops : Array Oper} {o : Oper} {a : Act} {Q : Exit → Act → World → Prop} {K : Act → World → Prop} {F : Prop} (hg : o.guard = none) (s x : Operand) (T1 T2 : TypeId) (hop : o.op = .call { callee := .builtin .append, args := #[s, x], argTypes := #[T1, T2] })
  (v u : Value) (hs : a.eval s = v) (hx : a.eval x = u) {v' : Value} (hr : (Builtin.append_ #[T1, T2] o.type #[v, u]).run Tryz.prog w = .ok v' w') (h : K (a.put o.dst v') w') :
  if Region.wanted o (yielded ops a.tmps) = true then Oper.wp Tryz.prog o a w K Q else F := by
 have hw : Region.wanted o (yielded ops a.tmps) = true := by simp [Region.wanted, hg]
 rw [if_pos hw]
 unfold Oper.wp
 simp [execOp, hop, resolve, invoke, builtin, hs, hx, hr, Result.andThen]
 exact h
structure DE (w : World) (bk base b0 : Nat) (W : World) (s : St) (ka : Option Addr) (kc : Nat) (la : Option Addr) (lc : Nat) : Prop where
 box : BxZ W w.heap.size b0 [.slice ka s.kept.length kc, .slice la s.late.length lc, .int .i64 s.lock]
 ok : ApE W base (.slice ka s.kept.length kc) s.kept
 ol : ApE W base (.slice la s.late.length lc) s.late
 sep : touch (.slice ka s.kept.length kc) = none ∨ touch (.slice ka s.kept.length kc) ≠ touch (.slice la s.late.length lc)
 res : BxZ W w.heap.size w.heap.size [.slice none 0 0, .slice none 0 0, .int .i64 0]
 cur : Cur W bk
 drawn : Drawn bk w W
 fit : fitS s
 tk : touch (.slice ka s.kept.length kc) ≠ some b0
 tl : touch (.slice la s.late.length lc) ≠ some b0
section
variable {w W W' : World} {bk base b0 : Nat} {s : St} {ka la : Option Addr} {kc lc : Nat}
theorem DE.own (h : DE w bk base b0 W s ka kc la lc) : OwS W base (.agg #[.slice ka s.kept.length kc, .slice la s.late.length lc, .int .i64 s.lock]) s := ⟨_, _, rfl, h.ok, h.ol, h.sep⟩
theorem DE.move (h : DE w bk base b0 W s ka kc la lc) (hk : bk < w.heap.size) (h0 : w.heap.size ≤ b0) (hb : w.heap.size ≤ base) (hc : Cur W' bk) (hd : Drawn bk W W') : DE w bk base b0 W' s ka kc la lc :=
 ⟨h.box.drawn hd (by omega), ApR.kept elemE h.ok hd.row (.inr (touch_base elemE h.ok (by omega))), ApR.kept elemE h.ol hd.row (.inr (touch_base elemE h.ol (by omega))), h.sep, h.res.drawn hd (by omega), hc, h.drawn.trans hd, h.fit, h.tk, h.tl⟩
theorem DE.below (h : DE w bk base b0 W s ka kc la lc) (hk : bk < w.heap.size) (h0 : w.heap.size ≤ b0) (hb : w.heap.size ≤ base) (hB : Below W.heap.size W W') : DE w bk base b0 W' s ka kc la lc := h.move hk h0 hb (h.cur.below hB) (Drawn.of_below hB)
theorem DE.addK (h : DE w bk base b0 W s ka kc la lc) (hk : bk < w.heap.size) (hb : w.heap.size < base) (h0 : w.heap.size < b0) (hbW : base ≤ W.heap.size) (e : Ent) (he : e.fits) (hl : s.kept.length ≤ 100000) (ty : TypeId) (sv : Value) (hs : Rw 4 Ent.cl W sv [e]) :
  ∃ a' c' w7, (Builtin.append_ #[27, 27] ty #[.slice ka s.kept.length kc, sv]).run Tryz.prog W = .ok (.slice a' (s.kept.length + 1) c') w7 ∧ BxZ w7 w.heap.size b0 [.slice ka s.kept.length kc, .slice la s.late.length lc, .int .i64 s.lock] ∧
   DE w bk base b0 (w7.setCell ⟨b0, 0, none⟩ (.slice a' (s.kept.length + 1) c')) ⟨s.kept ++ [e], s.late, s.lock⟩ a' c' la lc := by
 obtain ⟨v', w7, hr, P7, g7, t7⟩ := run_apR elemE ty h.ok sv hs (by simp; omega) (by simp; omega) hbW
 obtain ⟨a', c', rfl⟩ := ApR.slice elemE P7
 have hln : (s.kept ++ [e]).length = s.kept.length + 1 := by simp
 have hbx := h.box.lt
 rw [hln] at hr P7 t7
 have tb : ∀ j, touch (.slice ka s.kept.length kc) = some j → base ≤ j := fun j hj => (h.ok.touched elemE hj).1
 have N7 := h.box.grown g7 h.tk
 have R7 := h.res.grown g7 (fun e => by have := tb _ e; omega)
 have L7 := ApR.kept elemE h.ol g7 (by rcases h.sep with h | h; exact .inl h; exact .inr fun e => h e.symm)
 have C7 := h.cur.grown g7 (fun k hk' => by have := tb k hk'; omega)
 have D7 := h.drawn.grown g7 (fun k hk' => by have := tb k hk'; omega)
 have T7 : touch (.slice a' (s.kept.length + 1) c') ≠ some b0 := fun e => by
  rcases t7 with h' | h'
  ·exact h.tk (h' ▸ e)
  ·have := h' b0 e; omega
 have S7 : touch (.slice a' (s.kept.length + 1) c') = none ∨ touch (.slice a' (s.kept.length + 1) c') ≠ touch (.slice la s.late.length lc) := by
  rcases t7 with e | e
  ·rw [e]; exact h.sep
  ·cases hv : touch (.slice a' (s.kept.length + 1) c') with
   | none => exact .inl rfl
   | some j =>
    right
    intro e2
    have h1 := e j hv
    have h2 := (h.ol.touched elemE e2.symm).2
    omega
 refine ⟨a', c', w7, hr, N7, ⟨?_, ?_, ApR.put elemE L7 h.tl _, ?_, R7.far (by omega) _, C7.setNew (by omega) 0 _, D7.setNew (by omega) 0 _, ?_, ?_, h.tl⟩⟩
 ·show BxZ _ _ _ [.slice a' (s.kept ++ [e]).length c', .slice la s.late.length lc, .int .i64 s.lock]
  rw [hln]
  exact N7.put 0 _
 ·show ApE _ _ (.slice a' (s.kept ++ [e]).length c') (s.kept ++ [e])
  rw [hln]
  exact ApR.put elemE P7 T7 _
 ·show touch (.slice a' (s.kept ++ [e]).length c') = none ∨ touch (.slice a' (s.kept ++ [e]).length c') ≠ touch (.slice la s.late.length lc)
  rw [hln]
  exact S7
 ·refine ⟨fun x hx => ?_, h.fit.2⟩
  rcases List.mem_append.1 hx with hx | hx
  ·exact h.fit.1 x hx
  ·obtain rfl : x = e := by simpa using hx
   exact he
 ·show touch (.slice a' (s.kept ++ [e]).length c') ≠ some b0
  rw [hln]
  exact T7
theorem DE.out (h : DE w bk base b0 W s ka kc la lc) (hk : bk < w.heap.size) (hb : w.heap.size < base) :
  Bx (((W.setCell ⟨w.heap.size, 0, none⟩ (.slice ka s.kept.length kc)).setCell ⟨w.heap.size, 1, none⟩ (.slice la s.late.length lc)).setCell ⟨w.heap.size, 2, none⟩ (.int .i64 s.lock)) w.heap.size [.slice ka s.kept.length kc, .slice la s.late.length lc, .int .i64 s.lock] ∧
  OwS (((W.setCell ⟨w.heap.size, 0, none⟩ (.slice ka s.kept.length kc)).setCell ⟨w.heap.size, 1, none⟩ (.slice la s.late.length lc)).setCell ⟨w.heap.size, 2, none⟩ (.int .i64 s.lock)) w.heap.size (.agg #[.slice ka s.kept.length kc, .slice la s.late.length lc, .int .i64 s.lock]) s ∧
  Cur (((W.setCell ⟨w.heap.size, 0, none⟩ (.slice ka s.kept.length kc)).setCell ⟨w.heap.size, 1, none⟩ (.slice la s.late.length lc)).setCell ⟨w.heap.size, 2, none⟩ (.int .i64 s.lock)) bk ∧
  Drawn bk w (((W.setCell ⟨w.heap.size, 0, none⟩ (.slice ka s.kept.length kc)).setCell ⟨w.heap.size, 1, none⟩ (.slice la s.late.length lc)).setCell ⟨w.heap.size, 2, none⟩ (.int .i64 s.lock)) := by
 obtain ⟨hx, hO⟩ := OwS.into h.own hb h.res
 exact ⟨hx, hO.mono (Nat.le_of_lt hb), ((h.cur.setNew hk 0 _).setNew hk 1 _).setNew hk 2 _, ((h.drawn.setNew (Nat.le_refl _) 0 _).setNew (Nat.le_refl _) 1 _).setNew (Nat.le_refl _) 2 _⟩
theorem DS.de {B : Nat} (h : DS w bk W B s ka kc la lc) : DE w bk (w.heap.size + 1 + 1) (w.heap.size + 1) W s ka kc la lc := by
 obtain ⟨kv, lv, e, p1, p2, p3⟩ := h.own
 cases e
 exact ⟨h.box, p1, p2, p3, h.res, h.cur, h.drawn, stP_fit h.right, touch_base elemE p1 (by omega), touch_base elemE p2 (by omega)⟩
theorem DE.nothing (h : DE w bk base b0 W s ka kc la lc) (hk : bk < w.heap.size) (h0 : w.heap.size < b0) : DE w bk base b0 (W.setCell ⟨b0, 0, none⟩ (.slice none 0 0)) ⟨[], s.late, s.lock⟩ none 0 la lc :=
 ⟨h.box.put 0 (.slice none 0 0), .inl ⟨rfl, none, rfl⟩, ApR.put elemE h.ol h.tl _, .inl rfl, h.res.far (by omega) _, h.cur.setNew (by omega) 0 _, h.drawn.setNew (by omega) 0 _, ⟨fun e he => by (cases he), h.fit.2⟩, by simp [touch], h.tl⟩
theorem DE.lock (h : DE w bk base b0 W s ka kc la lc) (hk : bk < w.heap.size) (h0 : w.heap.size < b0) (x : Int) (hx : -9223372036854775808 ≤ x ∧ x ≤ 9223372036854775807) : DE w bk base b0 (W.setCell ⟨b0, 2, none⟩ (.int .i64 x)) ⟨s.kept, s.late, x⟩ ka kc la lc :=
 ⟨h.box.put 2 (.int .i64 x), ApR.put elemE h.ok h.tk _, ApR.put elemE h.ol h.tl _, h.sep, h.res.far (by omega) _, h.cur.setNew (by omega) 2 _, h.drawn.setNew (by omega) 2 _, ⟨h.fit.1, h.fit.2.1, hx⟩, h.tk, h.tl⟩
end
def Drew6 (w w' : World) (u : Value) (nk nl : Nat) : Prop := ∃ s, OwS w' w.heap.size u s ∧ fitS s ∧ s.kept.length ≤ nk ∧ s.late.length ≤ nl
set_option maxHeartbeats 8000000 in
theorem l6DrawRight_any (bk : Nat) (w : World) (hc : Cur w bk) :
  Calls Tryz.prog 142 #[.pointer (some ⟨bk, 0, none⟩)] w fun e w' => (∃ u, e = .returned u ∧ Drew6 w w' u 200 20) ∧ Cur w' bk ∧ Drawn bk w w' := by
 have ba : ∀ (w : World) o, Below w.heap.size w (w.alloc o) := fun w o => (Below.refl _ _).alloc (Nat.le_refl _) o
 have hk := hc.lt
 have D0 : DS w bk ((w.alloc (.cells #[.slice none 0 0, .slice none 0 0, .int .i64 0] 174)).alloc (.cells #[.slice none 0 0, .slice none 0 0, .int .i64 0] 174)) 0 zeroSt none 0 none 0 := by
  have b2 := bT (ba w (.cells #[.slice none 0 0, .slice none 0 0, .int .i64 0] 174)) (ba _ (.cells #[.slice none 0 0, .slice none 0 0, .int .i64 0] 174))
  have e1 : (w.alloc (.cells #[.slice none 0 0, .slice none 0 0, .int .i64 0] 174)).heap.size = w.heap.size + 1 := by simp
  have Z := BxZ.new (B := w.heap.size) (w.alloc (.cells #[.slice none 0 0, .slice none 0 0, .int .i64 0] 174)) [.slice none 0 0, .slice none 0 0, .int .i64 0] 174 (by simp)
  rw [e1] at Z
  exact ⟨zero_right, Z, OwS.zero _ _, (BxZ.new (B := w.heap.size) w [.slice none 0 0, .slice none 0 0, .int .i64 0] 174 (Nat.le_refl _)).below (ba _ _), hc.below b2, Drawn.of_below b2, fun j hj => by simp [touch] at hj, fun j hj => by simp [touch] at hj⟩
 clear hc
 go_enter Tryz.func142, Tryz.ntmps142
 go_wp2_with fail
 generalize (w.alloc (.cells #[.slice none 0 0, .slice none 0 0, .int .i64 0] 174)).alloc (.cells #[.slice none 0 0, .slice none 0 0, .int .i64 0] 174) = w0 at *
 refine (l1Below_any bk 8 (by omega) (by omega) _ D0.cur).mono ?_
 rintro e w1 ⟨⟨n, hn, rfl⟩, hc1, hd1⟩
 have D1 := D0.move hk hc1 hd1
 clear D0 hc1 hd1
 go_wp2
 go_loopw [5] (fun x wr => ∃ (k : Nat) (s : St) (ka : Option Addr) (kc : Nat) (la : Option Addr) (lc : Nat), x = .int .i64 (k : Int) ∧ k ≤ n ∧ DS w bk wr wr.heap.size s ka kc la lc) (fun x _ => n - (intOf x).toNat)
 case atStart => exact ⟨0, zeroSt, none, 0, none, 0, rfl, Nat.zero_le _, ⟨D1.right, D1.box, D1.own, D1.res, D1.cur, D1.drawn, fun j hj => by simp [touch] at hj, fun j hj => by simp [touch] at hj⟩⟩
 case round =>
  obtain ⟨k, s, ka, kc, la, lc, rfl, hkn, D⟩ := hrel
  clear D1
  by_cases hlt : (k : Int) < (n : Int)
  ·have CL := dH fun W (h : DS w bk W wr.heap.size s ka kc la lc) => l3DrawRight_any bk W h.cur
   have CP := dH fun W (h : DS w bk W wr.heap.size s ka kc la lc) e (he : entP e) => specPut_any _ s e W h.own.rs (stP_fit h.right) (entP_fit he)
   have HR := dH fun e => put_right (e := e) D.right
   have Dd := D.below hk (Below.refl _ _).drew
   have hwr := D.lt
   have DdZ := (D.below hk (ba wr (.cells #[.slice none 0 0, .slice none 0 0, .int .i64 0] 174))).below hk (Below.refl _ _).drew
   have BXZ : BxZ (wr.alloc (.cells #[.slice none 0 0, .slice none 0 0, .int .i64 0] 174)).drew w.heap.size wr.heap.size [.slice none 0 0, .slice none 0 0, .int .i64 0] := BxZ.drew' (BxZ.new (B := w.heap.size) wr [.slice none 0 0, .slice none 0 0, .int .i64 0] 174 (by omega))
   have hZs : wr.heap.size < (wr.alloc (.cells #[.slice none 0 0, .slice none 0 0, .int .i64 0] 174)).drew.heap.size := by
    have e : (wr.alloc (.cells #[.slice none 0 0, .slice none 0 0, .int .i64 0] 174)).heap.size = wr.heap.size + 1 := by simp
    show wr.heap.size < (wr.alloc (.cells #[.slice none 0 0, .slice none 0 0, .int .i64 0] 174)).heap.size
    rw [e]
    exact Nat.lt_succ_self _
   obtain ⟨k0, -⟩ := D.box.2 0 _ rfl
   obtain ⟨k1, -⟩ := D.box.2 1 _ rfl
   obtain ⟨k2, -⟩ := D.box.2 2 _ rfl
   go_wp2_with fail
   go_cut [6, 7] (fun sv ov wx => ∃ bo m mb ka' kc' la' lc', sv = .pointer (some ⟨bo, 0, none⟩) ∧ ov = .bool mb ∧ wr.heap.size ≤ bo ∧ DN w wx bo m ka' kc' la' lc' ∧ DS w bk wx wr.heap.size s ka kc la lc)
   case first =>
    go_region_held3 (fun W => W.cell? ⟨w.heap.size + 1, 0, none⟩ = some (.slice ka s.kept.length kc) ∧ W.cell? ⟨w.heap.size + 1, 1, none⟩ = some (.slice la s.late.length lc) ∧ W.cell? ⟨w.heap.size + 1, 2, none⟩ = some (.int .i64 s.lock)) (first | with_reducible exact ⟨q0, q1, q2⟩ | with_reducible exact ⟨p0, p1, p2⟩ | with_reducible exact ⟨qa0, qa1, qa2⟩ | with_reducible exact ⟨qb0, qb1, qb2⟩ | exact ⟨sO (sO (sO q0 (.inl (by omega))) (.inl (by omega))) (.inl (by omega)), sO (sO (sO q1 (.inl (by omega))) (.inl (by omega))) (.inl (by omega)), sO (sO (sO q2 (.inl (by omega))) (.inl (by omega))) (.inl (by omega))⟩ | go_keep)
     (first
      | (go_at_call 163; have D5z' := D5z; (with_reducible show Calls _ _ _ w5 _); refine (dU CP _ D5z e5 he5).mono ?_; rintro r w6 ⟨⟨u6, rfl, O6⟩, b6⟩; obtain ⟨k6, c6, l6, d6, rfl⟩ := O6.shape; have D6 := D5z.below hk b6; have BX6 := BX5.below b6; have hbo : wr.heap.size < w5.heap.size := hbo5; have q0 := (D6.box.2 0 _ rfl).1; have q1 := (D6.box.2 1 _ rfl).1; have q2 := (D6.box.2 2 _ rfl).1; obtain ⟨z0, f0⟩ := BX6.2 0 _ rfl; obtain ⟨z1, f1⟩ := BX6.2 1 _ rfl; obtain ⟨z2, f2⟩ := BX6.2 2 _ rfl; have R6 := dU HR e5; have hbe : wr.heap.size ≠ w.heap.size + 1 := by omega)
      | (go_at_call 163; have D5' := D5; (with_reducible show Calls _ _ _ w5 _); refine (dU CP _ D5 e5 he5).mono ?_; rintro r w6 ⟨⟨u6, rfl, O6⟩, b6⟩; obtain ⟨k6, c6, l6, d6, rfl⟩ := O6.shape; have D6 := D5.below hk b6; have hbo : wr.heap.size ≤ w6.heap.size := Nat.le_trans hbo5 b6.size; have Da := D6.below hk (ba w6 (.cells #[.slice none 0 0, .slice none 0 0, .int .i64 0] 174)); have qa0 := (Da.box.2 0 _ rfl).1; have qa1 := (Da.box.2 1 _ rfl).1; have qa2 := (Da.box.2 2 _ rfl).1; have Db := D6.below hk (ba w6 (.cells #[.slice k6 (putM s e5).1.kept.length c6, .slice l6 (putM s e5).1.late.length d6, .int .i64 (putM s e5).1.lock] 174)); have qb0 := (Db.box.2 0 _ rfl).1; have qb1 := (Db.box.2 1 _ rfl).1; have qb2 := (Db.box.2 2 _ rfl).1; have q0 := (D6.box.2 0 _ rfl).1; have q1 := (D6.box.2 1 _ rfl).1; have q2 := (D6.box.2 2 _ rfl).1; have R6 := dU HR e5)
      | (go_at_call 163; have D5' := D5; (with_reducible show Calls _ _ _ (w5.alloc _) _); refine (dU CP _ (D5.below hk (ba w5 (.cells #[.slice none 0 0, .slice none 0 0, .int .i64 0] 174))) e5 he5).mono ?_; rintro r w6 ⟨⟨u6, rfl, O6⟩, b6⟩; obtain ⟨k6, c6, l6, d6, rfl⟩ := O6.shape; have D6 := (D5.below hk (ba w5 (.cells #[.slice none 0 0, .slice none 0 0, .int .i64 0] 174))).below hk b6; have BX6 := (BxZ.new (B := w.heap.size) w5 [.slice none 0 0, .slice none 0 0, .int .i64 0] 174 (by omega)).below b6; have hbo : wr.heap.size ≤ w5.heap.size := hbo5; have hb6 := b6.size; have q0 := (D6.box.2 0 _ rfl).1; have q1 := (D6.box.2 1 _ rfl).1; have q2 := (D6.box.2 2 _ rfl).1; obtain ⟨z0, f0⟩ := BX6.2 0 _ rfl; obtain ⟨z1, f1⟩ := BX6.2 1 _ rfl; obtain ⟨z2, f2⟩ := BX6.2 2 _ rfl; have R6 := dU HR e5; have hbe : w5.heap.size ≠ w.heap.size + 1 := by omega)
      | (go_at_call 70; (with_reducible show Calls _ _ _ (World.drew (World.alloc _ _)) _); refine (dU CL _ DdZ).mono ?_; rintro r w5 ⟨⟨e5, he5, rfl⟩, hc5, hd5⟩; have D5z := DdZ.move hk hc5 hd5; have BX5 := BXZ.drawn hd5 (show wr.heap.size ≠ bk by omega); have hbo5 : wr.heap.size < w5.heap.size := Nat.lt_of_lt_of_le hZs hd5.size; have p0 := (D5z.box.2 0 _ rfl).1; have p1 := (D5z.box.2 1 _ rfl).1; have p2 := (D5z.box.2 2 _ rfl).1; clear hc5 hd5)
      | (go_at_call 70; refine (dU CL _ Dd).mono ?_; rintro r w5 ⟨⟨e5, he5, rfl⟩, hc5, hd5⟩; have D5 := Dd.move hk hc5 hd5; have hbo5 : wr.heap.size ≤ w5.heap.size := hd5.size; have p0 := (D5.box.2 0 _ rfl).1; have p1 := (D5.box.2 1 _ rfl).1; have p2 := (D5.box.2 2 _ rfl).1; clear hc5 hd5))
    all_goals
     go_wp2_with fail
     go_meet
     case rel =>
      first
      | exact ⟨w6.heap.size, _, _, k6, c6, l6, d6, rfl, rfl, hbo, DN.made R6 (by omega) (by omega) (by omega) O6 _, Db⟩
      | exact ⟨w5.heap.size, _, _, k6, c6, l6, d6, rfl, rfl, hbo, DN.put BX6 (by omega) R6 O6 (by simp), D6.set3 hk hbo (by omega) _ _ _⟩
      | exact ⟨wr.heap.size, _, _, k6, c6, l6, d6, rfl, rfl, Nat.le_refl _, DN.put BX6 (by omega) R6 O6 hbo5, D6.set3 hk (Nat.le_refl _) (by omega) _ _ _⟩
   case rest =>
    obtain ⟨bo, m, mb, ka', kc', la', lc', rfl, rfl, hbo, N2, D2⟩ := hcut
    have RS := dH (D.right)
    clear CL CP HR Dd DdZ BXZ hZs k0 k1 k2 D
    go_wp2_with fail
    refine (l1Below_any bk 6 (by omega) (by omega) _ D2.cur).mono ?_
    rintro r w3 ⟨⟨x, hx, rfl⟩, hc3, hd3⟩
    have D3 := D2.move hk hc3 hd3
    have N3 := N2.move hk hd3
    clear D2 N2 hc3 hd3
    have hlt3 := N3.box.lt
    have hfar := N3.far
    by_cases hx0 : x = 0
    ·subst hx0
     have CS := dH (specSync_any _ s w3 D3.own.rs (stP_fit D3.right))
     have RC := dH (crash_right (k := 1048575) D3.right)
     generalize crashM s 1048575 = C at *
     obtain ⟨c, cb⟩ := C
     simp only at RC CS
     obtain ⟨k0, -⟩ := D3.box.2 0 _ rfl
     obtain ⟨k1, -⟩ := D3.box.2 1 _ rfl
     obtain ⟨k2, -⟩ := D3.box.2 2 _ rfl
     go_wp2_with fail
     refine (dU CS).mono ?_
     rintro r w4 ⟨⟨u, rfl, O4⟩, b4⟩
     obtain ⟨k4, c4, l4, d4, rfl⟩ := O4.shape
     have D4 := D3.below hk b4
     have N4 := N3.below b4
     obtain ⟨y0, g0⟩ := N4.box.2 0 _ rfl
     obtain ⟨y1, g1⟩ := N4.box.2 1 _ rfl
     obtain ⟨y2, g2⟩ := N4.box.2 2 _ rfl
     have N5 := DN.put N4.box hfar (dU RC) O4 hlt3
     have D5 := D4.set3 hk hbo hfar (.slice k4 c.kept.length c4) (.slice l4 c.late.length d4) (.int .i64 c.lock)
     have hl4 := N4.box.lt
     have hbe : bo ≠ w.heap.size + 1 := by omega
     have HD := dH (D5.weak (B' := (((w4.setCell ⟨bo, 0, none⟩ (.slice k4 c.kept.length c4)).setCell ⟨bo, 1, none⟩ (.slice l4 c.late.length d4)).setCell ⟨bo, 2, none⟩ (.int .i64 c.lock)).heap.size) (by simp only [World.size_setCell]; omega))
     have HT := dH (D5.take N5 hk)
     obtain ⟨z0, f0⟩ := D4.box.2 0 _ rfl
     obtain ⟨z1, f1⟩ := D4.box.2 1 _ rfl
     obtain ⟨z2, f2⟩ := D4.box.2 2 _ rfl
     clear O4 b4 D4 N4 D3 N3 CS k0 k1 k2 D5 N5 RC
     cases cb
     ·go_wp2
      go_roundw
      case rel => exact ⟨k + 1, s, ka, kc, la, lc, by go_num, by omega, dU HD⟩
      case measure => simp [intOf]; omega
     ·go_wp2
      go_roundw
      case rel => exact ⟨k + 1, c, k4, c4, l4, d4, by go_num, by omega, (dU HT).weak (by simp)⟩
      case measure => simp [intOf]; omega
    by_cases hx1 : x = 1
    ·subst hx1
     have CS := dH (specSync_any _ m w3 N3.own.rs (stP_fit N3.right))
     have RC := dH (crash_right (k := 1048575) N3.right)
     generalize crashM m 1048575 = C at *
     obtain ⟨c, cb⟩ := C
     simp only at RC CS
     obtain ⟨k0, -⟩ := N3.box.2 0 _ rfl
     obtain ⟨k1, -⟩ := N3.box.2 1 _ rfl
     obtain ⟨k2, -⟩ := N3.box.2 2 _ rfl
     go_wp2_with fail
     refine (dU CS).mono ?_
     rintro r w4 ⟨⟨u, rfl, O4⟩, b4⟩
     obtain ⟨k4, c4, l4, d4, rfl⟩ := O4.shape
     have D4 := D3.below hk b4
     have N4 := N3.below b4
     obtain ⟨y0, g0⟩ := N4.box.2 0 _ rfl
     obtain ⟨y1, g1⟩ := N4.box.2 1 _ rfl
     obtain ⟨y2, g2⟩ := N4.box.2 2 _ rfl
     have N5 := DN.put N4.box hfar (dU RC) O4 hlt3
     have D5 := D4.set3 hk hbo hfar (.slice k4 c.kept.length c4) (.slice l4 c.late.length d4) (.int .i64 c.lock)
     have hl4 := N4.box.lt
     have hbe : bo ≠ w.heap.size + 1 := by omega
     have HD := dH (D5.weak (B' := (((w4.setCell ⟨bo, 0, none⟩ (.slice k4 c.kept.length c4)).setCell ⟨bo, 1, none⟩ (.slice l4 c.late.length d4)).setCell ⟨bo, 2, none⟩ (.int .i64 c.lock)).heap.size) (by simp only [World.size_setCell]; omega))
     have HT := dH (D5.take N5 hk)
     obtain ⟨z0, f0⟩ := D4.box.2 0 _ rfl
     obtain ⟨z1, f1⟩ := D4.box.2 1 _ rfl
     obtain ⟨z2, f2⟩ := D4.box.2 2 _ rfl
     clear O4 b4 D4 N4 D3 N3 CS k0 k1 k2 D5 N5 RC
     cases cb
     ·go_wp2
      go_roundw
      case rel => exact ⟨k + 1, s, ka, kc, la, lc, by go_num, by omega, dU HD⟩
      case measure => simp [intOf]; omega
     ·go_wp2
      go_roundw
      case rel => exact ⟨k + 1, c, k4, c4, l4, d4, by go_num, by omega, (dU HT).weak (by simp)⟩
      case measure => simp [intOf]; omega
    by_cases hx2 : x = 2
    ·subst hx2
     go_wp2_with fail
     refine (l1Once_any bk 3 (by omega) (by omega) _ D3.cur).mono ?_
     rintro r w4 ⟨⟨ob, rfl⟩, hc4, hd4⟩
     have D4 := D3.move hk hc4 hd4
     have N4 := N3.move hk hd4
     clear D3 N3 hc4 hd4 hlt3
     have hlt4 := N4.box.lt
     cases ob
     ·have hbz := D4.weak (B' := w4.heap.size) (by have := N4.box.lt; omega)
      have HD := dH hbz
      have HT := dH (D4.take N4 hk)
      obtain ⟨n0, -⟩ := N4.box.2 0 _ rfl
      obtain ⟨n1, -⟩ := N4.box.2 1 _ rfl
      obtain ⟨n2, -⟩ := N4.box.2 2 _ rfl
      obtain ⟨z0, f0⟩ := D4.box.2 0 _ rfl
      obtain ⟨z1, f1⟩ := D4.box.2 1 _ rfl
      obtain ⟨z2, f2⟩ := D4.box.2 2 _ rfl
      have hfr := N4.far
      clear hbz D4 N4
      generalize hmb : mb = bb at *
      clear hmb
      cases bb
      ·go_wp2
       go_roundw
       case rel => exact ⟨k + 1, s, ka, kc, la, lc, by go_num, by omega, dU HD⟩
       case measure => simp [intOf]; omega
      ·go_wp2
       go_roundw
       case rel => exact ⟨k + 1, m, ka', kc', la', lc', by go_num, by omega, (dU HT).weak (by simp)⟩
       case measure => simp [intOf]; omega
     ·have CB := dH fun W (h : DS w bk W wr.heap.size s ka kc la lc) => l1Below_any bk 4 (by omega) (by omega) W h.cur
      have CSe := dH fun W (h : DS w bk W wr.heap.size s ka kc la lc) (y : Nat) => specSeal_any _ s (y : Int) W h.own.rs (stP_fit h.right)
      have HR := dH fun (y : Nat) => seal_right (k := (y : Int)) D4.right
      have Dd := D4.below hk (Below.refl _ _).drew
      have Nd := N4.below (Below.refl _ _).drew
      obtain ⟨k0, -⟩ := D4.box.2 0 _ rfl
      obtain ⟨k1, -⟩ := D4.box.2 1 _ rfl
      obtain ⟨k2, -⟩ := D4.box.2 2 _ rfl
      have hbe : bo ≠ w.heap.size + 1 := by omega
      go_wp2_with fail
      go_region_held3 (fun W => W.cell? ⟨w.heap.size + 1, 0, none⟩ = some (.slice ka s.kept.length kc) ∧ W.cell? ⟨w.heap.size + 1, 1, none⟩ = some (.slice la s.late.length lc) ∧ W.cell? ⟨w.heap.size + 1, 2, none⟩ = some (.int .i64 s.lock)) (first | with_reducible exact ⟨q0, q1, q2⟩ | with_reducible exact ⟨p0, p1, p2⟩ | exact ⟨sO (sO (sO q0 (.inl (by omega))) (.inl (by omega))) (.inl (by omega)), sO (sO (sO q1 (.inl (by omega))) (.inl (by omega))) (.inl (by omega)), sO (sO (sO q2 (.inl (by omega))) (.inl (by omega))) (.inl (by omega))⟩ | go_keep)
       (first
        | (go_at_call 165; refine (dU CSe _ D5 y5).mono ?_; rintro r w6 ⟨⟨u6, rfl, O6⟩, b6⟩; obtain ⟨k6, c6, l6, d6, rfl⟩ := O6.shape; have D6 := D5.below hk b6; have N6 := N5.below b6; have q0 := (D6.box.2 0 _ rfl).1; have q1 := (D6.box.2 1 _ rfl).1; have q2 := (D6.box.2 2 _ rfl).1; obtain ⟨z0, f0⟩ := N6.box.2 0 _ rfl; obtain ⟨z1, f1⟩ := N6.box.2 1 _ rfl; obtain ⟨z2, f2⟩ := N6.box.2 2 _ rfl; have R6 := dU HR y5)
        | (go_at_call 24; refine (dU CB _ Dd).mono ?_; rintro r w5 ⟨⟨y5, hy5, rfl⟩, hc5, hd5⟩; have D5 := Dd.move hk hc5 hd5; have N5 := Nd.move hk hd5; have hlt5 := N5.box.lt; have p0 := (D5.box.2 0 _ rfl).1; have p1 := (D5.box.2 1 _ rfl).1; have p2 := (D5.box.2 2 _ rfl).1))
      all_goals
       have N7 := DN.put N6.box hfar R6 O6 hlt5
       have D7 := D6.set3 hk hbo hfar (.slice k6 (sealM s (y5 : Int)).1.kept.length c6) (.slice l6 (sealM s (y5 : Int)).1.late.length d6) (.int .i64 (sealM s (y5 : Int)).1.lock)
       clear z0 z1 z2 f0 f1 f2 q0 q1 q2 p0 p1 p2 k0 k1 k2 O6 D6 N6 D5 N5 Dd Nd D4 N4 R6 HR CB CSe b6
       generalize sealM s (y5 : Int) = C at *
       obtain ⟨c, cb⟩ := C
       simp only at N7 D7
       simp only
       generalize ((w6.setCell ⟨bo, 0, none⟩ (.slice k6 c.kept.length c6)).setCell ⟨bo, 1, none⟩ (.slice l6 c.late.length d6)).setCell ⟨bo, 2, none⟩ (.int .i64 c.lock) = w7 at *
       have hbz := D7.weak (B' := w7.heap.size) (by have := N7.box.lt; omega)
       have HD := dH hbz
       have HT := dH (D7.take N7 hk)
       obtain ⟨n0, -⟩ := N7.box.2 0 _ rfl
       obtain ⟨n1, -⟩ := N7.box.2 1 _ rfl
       obtain ⟨n2, -⟩ := N7.box.2 2 _ rfl
       obtain ⟨z0, f0⟩ := D7.box.2 0 _ rfl
       obtain ⟨z1, f1⟩ := D7.box.2 1 _ rfl
       obtain ⟨z2, f2⟩ := D7.box.2 2 _ rfl
       have hfr := N7.far
       clear hbz D7 N7
       generalize hmb : cb = bb at *
       clear hmb
       cases bb
       ·go_wp2
        go_roundw
        case rel => exact ⟨k + 1, s, ka, kc, la, lc, by go_num, by omega, dU HD⟩
        case measure => simp [intOf]; omega
       ·go_wp2
        go_roundw
        case rel => exact ⟨k + 1, c, k6, c6, l6, d6, by go_num, by omega, (dU HT).weak (by simp)⟩
        case measure => simp [intOf]; omega
    have hbz := D3.weak (B' := w3.heap.size) (by have := N3.box.lt; omega)
    have HD := dH hbz
    have HT := dH (D3.take N3 hk)
    obtain ⟨n0, -⟩ := N3.box.2 0 _ rfl
    obtain ⟨n1, -⟩ := N3.box.2 1 _ rfl
    obtain ⟨n2, -⟩ := N3.box.2 2 _ rfl
    obtain ⟨z0, f0⟩ := D3.box.2 0 _ rfl
    obtain ⟨z1, f1⟩ := D3.box.2 1 _ rfl
    obtain ⟨z2, f2⟩ := D3.box.2 2 _ rfl
    have hfr := N3.far
    clear hbz D3 N3
    generalize hmb : mb = bb at *
    clear hmb
    cases bb
    ·go_wp2
     go_roundw
     case rel => exact ⟨k + 1, s, ka, kc, la, lc, by go_num, by omega, dU HD⟩
     case measure => simp [intOf]; omega
    ·go_wp2
     go_roundw
     case rel => exact ⟨k + 1, m, ka', kc', la', lc', by go_num, by omega, (dU HT).weak (by simp)⟩
     case measure => simp [intOf]; omega
  ·have DD := D.de
   have hKL : s.kept.length ≤ 200 := D.right.1.1
   have hLL : s.late.length ≤ 20 := D.right.2.1.1
   have hw2 := D.lt
   clear D
   go_wp2_with fail
   refine (l1Once_any bk 40 (by omega) (by omega) _ DD.cur).mono ?_
   rintro r w3 ⟨⟨ob, rfl⟩, hc3, hd3⟩
   have D3 := DD.move hk (by omega) (by omega) hc3 hd3
   have hs3 := hd3.size
   clear DD hc3 hd3
   cases ob
   ·generalize s = X at *
    generalize ka = xa at *
    generalize kc = xc at *
    generalize la = ya at *
    generalize lc = yc at *
    obtain ⟨hx, hO, hC, hD⟩ := D3.out hk (by omega)
    have HX := dH hx
    have HO := dH hO
    have HC := dH hC
    have HDD := dH hD
    obtain ⟨m0, -⟩ := D3.box.2 0 _ rfl
    obtain ⟨m1, -⟩ := D3.box.2 1 _ rfl
    obtain ⟨m2, -⟩ := D3.box.2 2 _ rfl
    obtain ⟨z0, f0⟩ := D3.res.2 0 _ rfl
    obtain ⟨z1, f1⟩ := D3.res.2 1 _ rfl
    obtain ⟨z2, f2⟩ := D3.res.2 2 _ rfl
    have HF := dH D3.fit
    clear hx hO hC hD D3
    go_wp2
    generalize ((w3.setCell ⟨w.heap.size, 0, none⟩ (.slice xa X.kept.length xc)).setCell ⟨w.heap.size, 1, none⟩ (.slice ya X.late.length yc)).setCell ⟨w.heap.size, 2, none⟩ (.int .i64 X.lock) = V at *
    have q0 := dU HX 0 _ rfl
    have q1 := dU HX 1 _ rfl
    have q2 := dU HX 2 _ rfl
    clear z0 z1 z2 f0 f1 f2 m0 m1 m2
    refine bodyPost_ret (v := .agg #[.slice xa X.kept.length xc, .slice ya X.late.length yc, .int .i64 X.lock]) (by simp [results, Tryz.results142, go_sem, q0, q1, q2]) rfl ⟨⟨_, rfl, X, dU HO, dU HF, hKL, hLL⟩, dU HC, dU HDD⟩
   ·have D4 := D3.nothing hk (by omega)
    obtain ⟨z0, f0⟩ := D3.box.2 0 _ rfl
    have hs4 : w.heap.size + 1 + 1 ≤ (w3.setCell ⟨w.heap.size + 1, 0, none⟩ (.slice none 0 0)).heap.size := by rw [World.size_setCell]; omega
    clear D3
    go_wp2_with fail
    have hY : s.late.length ≤ 20 := hLL
    generalize w3.setCell ⟨w.heap.size + 1, 0, none⟩ (.slice none 0 0) = w4 at *
    clear z0 f0 hKL hLL
    go_loopw [8] (fun x wq => ∃ (a : Nat) (X : St) (xa : Option Addr) (xc : Nat) (ya : Option Addr) (yc : Nat), x = .int .i64 (a : Int) ∧ 1 ≤ a ∧ a ≤ 5 ∧ X.kept.length ≤ 50 * (a - 1) ∧ X.late.length ≤ 20 ∧ DE w bk (w.heap.size + 1 + 1) (w.heap.size + 1) wq X xa xc ya yc ∧ w.heap.size + 1 + 1 ≤ wq.heap.size) (fun x _ => 6 - (intOf x).toNat)
    case atStart => exact ⟨1, ⟨[], s.late, s.lock⟩, none, 0, la, lc, rfl, Nat.le_refl _, by omega, by simp, hY, D4, hs4⟩
    case round =>
     obtain ⟨a, X, xa, xc, ya, yc, rfl, ha1, ha, hX, hXl, D5, hs5⟩ := hrel
     clear D4 hs4 hY
     by_cases h4 : (a : Int) ≤ 4
     ·have ha4 : a ≤ 4 := by omega
      go_wp2
      go_loopw [9] (fun x wq => ∃ (b : Nat) (X : St) (xa : Option Addr) (xc : Nat) (ya : Option Addr) (yc : Nat), x = .int .i64 (b : Int) ∧ 1 ≤ b ∧ b ≤ 51 ∧ X.kept.length ≤ 50 * (a - 1) + (b - 1) ∧ X.late.length ≤ 20 ∧ DE w bk (w.heap.size + 1 + 1) (w.heap.size + 1) wq X xa xc ya yc ∧ w.heap.size + 1 + 1 ≤ wq.heap.size) (fun x _ => 52 - (intOf x).toNat)
      case atStart => exact ⟨1, X, xa, xc, ya, yc, rfl, Nat.le_refl _, by omega, by omega, hXl, D5, hs5⟩
      case round =>
       clear D5 hs5 hX hXl
       clear xa xc ya yc X
       obtain ⟨b, X, xa, xc, ya, yc, rfl, hb1, hb, hX, hXl, D5, hs5⟩ := hrel
       by_cases h50 : (b : Int) ≤ 50
       ·have hb50 : b ≤ 50 := by omega
        have bE := ba wr (.cells #[.int .i64 (4294967296 * (a : Int) + (b : Int)), .int .i64 0, .bool false, .string ⟨#[]⟩] 36)
        have D6 := (D5.below hk (by omega) (by omega) bE).below hk (by omega) (by omega) (Below.refl _ _).drew
        have hR := (rw_one wr ⟨4294967296 * (a : Int) + (b : Int), 0, false, ⟨#[]⟩⟩ 36 1 (by omega)).below (Below.refl _ _).drew
        obtain ⟨a', c', w7, hrun, N7, D7⟩ := D6.addK hk (by omega) (by omega) (Nat.le_trans hs5 bE.size) ⟨4294967296 * (a : Int) + (b : Int), 0, false, ⟨#[]⟩⟩ ⟨by simp only; omega, by simp only; omega, by simp only; omega, by simp only; omega, Nat.zero_le _⟩ (by omega) 27 _ hR
        have CPl := dH fun W => l1Place_in (a : Int) (b : Int) (by omega) (by omega) (by omega) (by omega) W
        have HD7 := dH D7
        have hs7 := D7.box.lt
        obtain ⟨k0, -⟩ := D5.box.2 0 _ rfl
        obtain ⟨k0a, -⟩ := (D5.below hk (by omega) (by omega) bE).box.2 0 _ rfl
        obtain ⟨n0, f0⟩ := N7.2 0 _ rfl
        clear D5 D6 hR N7 D7 bE
        generalize hP : 4294967296 * (a : Int) + (b : Int) = P at *
        go_wp2
        go_region_law (first | (refine step_appRun rfl _ _ 27 27 rfl _ _ rfl rfl hrun ?_) | (rw [if_pos (by rfl)]; go_simp; go_at_call 27; refine (dU CPl _).mono ?_; rintro r w6 ⟨rfl, rfl⟩; go_simp))
        all_goals
         go_wp2
         go_roundw
         case rel => exact ⟨b + 1, ⟨X.kept ++ [⟨P, 0, false, ⟨#[]⟩⟩], X.late, X.lock⟩, a', c', ya, yc, by go_num, by omega, by omega, by simp only [List.length_append, List.length_singleton]; omega, hXl, dU HD7, hs7⟩
         case measure => simp [intOf]; omega
       ·go_wp2
        go_roundw
        case rel => exact ⟨a + 1, X, xa, xc, ya, yc, by go_num, by omega, by omega, by omega, hXl, D5, hs5⟩
        case measure => simp [intOf]; omega
     ·have hKL : X.kept.length ≤ 200 := by omega
      have hLL := hXl
      obtain ⟨hx, hO, hC, hD⟩ := D5.out hk (by omega)
      have HX := dH hx
      have HO := dH hO
      have HC := dH hC
      have HDD := dH hD
      obtain ⟨m0, -⟩ := D5.box.2 0 _ rfl
      obtain ⟨m1, -⟩ := D5.box.2 1 _ rfl
      obtain ⟨m2, -⟩ := D5.box.2 2 _ rfl
      obtain ⟨z0, f0⟩ := D5.res.2 0 _ rfl
      obtain ⟨z1, f1⟩ := D5.res.2 1 _ rfl
      obtain ⟨z2, f2⟩ := D5.res.2 2 _ rfl
      have HF := dH D5.fit
      clear hx hO hC hD D5
      go_wp2
      generalize ((wr.setCell ⟨w.heap.size, 0, none⟩ (.slice xa X.kept.length xc)).setCell ⟨w.heap.size, 1, none⟩ (.slice ya X.late.length yc)).setCell ⟨w.heap.size, 2, none⟩ (.int .i64 X.lock) = V at *
      have q0 := dU HX 0 _ rfl
      have q1 := dU HX 1 _ rfl
      have q2 := dU HX 2 _ rfl
      clear z0 z1 z2 f0 f1 f2 m0 m1 m2
      refine bodyPost_ret (v := .agg #[.slice xa X.kept.length xc, .slice ya X.late.length yc, .int .i64 X.lock]) (by simp [results, Tryz.results142, go_sem, q0, q1, q2]) rfl ⟨⟨_, rfl, X, dU HO, dU HF, hKL, hLL⟩, dU HC, dU HDD⟩
theorem zeros_new (w : World) (n : Nat) (hn : n ≤ 1000) : ∃ (W : World) (S : ByteArray), (Instr.makeSlice 22 (.int .i64 (n : Int)) (.int .i64 (n : Int))).run Tryz.prog w = .ok (.slice (some ⟨w.heap.size, 0, none⟩) n n) W ∧
  (convert 22 9 (.slice (some ⟨w.heap.size, 0, none⟩) n n)).run Tryz.prog W = .ok (.string S) W ∧ S.size = n ∧ Below w.heap.size w W := by
 obtain ⟨i0, hi, hz0, hz1, hz2⟩ := info_parts info8a
 obtain ⟨W, hmk, hown, hg⟩ := run_makeSlice_full (P := Tryz.prog) w w.heap.size 22 5 i0 (.int .u8 0) 1 Tryz.underlying22 hi hz0 hz1 .i64 .i64 n (by omega) (by rw [hz2]; omega) (by unfold maxLen; omega) (Nat.le_refl _)
 have e : (madeCells (Value.int .u8 0).cells (n * 1)).toList = bcells (List.replicate n 0) := by
  show (madeCells #[Value.int .u8 0] (n * 1)).toList = _
  rw [toList_madeCells_one, Nat.mul_one]
  simp [bcells]
 rw [e] at hown
 have ho := ownB_of_row hown
 obtain ⟨h0, a, cap, hs, hcap, h⟩ := ho
 injection hs with h1 h2 h3
 have hl : (List.replicate n (0 : UInt8)).length = n := by simp
 refine ⟨W, ⟨(List.replicate n (0 : UInt8)).toArray⟩, hmk, ?_, by show (List.replicate n (0 : UInt8)).toArray.size = n; simp, (Below.refl _ _).grown hg (Nat.le_refl _) (fun k hk => by cases hk)⟩
 rcases h with h | ⟨b, off, h, hb, hc⟩
 ·obtain rfl : n = 0 := by rw [← hl, h]; rfl
  exact conv_none w.heap.size 0 0
 ·rw [← h1] at h
  cases h
  have hcut := conv_cut (w := W) (b := w.heap.size) (off := 0) (p := 0) (n := n) (cap := n) (bs := List.replicate n (0 : UInt8)) (fun i hi => (hc i hi).1) (by simp)
  have et : ((List.replicate n (0 : UInt8)).drop 0).take n = List.replicate n 0 := by rw [List.drop_zero, List.take_of_length_le (by simp)]
  rw [et] at hcut
  exact hcut
theorem Ent.fits_of {e : Ent} (h : entP e) : e.fits := by
 obtain ⟨⟨p0, p1, p2, p3, p4⟩, v0, v1, hv, hd, hh⟩ := h
 exact ⟨by omega, by omega, by omega, by omega, by omega⟩
set_option maxHeartbeats 2000000 in
theorem l3Draw_any (bk : Nat) (w : World) (hc : Cur w bk) :
  Calls Tryz.prog 25 #[.pointer (some ⟨bk, 0, none⟩)] w fun r w' => (∃ e : Ent, (e.fits ∧ e.data.size ≤ 41) ∧ r = .returned e.val) ∧ Cur w' bk ∧ Drawn bk w w' := by
 have hlt := hc.lt
 have ha : ∀ o, Below w.heap.size w (w.alloc o) := fun o => (Below.refl _ _).alloc (Nat.le_refl _) o
 go_enter Tryz.func25, Tryz.ntmps25
 go_wp2_with fail
 have Z0 := FourZ.fresh w (.int .i64 0) (.int .i64 0) (.bool false) (.string ⟨#[]⟩) 36
 have hc0 := hc.below (ha (.cells #[.int .i64 0, .int .i64 0, .bool false, .string ⟨#[]⟩] 36))
 have D0 := Drawn.of_below (bk := bk) (ha (.cells #[.int .i64 0, .int .i64 0, .bool false, .string ⟨#[]⟩] 36))
 refine (l3DrawRight_any bk _ hc0).mono ?_
 rintro e w1 ⟨⟨m, hm, rfl⟩, hc1, hd1⟩
 obtain ⟨m1, m2, m3, m4, -⟩ := Ent.fits_of hm
 have m5 : m.data.size ≤ 40 := hm.2.2.2.2.1
 obtain ⟨P, WV, HO, T⟩ := m
 simp only [Ent.val] at *
 clear hm
 have Z1 := Z0.drawn hd1 (by omega)
 have D1 := D0.trans hd1
 clear Z0 D0 hc0 hd1 ha hc
 go_wp2_with fail
 have ha3 : ∀ o, Below w1.heap.size w1 (w1.alloc o) := fun o => (Below.refl _ _).alloc (Nat.le_refl _) o
 have E2 := FourZ.fresh w1 (.int .i64 P) (.int .i64 WV) (.bool HO) (.string T) 36
 have Z2 := Z1.kept (ha3 (.cells #[.int .i64 P, .int .i64 WV, .bool HO, .string T] 36))
 have hc2 := hc1.below (ha3 (.cells #[.int .i64 P, .int .i64 WV, .bool HO, .string T] 36))
 have D2 := D1.trans (Drawn.of_below (ha3 (.cells #[.int .i64 P, .int .i64 WV, .bool HO, .string T] 36)))
 have hR := dCell_lt Z1.2.1.1
 generalize hbe : w1.heap.size = be at *
 generalize w1.alloc (.cells #[.int .i64 P, .int .i64 WV, .bool HO, .string T] 36) = w2 at *
 clear ha3 hbe Z1 D1 hc1
 refine (l1Below_any bk 15 (by omega) (by omega) _ hc2).mono ?_
 rintro e w3 ⟨⟨z, hz, rfl⟩, hc3, hd3⟩
 have E3 := E2.drawn hd3 (by omega)
 have Z3 := Z2.drawn hd3 (by omega)
 have D3 := D2.trans hd3
 clear E2 Z2 D2 hd3 hc2
 obtain ⟨-, ⟨a0, a1, a2, a3⟩, y0, y1, y2, y3⟩ := id E3
 by_cases z0 : ((z : Int) == 0) = true
 ·go_wp2_with fail
  refine (l1DrawPlace_any bk _ hc3).mono ?_
  rintro e w4 ⟨⟨x, hx, rfl⟩, hc4, hd4⟩
  obtain ⟨x1, x2⟩ := hx
  have E4 := E3.drawn hd4 (by omega)
  have Z4 := Z3.drawn hd4 (by omega)
  have D4 := D3.trans hd4
  clear E3 Z3 D3 hd4 hc3 a0 a1 a2 a3 y0 y1 y2 y3
  obtain ⟨-, ⟨a0, a1, a2, a3⟩, y0, y1, y2, y3⟩ := id E4
  have E5 := E4.put0 (.int .i64 x)
  have Z5 := Z4.far (b' := be) (o := 0) (by omega) (.int .i64 x)
  have hc5 := hc4.setNew (b := be) (by omega) 0 (.int .i64 x)
  have D5 := D4.setNew (b := be) (by omega) 0 (.int .i64 x)
  obtain ⟨-, ⟨e0, e1, e2, e3⟩, -⟩ := id E5
  obtain ⟨-, ⟨r0, r1, r2, r3⟩, g0, g1, g2, g3⟩ := id Z5
  go_wp2
  obtain ⟨f0, f1, f2, f3⟩ := FourZ.set Z5 (.int .i64 (x)) (.int .i64 (WV)) (.bool HO) (.string T)
  have hcE := (((hc5.setNew (b := w.heap.size) hlt 0 (.int .i64 (x))).setNew (b := w.heap.size) hlt 1 (.int .i64 (WV))).setNew (b := w.heap.size) hlt 2 (.bool HO)).setNew (b := w.heap.size) hlt 3 (.string T)
  have hdE := (((D5.setNew (b := w.heap.size) (Nat.le_refl _) 0 (.int .i64 (x))).setNew (b := w.heap.size) (Nat.le_refl _) 1 (.int .i64 (WV))).setNew (b := w.heap.size) (Nat.le_refl _) 2 (.bool HO)).setNew (b := w.heap.size) (Nat.le_refl _) 3 (.string T)
  generalize (((((w4.setCell ⟨be, 0, none⟩ (.int .i64 x)).setCell ⟨w.heap.size, 0, none⟩ (.int .i64 (x))).setCell ⟨w.heap.size, 1, none⟩ (.int .i64 (WV))).setCell ⟨w.heap.size, 2, none⟩ (.bool HO)).setCell ⟨w.heap.size, 3, none⟩ (.string T)) = V at *
  refine bodyPost_ret (v := (⟨x, WV, HO, T⟩ : Ent).val) (by simp [results, Tryz.results25, go_sem, f0, f1, f2, f3, Ent.val]) rfl ⟨⟨_, ⟨⟨by simp only; omega, by simp only; omega, by simp only; omega, by simp only; omega, by simp only; omega⟩, by simp only; omega⟩, rfl⟩, hcE, hdE⟩
 ·have z0' : ((z : Int) == 0) = false := by simpa using z0
  clear z0
  by_cases z1 : ((z : Int) == 1) = true
  ·go_wp2_with fail
   refine (pick_new hc3 [-1, 1, 30, 31] _ (by simp) (by simp) _).mono ?_
   rintro e w4 ⟨⟨x, hx, rfl⟩, hc4, hd4⟩
   have hx0 : -1 ≤ x ∧ x ≤ 31 := by
    simp only [List.mem_cons, List.mem_nil_iff, or_false] at hx
    omega
   clear hx
   have E4 := E3.drawn hd4 (by omega)
   have Z4 := Z3.drawn hd4 (by omega)
   have D4 := D3.trans hd4
   clear E3 Z3 D3 hd4 hc3 a0 a1 a2 a3 y0 y1 y2 y3
   obtain ⟨-, ⟨a0, a1, a2, a3⟩, y0, y1, y2, y3⟩ := id E4
   have E5 := E4.put1 (.int .i64 x)
   have Z5 := Z4.far (b' := be) (o := 1) (by omega) (.int .i64 x)
   have hc5 := hc4.setNew (b := be) (by omega) 1 (.int .i64 x)
   have D5 := D4.setNew (b := be) (by omega) 1 (.int .i64 x)
   obtain ⟨-, ⟨e0, e1, e2, e3⟩, -⟩ := id E5
   obtain ⟨-, ⟨r0, r1, r2, r3⟩, g0, g1, g2, g3⟩ := id Z5
   go_wp2
   obtain ⟨f0, f1, f2, f3⟩ := FourZ.set Z5 (.int .i64 (P)) (.int .i64 (x)) (.bool HO) (.string T)
   have hcE := (((hc5.setNew (b := w.heap.size) hlt 0 (.int .i64 (P))).setNew (b := w.heap.size) hlt 1 (.int .i64 (x))).setNew (b := w.heap.size) hlt 2 (.bool HO)).setNew (b := w.heap.size) hlt 3 (.string T)
   have hdE := (((D5.setNew (b := w.heap.size) (Nat.le_refl _) 0 (.int .i64 (P))).setNew (b := w.heap.size) (Nat.le_refl _) 1 (.int .i64 (x))).setNew (b := w.heap.size) (Nat.le_refl _) 2 (.bool HO)).setNew (b := w.heap.size) (Nat.le_refl _) 3 (.string T)
   generalize (((((w4.setCell ⟨be, 1, none⟩ (.int .i64 x)).setCell ⟨w.heap.size, 0, none⟩ (.int .i64 (P))).setCell ⟨w.heap.size, 1, none⟩ (.int .i64 (x))).setCell ⟨w.heap.size, 2, none⟩ (.bool HO)).setCell ⟨w.heap.size, 3, none⟩ (.string T)) = V at *
   refine bodyPost_ret (v := (⟨P, x, HO, T⟩ : Ent).val) (by simp [results, Tryz.results25, go_sem, f0, f1, f2, f3, Ent.val]) rfl ⟨⟨_, ⟨⟨by simp only; omega, by simp only; omega, by simp only; omega, by simp only; omega, by simp only; omega⟩, by simp only; omega⟩, rfl⟩, hcE, hdE⟩
  ·have z1' : ((z : Int) == 1) = false := by simpa using z1
   clear z1
   by_cases z2 : ((z : Int) == 2) = true
   ·have E5 := E3.put2 (.bool true)
    have Z5 := Z3.far (b' := be) (o := 2) (by omega) (.bool true)
    have hc5 := hc3.setNew (b := be) (by omega) 2 (.bool true)
    have D5 := D3.setNew (b := be) (by omega) 2 (.bool true)
    obtain ⟨-, ⟨e0, e1, e2, e3⟩, -⟩ := id E5
    obtain ⟨-, ⟨r0, r1, r2, r3⟩, g0, g1, g2, g3⟩ := id Z5
    go_wp2
    obtain ⟨f0, f1, f2, f3⟩ := FourZ.set Z5 (.int .i64 (P)) (.int .i64 (WV)) (.bool true) (.string T)
    have hcE := (((hc5.setNew (b := w.heap.size) hlt 0 (.int .i64 (P))).setNew (b := w.heap.size) hlt 1 (.int .i64 (WV))).setNew (b := w.heap.size) hlt 2 (.bool true)).setNew (b := w.heap.size) hlt 3 (.string T)
    have hdE := (((D5.setNew (b := w.heap.size) (Nat.le_refl _) 0 (.int .i64 (P))).setNew (b := w.heap.size) (Nat.le_refl _) 1 (.int .i64 (WV))).setNew (b := w.heap.size) (Nat.le_refl _) 2 (.bool true)).setNew (b := w.heap.size) (Nat.le_refl _) 3 (.string T)
    generalize (((((w3.setCell ⟨be, 2, none⟩ (.bool true)).setCell ⟨w.heap.size, 0, none⟩ (.int .i64 (P))).setCell ⟨w.heap.size, 1, none⟩ (.int .i64 (WV))).setCell ⟨w.heap.size, 2, none⟩ (.bool true)).setCell ⟨w.heap.size, 3, none⟩ (.string T)) = V at *
    refine bodyPost_ret (v := (⟨P, WV, true, T⟩ : Ent).val) (by simp [results, Tryz.results25, go_sem, f0, f1, f2, f3, Ent.val]) rfl ⟨⟨_, ⟨⟨by simp only; omega, by simp only; omega, by simp only; omega, by simp only; omega, by simp only; omega⟩, by simp only; omega⟩, rfl⟩, hcE, hdE⟩
   ·have z2' : ((z : Int) == 2) = false := by simpa using z2
    clear z2
    by_cases z3 : ((z : Int) == 3) = true
    ·go_wp2_with fail
     refine (l1Below_any bk 2 (by omega) (by omega) _ hc3).mono ?_
     rintro e w4 ⟨⟨y, hy, rfl⟩, hc4, hd4⟩
     obtain ⟨W5, S, hmk, hcv, hS, hbz⟩ := zeros_new w4 (40 + y) (by omega)
     have E4 := (E3.drawn hd4 (by omega)).kept hbz
     have Z4 := (Z3.drawn hd4 (by omega)).kept hbz
     have D4 := (D3.trans hd4).trans (Drawn.of_below hbz)
     have hc4 := hc4.below hbz
     rw [show ((40 + y : Nat) : Int) = 40 + (y : Int) by push_cast; rfl] at hmk
     clear E3 Z3 D3 hd4 hc3 a0 a1 a2 a3 y0 y1 y2 y3 hbz
     obtain ⟨-, ⟨a0, a1, a2, a3⟩, y0, y1, y2, y3⟩ := id E4
     have E5 := E4.put3 (.string S)
     have Z5 := Z4.far (b' := be) (o := 3) (by omega) (.string S)
     have hc5 := hc4.setNew (b := be) (by omega) 3 (.string S)
     have D5 := D4.setNew (b := be) (by omega) 3 (.string S)
     obtain ⟨-, ⟨e0, e1, e2, e3⟩, -⟩ := id E5
     obtain ⟨-, ⟨r0, r1, r2, r3⟩, g0, g1, g2, g3⟩ := id Z5
     go_wp2
     obtain ⟨f0, f1, f2, f3⟩ := FourZ.set Z5 (.int .i64 (P)) (.int .i64 (WV)) (.bool HO) (.string S)
     have hcE := (((hc5.setNew (b := w.heap.size) hlt 0 (.int .i64 (P))).setNew (b := w.heap.size) hlt 1 (.int .i64 (WV))).setNew (b := w.heap.size) hlt 2 (.bool HO)).setNew (b := w.heap.size) hlt 3 (.string S)
     have hdE := (((D5.setNew (b := w.heap.size) (Nat.le_refl _) 0 (.int .i64 (P))).setNew (b := w.heap.size) (Nat.le_refl _) 1 (.int .i64 (WV))).setNew (b := w.heap.size) (Nat.le_refl _) 2 (.bool HO)).setNew (b := w.heap.size) (Nat.le_refl _) 3 (.string S)
     generalize (((((W5.setCell ⟨be, 3, none⟩ (.string S)).setCell ⟨w.heap.size, 0, none⟩ (.int .i64 (P))).setCell ⟨w.heap.size, 1, none⟩ (.int .i64 (WV))).setCell ⟨w.heap.size, 2, none⟩ (.bool HO)).setCell ⟨w.heap.size, 3, none⟩ (.string S)) = V at *
     refine bodyPost_ret (v := (⟨P, WV, HO, S⟩ : Ent).val) (by simp [results, Tryz.results25, go_sem, f0, f1, f2, f3, Ent.val]) rfl ⟨⟨_, ⟨⟨by simp only; omega, by simp only; omega, by simp only; omega, by simp only; omega, by simp only; omega⟩, by simp only; omega⟩, rfl⟩, hcE, hdE⟩
    ·have z3' : ((z : Int) == 3) = false := by simpa using z3
     clear z3
     obtain ⟨-, ⟨e0, e1, e2, e3⟩, -⟩ := id E3
     obtain ⟨-, ⟨r0, r1, r2, r3⟩, g0, g1, g2, g3⟩ := id Z3
     go_wp2
     obtain ⟨f0, f1, f2, f3⟩ := FourZ.set Z3 (.int .i64 (P)) (.int .i64 (WV)) (.bool HO) (.string T)
     have hcE := (((hc3.setNew (b := w.heap.size) hlt 0 (.int .i64 (P))).setNew (b := w.heap.size) hlt 1 (.int .i64 (WV))).setNew (b := w.heap.size) hlt 2 (.bool HO)).setNew (b := w.heap.size) hlt 3 (.string T)
     have hdE := (((D3.setNew (b := w.heap.size) (Nat.le_refl _) 0 (.int .i64 (P))).setNew (b := w.heap.size) (Nat.le_refl _) 1 (.int .i64 (WV))).setNew (b := w.heap.size) (Nat.le_refl _) 2 (.bool HO)).setNew (b := w.heap.size) (Nat.le_refl _) 3 (.string T)
     generalize ((((w3.setCell ⟨w.heap.size, 0, none⟩ (.int .i64 (P))).setCell ⟨w.heap.size, 1, none⟩ (.int .i64 (WV))).setCell ⟨w.heap.size, 2, none⟩ (.bool HO)).setCell ⟨w.heap.size, 3, none⟩ (.string T)) = V at *
     refine bodyPost_ret (v := (⟨P, WV, HO, T⟩ : Ent).val) (by simp [results, Tryz.results25, go_sem, f0, f1, f2, f3, Ent.val]) rfl ⟨⟨_, ⟨⟨by simp only; omega, by simp only; omega, by simp only; omega, by simp only; omega, by simp only; omega⟩, by simp only; omega⟩, rfl⟩, hcE, hdE⟩
theorem l3Draw_flat (bk : Nat) (w : World) (hc : Cur w bk) :
  Calls Tryz.prog 25 #[.pointer (some ⟨bk, 0, none⟩)] w fun r w' => (∃ (P WV : Int) (HO : Bool) (T : ByteArray), (Ent.fits ⟨P, WV, HO, T⟩ ∧ T.size ≤ 41) ∧ r = .returned (.agg #[.int .i64 P, .int .i64 WV, .bool HO, .string T])) ∧ Cur w' bk ∧ Drawn bk w w' :=
 (l3Draw_any bk w hc).mono fun r w' ⟨⟨e, h1, h2⟩, h3⟩ => ⟨⟨e.pl, e.wave, e.hole, e.data, h1, h2⟩, h3⟩
end Go.Proofs.YtjkjmapibcfcdaaGreat
