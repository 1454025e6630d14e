/- Drawn entries. -/
import Derived.Test.YtejmfohkobhidaaDrawB
import Derived.Test.YtejmfohkobhidaaDrawP
import Derived.Test.YtejmfohkobhidaaAppB
import Derived.Test.YtejmfohkobhidaaGaA
import Derived.Test.YtejmfohkobhidaaGbE
namespace Go.Proofs.Ytejmfohkobhidaa
open Go.ChangeShapes Go.WideShapes Go.ChangeAt Go.RowKit
set_option linter.unusedVariables false

theorem Cur.setNew {bk : Nat} {W : World} (h : Cur W bk) {b : Nat} (hb : bk < b) (o : Nat) (u : Value) : Cur (W.setCell ⟨b, o, none⟩ u) bk :=
  h.grown (grown_set W b o u) (fun k e => by cases e; exact hb)
set_option maxHeartbeats 2000000 in
theorem l3DrawRight_any (bk : Nat) (w : World) (hc : Cur w bk) :
    Calls Try.prog 63 #[.pointer (some ⟨bk, 0, none⟩)] w fun r w' => (∃ e : Ent, entP e ∧ r = .returned e.val) ∧ Cur w' bk ∧ Drawn bk w w' := by
  have hlt := hc.lt
  have ha : ∀ o, Below w.heap.size w (w.alloc o) := fun o => (Below.refl _ _).alloc (Nat.le_refl _) o
  go_enter Try.func63, Try.ntmps63
  go_wp2_with fail
  have Z0 := FourZ.fresh w (.int .i64 0) (.int .i64 0) (.bool false) (.string ⟨#[]⟩) 28
  have hc0 := hc.below (ha (.cells #[.int .i64 0, .int .i64 0, .bool false, .string ⟨#[]⟩] 28))
  have D0 := Drawn.of_below (bk := bk) (ha (.cells #[.int .i64 0, .int .i64 0, .bool false, .string ⟨#[]⟩] 28))
  refine (l1Below_any bk 3 (by omega) (by omega) _ hc0).mono ?_
  rintro e w1 ⟨⟨x, hx, rfl⟩, hc1, hd1⟩
  have Z1 := Z0.drawn hd1 (by omega)
  have D1 := D0.trans hd1
  clear Z0 D0 hc0 hd1 ha hc
  go_wp2_with fail
  refine (l1Below_any bk 6 (by omega) (by omega) _ hc1).mono ?_
  rintro e w2 ⟨⟨y, hy, rfl⟩, hc2, hd2⟩
  have Z2 := Z1.drawn hd2 (by omega)
  have D2 := D1.trans hd2
  clear Z1 D1 hc1 hd2
  go_wp2_with (go_at_call 62; refine (l1Place_in _ _ (by omega) (by omega) (by omega) (by omega) _).mono ?_; rintro e w3 ⟨rfl, rfl⟩)
  refine (pickT_new hc2 [⟨#[]⟩, ⟨#[97]⟩, ⟨#[98, 99]⟩, ⟨#[0]⟩, ⟨#[119, 111, 114, 100]⟩] _ (by simp) (by simp) _).mono ?_
  rintro e w3 ⟨⟨t, ht, rfl⟩, hc3, hd3⟩
  have Z3 := Z2.drawn hd3 (by omega)
  have D3 := D2.trans hd3
  have hts : t.size ≤ 40 := by
    simp only [List.mem_cons, List.mem_nil_iff, or_false] at ht
    rcases ht with rfl | rfl | rfl | rfl | rfl <;> decide
  clear Z2 D2 hc2 hd3 ht
  go_wp2_with fail
  have hP : ∃ P : Int, P = 4294967296 * (1 + (x : Int)) + (1 + (y : Int)) := ⟨_, rfl⟩
  obtain ⟨P, hP⟩ := hP
  rw [← hP]
  have hp : isPl P := by unfold isPl; omega
  have hep : P / 4294967296 ≤ 3 := by omega
  have hep0 : 1 ≤ P / 4294967296 := by omega
  clear hP
  have ha3 : ∀ o, Below w3.heap.size w3 (w3.alloc o) := fun o => (Below.refl _ _).alloc (Nat.le_refl _) o
  have E4 := FourZ.fresh w3 (.int .i64 P) (.int .i64 0) (.bool false) (.string t) 28
  have Z4 := Z3.kept (ha3 (.cells #[.int .i64 P, .int .i64 0, .bool false, .string t] 28))
  have hc4 := hc3.below (ha3 (.cells #[.int .i64 P, .int .i64 0, .bool false, .string t] 28))
  have D4 := D3.trans (Drawn.of_below (ha3 (.cells #[.int .i64 P, .int .i64 0, .bool false, .string t] 28)))
  have hs3 := D3.size
  have hR3 := dCell_lt Z3.2.1.1
  generalize hbe : w3.heap.size = be at *
  generalize w3.alloc (.cells #[.int .i64 P, .int .i64 0, .bool false, .string t] 28) = w4 at *
  clear ha3 hbe Z3 D3 hc3
  refine (l1Once_any bk 3 (by omega) (by omega) _ hc4).mono ?_
  rintro e w5 ⟨⟨b, rfl⟩, hc5, hd5⟩
  have E5 := E4.drawn hd5 (by omega)
  have Z5 := Z4.drawn hd5 (by omega)
  have D5 := D4.trans hd5
  clear E4 Z4 D4 hd5 hc4
  cases b
  · obtain ⟨-, ⟨e0, e1, e2, e3⟩, -⟩ := id E5
    obtain ⟨-, ⟨r0, r1, r2, r3⟩, g0, g1, g2, g3⟩ := id Z5
    go_wp2
    obtain ⟨f0, f1, f2, f3⟩ := FourZ.set Z5 (.int .i64 P) (.int .i64 (0)) (.bool false) (.string t)
    have hcE := (((hc5.setNew (b := w.heap.size) hlt 0 (.int .i64 P)).setNew (b := w.heap.size) hlt 1 (.int .i64 (0))).setNew (b := w.heap.size) hlt 2 (.bool false)).setNew (b := w.heap.size) hlt 3 (.string t)
    have hdE := (((D5.setNew (b := w.heap.size) (Nat.le_refl _) 0 (.int .i64 P)).setNew (b := w.heap.size) (Nat.le_refl _) 1 (.int .i64 (0))).setNew (b := w.heap.size) (Nat.le_refl _) 2 (.bool false)).setNew (b := w.heap.size) (Nat.le_refl _) 3 (.string t)
    generalize ((((w5.setCell ⟨w.heap.size, 0, none⟩ (.int .i64 P)).setCell ⟨w.heap.size, 1, none⟩ (.int .i64 (0))).setCell ⟨w.heap.size, 2, none⟩ (.bool false)).setCell ⟨w.heap.size, 3, none⟩ (.string t)) = V at *
    refine bodyPost_ret (v := (⟨P, 0, false, t⟩ : Ent).val) (by simp [results, Try.results63, go_sem, f0, f1, f2, f3, Ent.val]) rfl ⟨⟨_, ⟨hp, by simp only; omega, by simp only; omega, by simp only; omega, hts, by intro h; cases h⟩, rfl⟩, hcE, hdE⟩
  · obtain ⟨-, ⟨e0, e1, e2, e3⟩, y0, y1, y2, y3⟩ := id E5
    go_wp2_with (go_at_call 71; refine (specEpoch_yes P hp _).mono ?_; rintro e w6 ⟨rfl, rfl⟩)
    refine (l1Below_any bk 3 (by omega) (by omega) _ hc5).mono ?_
    rintro e w6 ⟨⟨z, hz, rfl⟩, hc6, hd6⟩
    have E6 := E5.drawn hd6 (by omega)
    have Z6 := Z5.drawn hd6 (by omega)
    have D6 := D5.trans hd6
    clear E5 Z5 D5 hd6 hc5 e0 e1 e2 e3 y0 y1 y2 y3
    obtain ⟨-, ⟨e0, e1, e2, e3⟩, y0, y1, y2, y3⟩ := id E6
    go_wp2_with fail
    obtain ⟨WV, hWV⟩ : ∃ WV : Int, WV = P / 4294967296 + 1 + (z : Int) := ⟨_, rfl⟩
    rw [← hWV]
    have hw0 : 0 < WV := by omega
    have hw1 : WV ≤ 30 := by omega
    have hw2 : P / 4294967296 < WV := by omega
    clear hWV
    have E7 := E6.put1 (.int .i64 WV)
    have Z7 := Z6.far (b' := be) (o := 1) (by omega) (.int .i64 WV)
    have hc7 := hc6.setNew (b := be) (by omega) 1 (.int .i64 WV)
    have D7 := D6.setNew (b := be) (by omega) 1 (.int .i64 WV)
    generalize w6.setCell ⟨be, 1, none⟩ (.int .i64 WV) = w7 at *
    clear E6 Z6 hc6 D6 e0 e1 e2 e3 y0 y1 y2 y3
    refine (l1Once_any bk 2 (by omega) (by omega) _ hc7).mono ?_
    rintro e w8 ⟨⟨b, rfl⟩, hc8, hd8⟩
    have E8 := E7.drawn hd8 (by omega)
    have Z8 := Z7.drawn hd8 (by omega)
    have D8 := D7.trans hd8
    clear E7 Z7 D7 hd8 hc7
    cases b
    · obtain ⟨-, ⟨e0, e1, e2, e3⟩, -⟩ := id E8
      obtain ⟨-, ⟨r0, r1, r2, r3⟩, g0, g1, g2, g3⟩ := id Z8
      go_wp2
      obtain ⟨f0, f1, f2, f3⟩ := FourZ.set Z8 (.int .i64 (P)) (.int .i64 (WV)) (.bool false) (.string t)
      have hcE := (((hc8.setNew (b := w.heap.size) hlt 0 (.int .i64 (P))).setNew (b := w.heap.size) hlt 1 (.int .i64 (WV))).setNew (b := w.heap.size) hlt 2 (.bool false)).setNew (b := w.heap.size) hlt 3 (.string t)
      have hdE := (((D8.setNew (b := w.heap.size) (Nat.le_refl _) 0 (.int .i64 (P))).setNew (b := w.heap.size) (Nat.le_refl _) 1 (.int .i64 (WV))).setNew (b := w.heap.size) (Nat.le_refl _) 2 (.bool false)).setNew (b := w.heap.size) (Nat.le_refl _) 3 (.string t)
      generalize ((((w8.setCell ⟨w.heap.size, 0, none⟩ (.int .i64 (P))).setCell ⟨w.heap.size, 1, none⟩ (.int .i64 (WV))).setCell ⟨w.heap.size, 2, none⟩ (.bool false)).setCell ⟨w.heap.size, 3, none⟩ (.string t)) = V at *
      refine bodyPost_ret (v := (⟨P, WV, false, t⟩ : Ent).val) (by simp [results, Try.results63, go_sem, f0, f1, f2, f3, Ent.val]) rfl ⟨⟨_, ⟨hp, by simp only; omega, by simp only; omega, by simp only; omega, hts, by intro h; cases h⟩, rfl⟩, hcE, hdE⟩
    · obtain ⟨-, ⟨a0, a1, a2, a3⟩, y0, y1, y2, y3⟩ := id E8
      have E9 := E8.put2 (.bool true)
      obtain ⟨-, ⟨d0, d1, d2, d3⟩, x0, x1, x2, x3⟩ := id E9
      have E10 := E9.put3 (.string ⟨#[]⟩)
      have Z10 := (Z8.far (b' := be) (o := 2) (by omega) (.bool true)).far (b' := be) (o := 3) (by omega) (.string ⟨#[]⟩)
      have hc10 := (hc8.setNew (b := be) (by omega) 2 (.bool true)).setNew (b := be) (by omega) 3 (.string ⟨#[]⟩)
      have D10 := (D8.setNew (b := be) (by omega) 2 (.bool true)).setNew (b := be) (by omega) 3 (.string ⟨#[]⟩)
      obtain ⟨-, ⟨e0, e1, e2, e3⟩, -⟩ := id E10
      obtain ⟨-, ⟨r0, r1, r2, r3⟩, g0, g1, g2, g3⟩ := id Z10
      go_wp2
      obtain ⟨f0, f1, f2, f3⟩ := FourZ.set Z10 (.int .i64 (P)) (.int .i64 (WV)) (.bool true) (.string ⟨#[]⟩)
      have hcE := (((hc10.setNew (b := w.heap.size) hlt 0 (.int .i64 (P))).setNew (b := w.heap.size) hlt 1 (.int .i64 (WV))).setNew (b := w.heap.size) hlt 2 (.bool true)).setNew (b := w.heap.size) hlt 3 (.string ⟨#[]⟩)
      have hdE := (((D10.setNew (b := w.heap.size) (Nat.le_refl _) 0 (.int .i64 (P))).setNew (b := w.heap.size) (Nat.le_refl _) 1 (.int .i64 (WV))).setNew (b := w.heap.size) (Nat.le_refl _) 2 (.bool true)).setNew (b := w.heap.size) (Nat.le_refl _) 3 (.string ⟨#[]⟩)
      generalize ((((((w8.setCell ⟨be, 2, none⟩ (.bool true)).setCell ⟨be, 3, none⟩ (.string ⟨#[]⟩)).setCell ⟨w.heap.size, 0, none⟩ (.int .i64 (P))).setCell ⟨w.heap.size, 1, none⟩ (.int .i64 (WV))).setCell ⟨w.heap.size, 2, none⟩ (.bool true)).setCell ⟨w.heap.size, 3, none⟩ (.string ⟨#[]⟩)) = V at *
      refine bodyPost_ret (v := (⟨P, WV, true, ⟨#[]⟩⟩ : Ent).val) (by simp [results, Try.results63, go_sem, f0, f1, f2, f3, Ent.val]) rfl ⟨⟨_, ⟨hp, by simp only; omega, by simp only; omega, by simp only; omega, by show (0 : Nat) ≤ 40; omega, fun _ => ⟨by simp only; omega, rfl⟩⟩, rfl⟩, hcE, hdE⟩
end Go.Proofs.Ytejmfohkobhidaa
