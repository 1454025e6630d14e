/- Several texts in one: DrwC, DrwD, DrwE. -/
import Derived.Test.YthndkkjgjhgdnaaGreatDoorDrwB
import Derived.Laws.OwnMore
namespace Go.Proofs.YthndkkjgjhgdnaaGreatDoor
open Go.ChangeShapes Go.WideShapes Go.ChangeAt Go.RowKit
set_option linter.unusedVariables false
set_option linter.unusedSimpArgs false

/-- A row that may be written, beside a store elsewhere. -/
theorem OwnN.apart {w : World} {base : Nat} {v : Value} {xs : List Int} (h : OwnN w base v xs) {b : Nat} (hn : v.ownBlock ≠ some b) (o : Nat) (u : Value) : OwnN (w.setCell ⟨b, o, none⟩ u) base v xs := by
  obtain ⟨h0, a, cap, rfl, hcap, h⟩ := h
  refine ⟨h0, a, cap, rfl, hcap, ?_⟩
  rcases h with h | ⟨b', off, rfl, hb', hc⟩
  · exact .inl h
  · have hne : b' ≠ b := fun e => hn (by simp [Value.ownBlock, e])
    exact .inr ⟨b', off, rfl, hb', fun i hi => ⟨set_other (hc i hi).1 (.inl hne), (World.frozen?_setCell _ _ _ _).trans (hc i hi).2⟩⟩
theorem zerosN_own (n : Nat) (w : World) (h : n ≤ 9223372036854775807) : OwnN (w.alloc (.cells (zerosN n) 3)) w.heap.size (.slice (some ⟨w.heap.size, 0, none⟩) n n) (List.replicate n 0) := by
  refine ⟨by simpa using h, _, n, by simp, by simpa using h, .inr ⟨w.heap.size, 0, rfl, Nat.le_refl _, fun i hi => ⟨?_, by simp⟩⟩⟩
  have hi' : i < n := by simpa using hi
  have := zerosN_at n i hi'
  simp [this]
theorem rowN_len {w : World} {B n c m : Nat} {a : Option Addr} {l : List Value} (h : w.ownsRow B 3 1 (.slice a n c) m l) : n = m := by
  rcases h.2 with ⟨h', h0⟩ | ⟨g', cap', cur, h', _⟩
  · cases h'; exact h0.symm
  · cases h'; rfl
/-- The first of a row of ints. -/
theorem rowN_at {w : World} {B g n c : Nat} {l : List Int} (h : w.ownsRow B 3 1 (.slice (some ⟨g, 0, none⟩) n c) l.length (ncells l)) (hl : 0 < l.length) : w.cell? ⟨g, 0, none⟩ = some (.int .i64 l[0]) ∧ w.frozen? ⟨g, 0, none⟩ = false := by
  have hn : n = l.length := by
    rcases h.2 with ⟨h', _⟩ | ⟨g', cap', cur, h', _⟩
    · cases h'
    · cases h'; rfl
  subst hn
  have h1 := h.cells rfl 0 (.int .i64 l[0]) (by simp [ncells, hl])
  have e : (⟨g, 0, none⟩ : Addr).add 0 = ⟨g, 0, none⟩ := by simp [Addr.add]
  rw [e] at h1
  exact ⟨h1, h.frozenAt 0⟩
theorem rowN_set0 {w : World} {B g n c : Nat} {l : List Int} (h : w.ownsRow B 3 1 (.slice (some ⟨g, 0, none⟩) n c) l.length (ncells l)) (t : Int) : OwnN (w.setCell ⟨g, 0, none⟩ (.int .i64 t)) B (.slice (some ⟨g, 0, none⟩) n c) (l.set 0 t) := by
  obtain rfl := rowN_len h
  have h1 := (h.stored 0 (.int .i64 t)).1
  refine ownN_of_row (n := l.length) ?_
  have e : ncells (l.set 0 t) = (ncells l).set 0 (.int .i64 t) := by simp [ncells, List.map_set]
  rw [e]
  exact h1
theorem rowN_head {w : World} {B n c : Nat} {a : Option Addr} {l : List Int} (h : w.ownsRow B 3 1 (.slice a n c) l.length (ncells l)) (hl : 0 < l.length) : ∃ g, a = some ⟨g, 0, none⟩ ∧ w.cell? ⟨g, 0, none⟩ = some (.int .i64 l[0]) ∧ w.frozen? ⟨g, 0, none⟩ = false := by
  rcases h.2 with ⟨h', h0⟩ | ⟨g', cap', cur, h', _⟩
  · omega
  · cases h'
    exact ⟨g', rfl, rowN_at h hl⟩
set_option maxHeartbeats 2000000 in
set_option maxRecDepth 100000 in
theorem l4Draw_any (bk : Nat) (w : World) (hc : Cur w bk) :
    Calls Tryz.prog 45 #[.pointer (some ⟨bk, 0, none⟩)] w fun r w' => (∃ (sv : Value) (ds : List Int) (cop : Int), r = .returned (.agg #[sv, .int .i64 cop]) ∧ OwnN w' w.heap.size sv ds ∧ ds.length ≤ 9 ∧ (∀ d ∈ ds, -1 ≤ d ∧ d ≤ 8) ∧ 0 ≤ cop ∧ cop ≤ 5) ∧ Cur w' bk ∧ Drawn bk w w' := by
  have hlt := hc.lt
  have ha : ∀ (w : World) o, Below w.heap.size w (w.alloc o) := fun w o => (Below.refl _ _).alloc (Nat.le_refl _) o
  go_enter Tryz.func45, Tryz.ntmps45
  go_wp2_with fail
  have Z0 := TwoZ.fresh w (.slice none 0 0) (.int .i64 0) 26
  have hc0 := hc.below (ha w (.cells #[.slice none 0 0, .int .i64 0] 26))
  have D0 := Drawn.of_below (bk := bk) (ha w (.cells #[.slice none 0 0, .int .i64 0] 26))
  have hsz0 : (w.alloc (.cells #[.slice none 0 0, .int .i64 0] 26)).heap.size = w.heap.size + 1 := by simp
  refine (l4DrawRight_any bk _ hc0).mono ?_
  rintro e w1 ⟨⟨sv, ds, cop, rfl, O1, hds, HA, cl, cu⟩, hc1, hd1⟩
  rw [hsz0] at O1
  have Z1 : TwoZ w1 w.heap.size w.heap.size (.slice none 0 0) (.int .i64 0) := Z0.drawn hd1 (by omega)
  have D1 := D0.trans hd1
  have hz1 : w.heap.size + 1 ≤ w1.heap.size := by have := hd1.size; omega
  obtain ⟨va, vn, vc, rfl⟩ := rowN_slice O1
  have l1 := O1.lt
  clear Z0 D0 hc0 hd1 hc hsz0
  go_wp2_with fail
  have X2 := TwoZ.fresh w1 (.slice va vn vc) (.int .i64 cop) 26
  have Z2 := Z1.kept (ha w1 (.cells #[.slice va vn vc, .int .i64 cop] 26))
  have O2 := O1.alloc (.cells #[.slice va vn vc, .int .i64 cop] 26)
  have hc2 := hc1.below (ha w1 (.cells #[.slice va vn vc, .int .i64 cop] 26))
  have D2 := D1.trans (Drawn.of_below (ha w1 (.cells #[.slice va vn vc, .int .i64 cop] 26)))
  have nX : (Value.slice va vn vc).ownBlock ≠ some w1.heap.size := fun e => by have := (l1 _ e).2; omega
  have nZ : (Value.slice va vn vc).ownBlock ≠ some w.heap.size := fun e => by have := (l1 _ e).1; omega
  generalize hbx : w1.heap.size = bx at *
  generalize w1.alloc (.cells #[.slice va vn vc, .int .i64 cop] 26) = w2 at *
  clear hbx Z1 D1 hc1 O1 l1
  refine (l1Below_any bk 20 (by omega) (by omega) _ hc2).mono ?_
  rintro e w3 ⟨⟨y, hy, rfl⟩, hc3, hd3⟩
  have X3 : TwoZ w3 bx bx (.slice va vn vc) (.int .i64 cop) := X2.drawn hd3 (by omega)
  have Z3 : TwoZ w3 w.heap.size w.heap.size (.slice none 0 0) (.int .i64 0) := Z2.drawn hd3 (by omega)
  have O3 := rowN_drawn O2 hd3 (by omega)
  have D3 := D2.trans hd3
  have hA' : ∀ d ∈ ds, -1 ≤ d ∧ d ≤ 8 := fun d h => by have := HA d h; omega
  have HA' := dHide hA'
  clear X2 Z2 D2 hc2 hd3 O2 HA hA'
  have N3 := ownN_of_row O3
  by_cases y0 : ((y : Int) == 0) = true
  · obtain ⟨-, ⟨k0, k1⟩, f0, f1⟩ := id X3
    obtain ⟨-, ⟨r0, r1⟩, g0, g1⟩ := id Z3
    go_wp2_with fail
    refine (pick_new hc3 [0, 4, 5] _ (by simp) (by simp) _).mono ?_
    rintro e w4 ⟨⟨t, ht, rfl⟩, hc4, hd4⟩
    have X4 : TwoZ w4 bx bx (.slice va vn vc) (.int .i64 cop) := X3.drawn hd4 (by omega)
    have Z4 : TwoZ w4 w.heap.size w.heap.size (.slice none 0 0) (.int .i64 0) := Z3.drawn hd4 (by omega)
    have O4 := ownN_of_row (rowN_drawn O3 hd4 (by omega))
    have D4 := D3.trans hd4
    have htb : 0 ≤ t ∧ t ≤ 5 := by
      simp only [List.mem_cons, List.mem_nil_iff, or_false] at ht
      omega
    have Z5 := Z4.far (b' := bx) (o := 1) (by omega) (.int .i64 t)
    have c5 := hc4.setNew4 (b := bx) (by omega) 1 (.int .i64 t)
    have D5 := D4.setNew (b := bx) (by omega) 1 (.int .i64 t)
    have O5 := OwnN.apart O4 nX 1 (.int .i64 t)
    clear k0 k1 f0 f1 r0 r1 g0 g1 ht hd4 X3 Z3 O3 N3 hc3 D3
    obtain ⟨-, ⟨k0, k1⟩, f0, f1⟩ := id X4
    obtain ⟨-, ⟨r0, r1⟩, g0, g1⟩ := id Z4
    go_wp2_with fail
    clear k0 k1 f0 f1 r0 r1 g0 g1
    generalize w4.setCell ⟨bx, 1, none⟩ (.int .i64 t) = w5 at *
    obtain ⟨-, ⟨e0, e1⟩, -⟩ := (Z5.put0 (.slice va vn vc)).put1 (.int .i64 t)
    have hcE := (c5.setNew4 (b := w.heap.size) hlt 0 (.slice va vn vc)).setNew4 (b := w.heap.size) hlt 1 (.int .i64 t)
    have hdE := (D5.setNew (b := w.heap.size) (Nat.le_refl _) 0 (.slice va vn vc)).setNew (b := w.heap.size) (Nat.le_refl _) 1 (.int .i64 t)
    have hoE := ((O5.far (b := w.heap.size) (o := 0) (by omega) (.slice va vn vc)).far (b := w.heap.size) (o := 1) (by omega) (.int .i64 t)).mono (base' := w.heap.size) (by omega)
    generalize (w5.setCell ⟨w.heap.size, 0, none⟩ (.slice va vn vc)).setCell ⟨w.heap.size, 1, none⟩ (.int .i64 t) = V at *
    refine bodyPost_ret (v := .agg #[.slice va vn vc, .int .i64 t]) (by simp [results, Tryz.results45, go_sem, e0, e1]) rfl ⟨⟨_, _, _, rfl, hoE, by omega, dUnhide HA', htb.1, htb.2⟩, hcE, hdE⟩
  have y0' : ((y : Int) == 0) = false := by simpa using y0
  clear y0
  by_cases y1 : ((y : Int) == 1) = true
  · obtain ⟨g, rfl, cg, fg⟩ := rowN_head O3 (by omega)
    have hvn : (0 : Int) < (vn : Int) := by have := rowN_len O3; omega
    have hvn' : ¬ ((vn : Int) ≤ 0) := by omega
    have hvn2 : 0 < vn := by omega
    have hvn3 : ¬ vn = 0 := by omega
    have hgb : bx ≠ g := fun e => nX (by simp [Value.ownBlock, e])
    obtain ⟨-, ⟨k0, k1⟩, f0, f1⟩ := id X3
    obtain ⟨-, ⟨r0, r1⟩, g0, g1⟩ := id Z3
    go_wp2
    go_region_held3 (fun W => W.cell? ⟨bx, 0, none⟩ = some (.slice (some ⟨g, 0, none⟩) vn vc)) (first | exact set_other (by assumption) (.inl hgb) | go_keep)
      (first
        | (go_at_call 64; first | (refine (pick_new (hc3.below (Below.refl _ _).drew) [-1, 7, 8] _ (by simp) (by simp) _).mono ?_; rintro e w4 ⟨⟨t, ht, rfl⟩, hc4, hd4⟩; have hd4 := (Drawn.refl bk w3).drew.trans hd4; have X4 : TwoZ w4 bx bx (.slice (some ⟨g, 0, none⟩) vn vc) (.int .i64 cop) := X3.drawn hd4 (by omega); have Z4 : TwoZ w4 w.heap.size w.heap.size (.slice none 0 0) (.int .i64 0) := Z3.drawn hd4 (by omega); have O4 := rowN_drawn O3 hd4 (by omega); have D4 := D3.trans hd4; obtain ⟨-, ⟨q0, q1⟩, h0, h1⟩ := id X4; obtain ⟨cg4, fg4⟩ := rowN_at O4 (by omega))))
    have htb : -1 ≤ t ∧ t ≤ 8 := by
      simp only [List.mem_cons, List.mem_nil_iff, or_false] at ht
      omega
    have O5 := rowN_set0 O4 t
    have hA5 : ∀ d ∈ ds.set 0 t, -1 ≤ d ∧ d ≤ 8 := fun d h => by
      rcases List.mem_or_eq_of_mem_set h with h1 | h1
      · exact dUnhide HA' d h1
      · rw [h1]; exact htb
    have hl5 : (ds.set 0 t).length ≤ 9 := by rw [List.length_set]; omega
    have hgw : w.heap.size + 1 ≤ g := (O4.lt g rfl).1
    have X5 := X4.far (b' := g) (o := 0) hgb (.int .i64 t)
    have Z5 := Z4.far (b' := g) (o := 0) (by omega) (.int .i64 t)
    have c5 := hc4.setNew4 (b := g) (by omega) 0 (.int .i64 t)
    have D5 := D4.setNew (b := g) (by omega) 0 (.int .i64 t)
    have HA5 := dHide hA5
    clear k0 k1 f0 f1 r0 r1 g0 g1 q0 q1 h0 h1 cg fg cg4 fg4 ht hd4 X3 Z3 O3 N3 hc3 D3 X4 Z4 O4 hc4 D4 hA5 hvn hvn' hvn2 hvn3
    generalize w4.setCell ⟨g, 0, none⟩ (.int .i64 t) = w5 at *
    obtain ⟨-, ⟨k0, k1⟩, f0, f1⟩ := id X5
    obtain ⟨-, ⟨r0, r1⟩, g0, g1⟩ := id Z5
    go_wp2_with fail
    clear k0 k1 f0 f1 r0 r1 g0 g1
    obtain ⟨-, ⟨e0, e1⟩, -⟩ := (Z5.put0 (.slice (some ⟨g, 0, none⟩) vn vc)).put1 (.int .i64 cop)
    have hcE := (c5.setNew4 (b := w.heap.size) hlt 0 (.slice (some ⟨g, 0, none⟩) vn vc)).setNew4 (b := w.heap.size) hlt 1 (.int .i64 cop)
    have hdE := (D5.setNew (b := w.heap.size) (Nat.le_refl _) 0 (.slice (some ⟨g, 0, none⟩) vn vc)).setNew (b := w.heap.size) (Nat.le_refl _) 1 (.int .i64 cop)
    have hoE := ((O5.far (b := w.heap.size) (o := 0) (by omega) (.slice (some ⟨g, 0, none⟩) vn vc)).far (b := w.heap.size) (o := 1) (by omega) (.int .i64 cop)).mono (base' := w.heap.size) (by omega)
    generalize (w5.setCell ⟨w.heap.size, 0, none⟩ (.slice (some ⟨g, 0, none⟩) vn vc)).setCell ⟨w.heap.size, 1, none⟩ (.int .i64 cop) = V at *
    refine bodyPost_ret (v := .agg #[.slice (some ⟨g, 0, none⟩) vn vc, .int .i64 cop]) (by simp [results, Tryz.results45, go_sem, e0, e1]) rfl ⟨⟨_, _, _, rfl, hoE, hl5, dUnhide HA5, by omega, by omega⟩, hcE, hdE⟩
  have y1' : ((y : Int) == 1) = false := by simpa using y1
  clear y1
  by_cases y2 : ((y : Int) == 2) = true
  · obtain ⟨-, ⟨k0, k1⟩, f0, f1⟩ := id X3
    obtain ⟨-, ⟨r0, r1⟩, g0, g1⟩ := id Z3
    go_wp2_with fail
    refine (pick_new hc3 [0, 8, 9] _ (by simp) (by simp) _).mono ?_
    rintro e w4 ⟨⟨t, ht, rfl⟩, hc4, hd4⟩
    have X4 : TwoZ w4 bx bx (.slice va vn vc) (.int .i64 cop) := X3.drawn hd4 (by omega)
    have Z4 : TwoZ w4 w.heap.size w.heap.size (.slice none 0 0) (.int .i64 0) := Z3.drawn hd4 (by omega)
    have D4 := D3.trans hd4
    obtain ⟨n, rfl⟩ : ∃ n : Nat, t = n := by
      simp only [List.mem_cons, List.mem_nil_iff, or_false] at ht
      exact ⟨t.toNat, by omega⟩
    have hn9 : n ≤ 9 := by
      simp only [List.mem_cons, List.mem_nil_iff, or_false] at ht
      omega
    have MK := makeN n (by omega) w4
    have hs4 := D4.size
    have hx4 := dCell_lt X4.2.1.1
    have ba := ha w4 (.cells (zerosN n) 3)
    have OZ : OwnN (w4.alloc (.cells (zerosN n) 3)) w4.heap.size (.slice (some ⟨w4.heap.size, 0, none⟩) n n) (List.replicate n 0) := zerosN_own n w4 (by omega)
    have X5 := X4.kept ba
    have Z5 := Z4.kept ba
    have c5 := hc4.below ba
    have D5 := D4.trans (Drawn.of_below ba)
    clear k0 k1 f0 f1 r0 r1 g0 g1 ht hd4 X3 Z3 O3 N3 hc3 D3 X4 Z4 hc4 D4 ba
    generalize w4.alloc (.cells (zerosN n) 3) = w5 at *
    obtain ⟨-, ⟨k0, k1⟩, f0, f1⟩ := id X5
    obtain ⟨-, ⟨r0, r1⟩, g0, g1⟩ := id Z5
    go_wp2_with fail
    have Z6 := Z5.far (b' := bx) (o := 0) (by omega) (.slice (some ⟨w4.heap.size, 0, none⟩) n n)
    have c6 := c5.setNew4 (b := bx) (by omega) 0 (.slice (some ⟨w4.heap.size, 0, none⟩) n n)
    have D6 := D5.setNew (b := bx) (by omega) 0 (.slice (some ⟨w4.heap.size, 0, none⟩) n n)
    have O6 := OZ.far (b := bx) (o := 0) (by omega) (.slice (some ⟨w4.heap.size, 0, none⟩) n n)
    clear k0 k1 f0 f1 r0 r1 g0 g1
    generalize w5.setCell ⟨bx, 0, none⟩ (.slice (some ⟨w4.heap.size, 0, none⟩) n n) = w6 at *
    obtain ⟨-, ⟨e0, e1⟩, -⟩ := (Z6.put0 (.slice (some ⟨w4.heap.size, 0, none⟩) n n)).put1 (.int .i64 cop)
    have hcE := (c6.setNew4 (b := w.heap.size) hlt 0 (.slice (some ⟨w4.heap.size, 0, none⟩) n n)).setNew4 (b := w.heap.size) hlt 1 (.int .i64 cop)
    have hdE := (D6.setNew (b := w.heap.size) (Nat.le_refl _) 0 (.slice (some ⟨w4.heap.size, 0, none⟩) n n)).setNew (b := w.heap.size) (Nat.le_refl _) 1 (.int .i64 cop)
    have hoE := ((O6.far (b := w.heap.size) (o := 0) (by omega) (.slice (some ⟨w4.heap.size, 0, none⟩) n n)).far (b := w.heap.size) (o := 1) (by omega) (.int .i64 cop)).mono (base' := w.heap.size) (by omega)
    generalize (w6.setCell ⟨w.heap.size, 0, none⟩ (.slice (some ⟨w4.heap.size, 0, none⟩) n n)).setCell ⟨w.heap.size, 1, none⟩ (.int .i64 cop) = V at *
    refine bodyPost_ret (v := .agg #[.slice (some ⟨w4.heap.size, 0, none⟩) n n, .int .i64 cop]) (by simp [results, Tryz.results45, go_sem, e0, e1]) rfl ⟨⟨_, _, _, rfl, hoE, by simp; omega, (fun d h => by rw [List.eq_of_mem_replicate h]; omega), by omega, by omega⟩, hcE, hdE⟩
  have y2' : ((y : Int) == 2) = false := by simpa using y2
  obtain ⟨-, ⟨k0, k1⟩, f0, f1⟩ := id X3
  obtain ⟨-, ⟨r0, r1⟩, g0, g1⟩ := id Z3
  go_wp2_with fail
  clear k0 k1 f0 f1 r0 r1 g0 g1
  obtain ⟨-, ⟨e0, e1⟩, -⟩ := (Z3.put0 (.slice va vn vc)).put1 (.int .i64 cop)
  have hcE := (hc3.setNew4 (b := w.heap.size) hlt 0 (.slice va vn vc)).setNew4 (b := w.heap.size) hlt 1 (.int .i64 cop)
  have hdE := (D3.setNew (b := w.heap.size) (Nat.le_refl _) 0 (.slice va vn vc)).setNew (b := w.heap.size) (Nat.le_refl _) 1 (.int .i64 cop)
  have hoE := ((N3.far (b := w.heap.size) (o := 0) (by omega) (.slice va vn vc)).far (b := w.heap.size) (o := 1) (by omega) (.int .i64 cop)).mono (base' := w.heap.size) (by omega)
  generalize (w3.setCell ⟨w.heap.size, 0, none⟩ (.slice va vn vc)).setCell ⟨w.heap.size, 1, none⟩ (.int .i64 cop) = V at *
  refine bodyPost_ret (v := .agg #[.slice va vn vc, .int .i64 cop]) (by simp [results, Tryz.results45, go_sem, e0, e1]) rfl ⟨⟨_, _, _, rfl, hoE, by omega, dUnhide HA', by omega, by omega⟩, hcE, hdE⟩
end Go.Proofs.YthndkkjgjhgdnaaGreatDoor
namespace Go.Proofs.YthndkkjgjhgdnaaGreatDoor
open Go.ChangeShapes Go.WideShapes Go.ChangeAt Go.RowKit
set_option linter.unusedVariables false
set_option linter.unusedSimpArgs false

theorem l1Max_one (n : Nat) (w : World) : Calls Tryz.prog 78 #[.int .i64 (n : Int), .int .i64 1] w fun e w' => e = .returned (.int .i64 ((max n 1 : Nat) : Int)) ∧ w' = w := by
  rcases Nat.eq_zero_or_pos n with h | h
  · subst h
    go_enter Tryz.func78, Tryz.ntmps78
    go_wp2
    go_ret
    exact ⟨rfl, rfl⟩
  · rw [Nat.max_eq_left h]
    by_cases h1 : (1 : Int) < (n : Int)
    · go_enter Tryz.func78, Tryz.ntmps78
      go_wp2
      go_ret
      exact ⟨rfl, rfl⟩
    · obtain rfl : n = 1 := by omega
      go_enter Tryz.func78, Tryz.ntmps78
      go_wp2
      go_ret
      exact ⟨rfl, rfl⟩
theorem rowN_ns {w : World} {B n : Nat} {v : Value} {l : List Int} (h : w.ownsRow B 3 1 v n (ncells l)) : Ns w v l := (ownN_of_row h).bs
theorem rowN_mono {w : World} {B B' n : Nat} {v : Value} {l : List Value} (h : w.ownsRow B 3 1 v n l) (hB : B' ≤ B) : w.ownsRow B' 3 1 v n l := by
  refine ⟨h.1, ?_⟩
  rcases h.2 with h0 | ⟨g, cap, cur, h1, h2, h3⟩
  · exact .inl h0
  · exact .inr ⟨g, cap, cur, h1, by omega, h3⟩
set_option maxHeartbeats 2000000 in
set_option maxRecDepth 100000 in
theorem l4DrawNodes_any (bk : Nat) (sv : Value) (ds : List Int) (cop : Int) (w : World) (hc : Cur w bk) (hv : Ns w sv ds) (hl : ds.length ≤ 9) :
    Calls Tryz.prog 82 #[.pointer (some ⟨bk, 0, none⟩), .agg #[sv, .int .i64 cop]] w fun e w' => (∃ (u : Value) (zs : List Int), e = .returned u ∧ w'.ownsRow w.heap.size 3 1 u zs.length (ncells zs) ∧ zs.length ≤ 20 ∧ (∀ z ∈ zs, -1 ≤ z ∧ z ≤ 9)) ∧ Cur w' bk ∧ Drawn bk w w' := by
  have hlt := hc.lt
  have ha : ∀ (w : World) o, Below w.heap.size w (w.alloc o) := fun w o => (Below.refl _ _).alloc (Nat.le_refl _) o
  obtain ⟨h0, a, cap, rfl, -, -⟩ := hv
  go_enter Tryz.func82, Tryz.ntmps82
  go_wp2_with fail
  have Z0 := TwoZ.fresh w (.slice a ds.length cap) (.int .i64 cop) 26
  have hc0 := hc.below (ha w (.cells #[.slice a ds.length cap, .int .i64 cop] 26))
  have D0 := Drawn.of_below (bk := bk) (ha w (.cells #[.slice a ds.length cap, .int .i64 cop] 26))
  generalize hw0 : w.alloc (.cells #[.slice a ds.length cap, .int .i64 cop] 26) = w0 at *
  have O1 : (w0.alloc (.cells #[] 3)).ownsRow w.heap.size 3 1 (.slice (some ⟨w0.heap.size, 0, none⟩) 0 0) 0 (ncells []) := World.ownsRow_made w0 #[] 0 D0.size (by decide) (by simp)
  have hs0 : w0.heap.size = w.heap.size + 1 := by rw [← hw0]; simp
  rw [hs0] at O1
  have Z1 := Z0.kept (ha w0 (.cells #[] 3))
  have hc1 := hc0.below (ha w0 (.cells #[] 3))
  have D1 := D0.trans (Drawn.of_below (ha w0 (.cells #[] 3)))
  clear hw0 hs0 Z0 hc0 D0 hc
  generalize w0.alloc (.cells #[] 3) = w1 at *
  rw [show ((ds.length : Int) + 2) = ((ds.length + 2 : Nat) : Int) by push_cast; rfl]
  refine (l1Below_any bk (ds.length + 2) (by omega) (by omega) _ hc1).mono ?_
  rintro e w2 ⟨⟨n, hn, rfl⟩, hc2, hd2⟩
  have Z2 : TwoZ w2 w.heap.size w.heap.size (.slice a ds.length cap) (.int .i64 cop) := Z1.drawn hd2 (by omega)
  have O2 := dHide (rowN_drawn O1 hd2 hlt)
  have D2 := dHide (D1.trans hd2)
  have HZ2 := dHide Z2
  have HC2 := dHide hc2
  have hn' : n ≤ 10 := by omega
  clear Z1 O1 D1 hc1 hd2 Z2 hc2
  go_wp2
  go_loopw [5, 7] (fun o xi wr => ∃ (k : Nat) (zs : List Int), xi = .int .i64 (k : Int) ∧ k ≤ n ∧ Hid (TwoZ wr w.heap.size w.heap.size (.slice a ds.length cap) (.int .i64 cop)) ∧ Hid (Cur wr bk) ∧ Hid (Drawn bk w wr) ∧ Hid (wr.ownsRow w.heap.size 3 1 o zs.length (ncells zs)) ∧ zs.length ≤ k ∧ Hid (∀ z ∈ zs, -1 ≤ z ∧ z ≤ 9)) (fun _ xi _ => n - (intOf xi).toNat)
  case atStart => exact ⟨0, [], rfl, Nat.zero_le _, HZ2, HC2, D2, O2, by simp, (fun z h => by cases h)⟩
  case round =>
    obtain ⟨k, zs, rfl, hk, HZ, HC, HD, HO, hzl, HA⟩ := hrel
    clear HZ2 HC2 D2 O2
    obtain ⟨zb, ⟨k0, k1⟩, f0, f1⟩ := id (dUnhide HZ)
    by_cases hkn : (k : Int) < (n : Int)
    · go_wp2_with (go_at_call 78; refine (l1Max_one ds.length _).mono ?_; rintro e w' ⟨rfl, rfl⟩)
      refine (l1Below_any bk (max ds.length 1) (by omega) (by omega) _ (dUnhide HC)).mono ?_
      rintro e w3 ⟨⟨y, hy, rfl⟩, hc3, hd3⟩
      have Z3 := dHide ((dUnhide HZ).drawn hd3 (by omega))
      have O3 := rowN_drawn (dUnhide HO) hd3 hlt
      have D3 := dHide ((dUnhide HD).trans hd3)
      have C3 := dHide hc3
      have PT := l4Put_any _ zs (y : Int) w3 (rowN_ns O3) (by omega)
      have hs3 := (dUnhide D3).size
      clear HZ HC HD HO k0 k1 f0 f1 hd3 hc3 O3
      go_wp2_with fail
      refine PT.mono ?_
      rintro e w4 ⟨⟨u4, zs4, rfl, O4, hz4, P4⟩, b4⟩
      have Z4 := dHide ((dUnhide Z3).kept b4)
      have D4 := dHide ((dUnhide D3).trans (Drawn.of_below b4))
      have C4 := dHide ((dUnhide C3).below b4)
      have O4' := dHide (rowN_mono O4 hs3)
      have HA4 : Hid (∀ z ∈ zs4, -1 ≤ z ∧ z ≤ 9) := fun z h => by
        rcases P4 z h with h1 | h1
        · rw [h1]; omega
        · exact dUnhide HA z h1
      clear PT Z3 D3 C3 O4 P4 b4 HA
      go_wp2
      go_roundw
      case rel => exact ⟨k + 1, zs4, by go_num, by omega, Z4, C4, D4, O4', by omega, HA4⟩
      case measure => simp [intOf]; omega
    · go_wp2_with fail
      refine (l1Once_any bk 20 (by omega) (by omega) _ (dUnhide HC)).mono ?_
      rintro e w3 ⟨⟨bb, rfl⟩, hc3, hd3⟩
      have Z3 : TwoZ w3 w.heap.size w.heap.size (.slice a ds.length cap) (.int .i64 cop) := (dUnhide HZ).drawn hd3 (by omega)
      have O3 := rowN_drawn (dUnhide HO) hd3 hlt
      have D3 := (dUnhide HD).trans hd3
      have HA := dUnhide HA
      clear HZ HC HD HO k0 k1 f0 f1 hd3
      cases bb
      · go_wp2
        go_ret
        refine ⟨?_, hc3, D3⟩
        first | exact ⟨_, zs, rfl, O3, by omega, HA⟩ | exact ⟨_, rfl, zs, O3, by omega, HA⟩
      · obtain ⟨-, ⟨k0, k1⟩, f0, f1⟩ := id Z3
        go_wp2_with fail
        refine (pick_new hc3 [-1, 0, (ds.length : Int)] _ (by simp) (by simp) _).mono ?_
        rintro e w4 ⟨⟨t, ht, rfl⟩, hc4, hd4⟩
        have O4 := rowN_drawn O3 hd4 hlt
        have D4 := D3.trans hd4
        have htb : -1 ≤ t ∧ t ≤ 9 := by
          simp only [List.mem_cons, List.mem_nil_iff, or_false] at ht
          omega
        have hs4 := D4.size
        have l4 := O4.lt
        clear Z3 O3 D3 hc3 hd4 k0 k1 f0 f1 ht
        go_wp2_with (at_builtin; refine appN _ rfl _ _ rfl w.heap.size _ zs rfl (O4.alloc _) ⟨w4.heap.size, 0, none⟩ 1 1 [t] rfl rfl (one_int _ _ _) ?c3 ?c4 ?_)
        case c3 => (try simp only [List.length_cons, List.length_nil]); omega
        case c4 => simp; omega
        intro v5 w5 o5 r5
        have ba : Below w4.heap.size w4 (w4.alloc (.cells #[.int .i64 t] 3)) := (Below.refl _ _).alloc (Nat.le_refl _) _
        have c5 : Cur w5 bk := (hc4.below ba).grown r5 (fun k hk => by have := (l4 k hk).1; omega)
        have D5 : Drawn bk w w5 := (D4.trans (Drawn.of_below ba)).grew r5 (fun k hk => (l4 k hk).1)
        have hA5 : ∀ z ∈ zs ++ [t], -1 ≤ z ∧ z ≤ 9 := fun z h => by
          rcases List.mem_append.1 h with h1 | h1
          · exact HA z h1
          · rw [List.mem_singleton.1 h1]; exact htb
        have HA5 := dHide hA5
        have o5 := dHide (own_lenN o5)
        clear O4 D4 hc4 r5 l4 ba hA5 HA
        go_wp2
        go_ret
        refine ⟨?_, c5, D5⟩
        first | exact ⟨_, zs ++ [t], rfl, dUnhide o5, by simp; omega, dUnhide HA5⟩ | exact ⟨_, rfl, zs ++ [t], dUnhide o5, by simp; omega, dUnhide HA5⟩
end Go.Proofs.YthndkkjgjhgdnaaGreatDoor
namespace Go.Proofs.YthndkkjgjhgdnaaGreatDoor
open Go.ChangeShapes Go.WideShapes Go.ChangeAt Go.RowKit
set_option linter.unusedVariables false
set_option linter.unusedSimpArgs false

/-- A config that was drawn, in new memory. -/
def DrewC (B : Nat) (c : Value) (ds : List Int) (cop : Int) (W : World) : Prop := ∃ sv, c = .agg #[sv, .int .i64 cop] ∧ OwnN W B sv ds ∧ ds.length ≤ 9 ∧ allInt ds ∧ 0 ≤ cop ∧ cop ≤ 5
/-- A list that was drawn, in new memory. -/
def DrewL (B : Nat) (u : Value) (zs : List Int) (W : World) : Prop := OwnN W B u zs ∧ zs.length ≤ 20 ∧ allInt zs
theorem DrewC.below {B : Nat} {c : Value} {ds : List Int} {cop : Int} {W W' : World} (h : DrewC B c ds cop W) (b : Below W.heap.size W W') : DrewC B c ds cop W' := by
  obtain ⟨sv, h1, h2, h3⟩ := h; exact ⟨sv, h1, h2.below b, h3⟩
theorem DrewL.below {B : Nat} {u : Value} {zs : List Int} {W W' : World} (h : DrewL B u zs W) (b : Below W.heap.size W W') : DrewL B u zs W' := ⟨h.1.below b, h.2⟩
theorem OwnN.blk {w : World} {base : Nat} {v : Value} {xs : List Int} (h : OwnN w base v xs) : xs = [] ∨ base ≤ blockOf v := by
  obtain ⟨-, a, cap, rfl, -, h⟩ := h
  rcases h with h | ⟨b, off, rfl, hb, hc⟩
  · exact .inl h
  · exact .inr hb
theorem OwnN.drawn {bk : Nat} {w w' : World} {base : Nat} {v : Value} {xs : List Int} (h : OwnN w base v xs) (hd : Drawn bk w w') (hb : bk < base) : OwnN w' base v xs := by
  obtain ⟨h0, a, cap, rfl, hcap, h⟩ := h
  refine ⟨h0, a, cap, rfl, hcap, ?_⟩
  rcases h with h | ⟨b, off, rfl, hbb, hc⟩
  · exact .inl h
  · exact .inr ⟨b, off, rfl, hbb, fun i hi => ⟨hd.cell (hc i hi).1 (by omega), (hd.frozen (by omega) (dCell_lt (hc i hi).1)).trans (hc i hi).2⟩⟩
theorem DrewC.far {B : Nat} {c : Value} {ds : List Int} {cop : Int} {W : World} (h : DrewC B c ds cop W) {b o : Nat} (hb : b < B) (u : Value) : DrewC B c ds cop (W.setCell ⟨b, o, none⟩ u) := by
  obtain ⟨sv, h1, h2, h3⟩ := h; exact ⟨sv, h1, h2.far hb u, h3⟩
theorem DrewL.far {B : Nat} {v : Value} {zs : List Int} {W : World} (h : DrewL B v zs W) {b o : Nat} (hb : b < B) (u : Value) : DrewL B v zs (W.setCell ⟨b, o, none⟩ u) := ⟨h.1.far hb u, h.2⟩
theorem DrewC.mono {B B' : Nat} {c : Value} {ds : List Int} {cop : Int} {W : World} (h : DrewC B c ds cop W) (hb : B' ≤ B) : DrewC B' c ds cop W := by
  obtain ⟨sv, h1, h2, h3⟩ := h; exact ⟨sv, h1, h2.mono hb, h3⟩
theorem DrewL.mono {B B' : Nat} {v : Value} {zs : List Int} {W : World} (h : DrewL B v zs W) (hb : B' ≤ B) : DrewL B' v zs W := ⟨h.1.mono hb, h.2⟩
end Go.Proofs.YthndkkjgjhgdnaaGreatDoor
