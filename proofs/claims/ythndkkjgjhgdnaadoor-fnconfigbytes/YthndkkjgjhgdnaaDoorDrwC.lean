/- Drawn configs: l4Draw. -/
import Derived.Test.YthndkkjgjhgdnaaDoorDrwB
import Derived.Laws.OwnMore
namespace Go.Proofs.YthndkkjgjhgdnaaDoor
open Go.ChangeShapes Go.WideShapes Go.ChangeAt Go.RowKit
set_option linter.unusedVariables false
set_option linter.unusedSimpArgs false

/-- A row that may be written, beside a store elsewhere. -/
theorem OwnN.apart {w : World} {base : Nat} {v : Value} {xs : List Int} (h : OwnN w base v xs) {b : Nat} (hn : v.ownBlock ≠ some b) (o : Nat) (u : Value) : OwnN (w.setCell ⟨b, o, none⟩ u) base v xs := by
  obtain ⟨h0, a, cap, rfl, hcap, h⟩ := h
  refine ⟨h0, a, cap, rfl, hcap, ?_⟩
  rcases h with h | ⟨b', off, rfl, hb', hc⟩
  · exact .inl h
  · have hne : b' ≠ b := fun e => hn (by simp [Value.ownBlock, e])
    exact .inr ⟨b', off, rfl, hb', fun i hi => ⟨set_other (hc i hi).1 (.inl hne), (World.frozen?_setCell _ _ _ _).trans (hc i hi).2⟩⟩
theorem zerosN_own (n : Nat) (w : World) (h : n ≤ 9223372036854775807) : OwnN (w.alloc (.cells (zerosN n) 3)) w.heap.size (.slice (some ⟨w.heap.size, 0, none⟩) n n) (List.replicate n 0) := by
  refine ⟨by simpa using h, _, n, by simp, by simpa using h, .inr ⟨w.heap.size, 0, rfl, Nat.le_refl _, fun i hi => ⟨?_, by simp⟩⟩⟩
  have hi' : i < n := by simpa using hi
  have := zerosN_at n i hi'
  simp [this]
theorem rowN_len {w : World} {B n c m : Nat} {a : Option Addr} {l : List Value} (h : w.ownsRow B 3 1 (.slice a n c) m l) : n = m := by
  rcases h.2 with ⟨h', h0⟩ | ⟨g', cap', cur, h', _⟩
  · cases h'; exact h0.symm
  · cases h'; rfl
/-- The first of a row of ints. -/
theorem rowN_at {w : World} {B g n c : Nat} {l : List Int} (h : w.ownsRow B 3 1 (.slice (some ⟨g, 0, none⟩) n c) l.length (ncells l)) (hl : 0 < l.length) : w.cell? ⟨g, 0, none⟩ = some (.int .i64 l[0]) ∧ w.frozen? ⟨g, 0, none⟩ = false := by
  have hn : n = l.length := by
    rcases h.2 with ⟨h', _⟩ | ⟨g', cap', cur, h', _⟩
    · cases h'
    · cases h'; rfl
  subst hn
  have h1 := h.cells rfl 0 (.int .i64 l[0]) (by simp [ncells, hl])
  have e : (⟨g, 0, none⟩ : Addr).add 0 = ⟨g, 0, none⟩ := by simp [Addr.add]
  rw [e] at h1
  exact ⟨h1, h.frozenAt 0⟩
theorem rowN_set0 {w : World} {B g n c : Nat} {l : List Int} (h : w.ownsRow B 3 1 (.slice (some ⟨g, 0, none⟩) n c) l.length (ncells l)) (t : Int) : OwnN (w.setCell ⟨g, 0, none⟩ (.int .i64 t)) B (.slice (some ⟨g, 0, none⟩) n c) (l.set 0 t) := by
  obtain rfl := rowN_len h
  have h1 := (h.stored 0 (.int .i64 t)).1
  refine ownN_of_row (n := l.length) ?_
  have e : ncells (l.set 0 t) = (ncells l).set 0 (.int .i64 t) := by simp [ncells, List.map_set]
  rw [e]
  exact h1
theorem rowN_head {w : World} {B n c : Nat} {a : Option Addr} {l : List Int} (h : w.ownsRow B 3 1 (.slice a n c) l.length (ncells l)) (hl : 0 < l.length) : ∃ g, a = some ⟨g, 0, none⟩ ∧ w.cell? ⟨g, 0, none⟩ = some (.int .i64 l[0]) ∧ w.frozen? ⟨g, 0, none⟩ = false := by
  rcases h.2 with ⟨h', h0⟩ | ⟨g', cap', cur, h', _⟩
  · omega
  · cases h'
    exact ⟨g', rfl, rowN_at h hl⟩
set_option maxHeartbeats 2000000 in
set_option maxRecDepth 100000 in
theorem l4Draw_any (bk : Nat) (w : World) (hc : Cur w bk) :
    Calls Tryd.prog 20 #[.pointer (some ⟨bk, 0, none⟩)] w fun r w' => (∃ (sv : Value) (ds : List Int) (cop : Int), r = .returned (.agg #[sv, .int .i64 cop]) ∧ OwnN w' w.heap.size sv ds ∧ ds.length ≤ 9 ∧ (∀ d ∈ ds, -1 ≤ d ∧ d ≤ 8) ∧ 0 ≤ cop ∧ cop ≤ 5) ∧ Cur w' bk ∧ Drawn bk w w' := by
  have hlt := hc.lt
  have ha : ∀ (w : World) o, Below w.heap.size w (w.alloc o) := fun w o => (Below.refl _ _).alloc (Nat.le_refl _) o
  go_enter Tryd.func20, Tryd.ntmps20
  go_wp2_with fail
  have Z0 := TwoZ.fresh w (.slice none 0 0) (.int .i64 0) 26
  have hc0 := hc.below (ha w (.cells #[.slice none 0 0, .int .i64 0] 26))
  have D0 := Drawn.of_below (bk := bk) (ha w (.cells #[.slice none 0 0, .int .i64 0] 26))
  have hsz0 : (w.alloc (.cells #[.slice none 0 0, .int .i64 0] 26)).heap.size = w.heap.size + 1 := by simp
  refine (l4DrawRight_any bk _ hc0).mono ?_
  rintro e w1 ⟨⟨sv, ds, cop, rfl, O1, hds, HA, cl, cu⟩, hc1, hd1⟩
  rw [hsz0] at O1
  have Z1 : TwoZ w1 w.heap.size w.heap.size (.slice none 0 0) (.int .i64 0) := Z0.drawn hd1 (by omega)
  have D1 := D0.trans hd1
  have hz1 : w.heap.size + 1 ≤ w1.heap.size := by have := hd1.size; omega
  obtain ⟨va, vn, vc, rfl⟩ := rowN_slice O1
  have l1 := O1.lt
  clear Z0 D0 hc0 hd1 hc hsz0
  go_wp2_with fail
  have X2 := TwoZ.fresh w1 (.slice va vn vc) (.int .i64 cop) 26
  have Z2 := Z1.kept (ha w1 (.cells #[.slice va vn vc, .int .i64 cop] 26))
  have O2 := O1.alloc (.cells #[.slice va vn vc, .int .i64 cop] 26)
  have hc2 := hc1.below (ha w1 (.cells #[.slice va vn vc, .int .i64 cop] 26))
  have D2 := D1.trans (Drawn.of_below (ha w1 (.cells #[.slice va vn vc, .int .i64 cop] 26)))
  have nX : (Value.slice va vn vc).ownBlock ≠ some w1.heap.size := fun e => by have := (l1 _ e).2; omega
  have nZ : (Value.slice va vn vc).ownBlock ≠ some w.heap.size := fun e => by have := (l1 _ e).1; omega
  generalize hbx : w1.heap.size = bx at *
  generalize w1.alloc (.cells #[.slice va vn vc, .int .i64 cop] 26) = w2 at *
  clear hbx Z1 D1 hc1 O1 l1
  refine (l1Below_any bk 20 (by omega) (by omega) _ hc2).mono ?_
  rintro e w3 ⟨⟨y, hy, rfl⟩, hc3, hd3⟩
  have X3 : TwoZ w3 bx bx (.slice va vn vc) (.int .i64 cop) := X2.drawn hd3 (by omega)
  have Z3 : TwoZ w3 w.heap.size w.heap.size (.slice none 0 0) (.int .i64 0) := Z2.drawn hd3 (by omega)
  have O3 := rowN_drawn O2 hd3 (by omega)
  have D3 := D2.trans hd3
  have hA' : ∀ d ∈ ds, -1 ≤ d ∧ d ≤ 8 := fun d h => by have := HA d h; omega
  have HA' := dHide hA'
  clear X2 Z2 D2 hc2 hd3 O2 HA hA'
  have N3 := ownN_of_row O3
  by_cases y0 : ((y : Int) == 0) = true
  · obtain ⟨-, ⟨k0, k1⟩, f0, f1⟩ := id X3
    obtain ⟨-, ⟨r0, r1⟩, g0, g1⟩ := id Z3
    go_wp2_with fail
    refine (pick_new hc3 [0, 4, 5] _ (by simp) (by simp) _).mono ?_
    rintro e w4 ⟨⟨t, ht, rfl⟩, hc4, hd4⟩
    have X4 : TwoZ w4 bx bx (.slice va vn vc) (.int .i64 cop) := X3.drawn hd4 (by omega)
    have Z4 : TwoZ w4 w.heap.size w.heap.size (.slice none 0 0) (.int .i64 0) := Z3.drawn hd4 (by omega)
    have O4 := ownN_of_row (rowN_drawn O3 hd4 (by omega))
    have D4 := D3.trans hd4
    have htb : 0 ≤ t ∧ t ≤ 5 := by
      simp only [List.mem_cons, List.mem_nil_iff, or_false] at ht
      omega
    have Z5 := Z4.far (b' := bx) (o := 1) (by omega) (.int .i64 t)
    have c5 := hc4.setNew4 (b := bx) (by omega) 1 (.int .i64 t)
    have D5 := D4.setNew (b := bx) (by omega) 1 (.int .i64 t)
    have O5 := OwnN.apart O4 nX 1 (.int .i64 t)
    clear k0 k1 f0 f1 r0 r1 g0 g1 ht hd4 X3 Z3 O3 N3 hc3 D3
    obtain ⟨-, ⟨k0, k1⟩, f0, f1⟩ := id X4
    obtain ⟨-, ⟨r0, r1⟩, g0, g1⟩ := id Z4
    go_wp2_with fail
    clear k0 k1 f0 f1 r0 r1 g0 g1
    generalize w4.setCell ⟨bx, 1, none⟩ (.int .i64 t) = w5 at *
    obtain ⟨-, ⟨e0, e1⟩, -⟩ := (Z5.put0 (.slice va vn vc)).put1 (.int .i64 t)
    have hcE := (c5.setNew4 (b := w.heap.size) hlt 0 (.slice va vn vc)).setNew4 (b := w.heap.size) hlt 1 (.int .i64 t)
    have hdE := (D5.setNew (b := w.heap.size) (Nat.le_refl _) 0 (.slice va vn vc)).setNew (b := w.heap.size) (Nat.le_refl _) 1 (.int .i64 t)
    have hoE := ((O5.far (b := w.heap.size) (o := 0) (by omega) (.slice va vn vc)).far (b := w.heap.size) (o := 1) (by omega) (.int .i64 t)).mono (base' := w.heap.size) (by omega)
    generalize (w5.setCell ⟨w.heap.size, 0, none⟩ (.slice va vn vc)).setCell ⟨w.heap.size, 1, none⟩ (.int .i64 t) = V at *
    refine bodyPost_ret (v := .agg #[.slice va vn vc, .int .i64 t]) (by simp [results, Tryd.results20, go_sem, e0, e1]) rfl ⟨⟨_, _, _, rfl, hoE, by omega, dUnhide HA', htb.1, htb.2⟩, hcE, hdE⟩
  have y0' : ((y : Int) == 0) = false := by simpa using y0
  clear y0
  by_cases y1 : ((y : Int) == 1) = true
  · obtain ⟨g, rfl, cg, fg⟩ := rowN_head O3 (by omega)
    have hvn : (0 : Int) < (vn : Int) := by have := rowN_len O3; omega
    have hvn' : ¬ ((vn : Int) ≤ 0) := by omega
    have hvn2 : 0 < vn := by omega
    have hvn3 : ¬ vn = 0 := by omega
    have hgb : bx ≠ g := fun e => nX (by simp [Value.ownBlock, e])
    obtain ⟨-, ⟨k0, k1⟩, f0, f1⟩ := id X3
    obtain ⟨-, ⟨r0, r1⟩, g0, g1⟩ := id Z3
    go_wp2
    go_region_held3 (fun W => W.cell? ⟨bx, 0, none⟩ = some (.slice (some ⟨g, 0, none⟩) vn vc)) (first | exact set_other (by assumption) (.inl hgb) | go_keep)
      (first
        | (go_at_call 43; first | (refine (pick_new (hc3.below (Below.refl _ _).drew) [-1, 7, 8] _ (by simp) (by simp) _).mono ?_; rintro e w4 ⟨⟨t, ht, rfl⟩, hc4, hd4⟩; have hd4 := (Drawn.refl bk w3).drew.trans hd4; have X4 : TwoZ w4 bx bx (.slice (some ⟨g, 0, none⟩) vn vc) (.int .i64 cop) := X3.drawn hd4 (by omega); have Z4 : TwoZ w4 w.heap.size w.heap.size (.slice none 0 0) (.int .i64 0) := Z3.drawn hd4 (by omega); have O4 := rowN_drawn O3 hd4 (by omega); have D4 := D3.trans hd4; obtain ⟨-, ⟨q0, q1⟩, h0, h1⟩ := id X4; obtain ⟨cg4, fg4⟩ := rowN_at O4 (by omega))))
    have htb : -1 ≤ t ∧ t ≤ 8 := by
      simp only [List.mem_cons, List.mem_nil_iff, or_false] at ht
      omega
    have O5 := rowN_set0 O4 t
    have hA5 : ∀ d ∈ ds.set 0 t, -1 ≤ d ∧ d ≤ 8 := fun d h => by
      rcases List.mem_or_eq_of_mem_set h with h1 | h1
      · exact dUnhide HA' d h1
      · rw [h1]; exact htb
    have hl5 : (ds.set 0 t).length ≤ 9 := by rw [List.length_set]; omega
    have hgw : w.heap.size + 1 ≤ g := (O4.lt g rfl).1
    have X5 := X4.far (b' := g) (o := 0) hgb (.int .i64 t)
    have Z5 := Z4.far (b' := g) (o := 0) (by omega) (.int .i64 t)
    have c5 := hc4.setNew4 (b := g) (by omega) 0 (.int .i64 t)
    have D5 := D4.setNew (b := g) (by omega) 0 (.int .i64 t)
    have HA5 := dHide hA5
    clear k0 k1 f0 f1 r0 r1 g0 g1 q0 q1 h0 h1 cg fg cg4 fg4 ht hd4 X3 Z3 O3 N3 hc3 D3 X4 Z4 O4 hc4 D4 hA5 hvn hvn' hvn2 hvn3
    generalize w4.setCell ⟨g, 0, none⟩ (.int .i64 t) = w5 at *
    obtain ⟨-, ⟨k0, k1⟩, f0, f1⟩ := id X5
    obtain ⟨-, ⟨r0, r1⟩, g0, g1⟩ := id Z5
    go_wp2_with fail
    clear k0 k1 f0 f1 r0 r1 g0 g1
    obtain ⟨-, ⟨e0, e1⟩, -⟩ := (Z5.put0 (.slice (some ⟨g, 0, none⟩) vn vc)).put1 (.int .i64 cop)
    have hcE := (c5.setNew4 (b := w.heap.size) hlt 0 (.slice (some ⟨g, 0, none⟩) vn vc)).setNew4 (b := w.heap.size) hlt 1 (.int .i64 cop)
    have hdE := (D5.setNew (b := w.heap.size) (Nat.le_refl _) 0 (.slice (some ⟨g, 0, none⟩) vn vc)).setNew (b := w.heap.size) (Nat.le_refl _) 1 (.int .i64 cop)
    have hoE := ((O5.far (b := w.heap.size) (o := 0) (by omega) (.slice (some ⟨g, 0, none⟩) vn vc)).far (b := w.heap.size) (o := 1) (by omega) (.int .i64 cop)).mono (base' := w.heap.size) (by omega)
    generalize (w5.setCell ⟨w.heap.size, 0, none⟩ (.slice (some ⟨g, 0, none⟩) vn vc)).setCell ⟨w.heap.size, 1, none⟩ (.int .i64 cop) = V at *
    refine bodyPost_ret (v := .agg #[.slice (some ⟨g, 0, none⟩) vn vc, .int .i64 cop]) (by simp [results, Tryd.results20, go_sem, e0, e1]) rfl ⟨⟨_, _, _, rfl, hoE, hl5, dUnhide HA5, by omega, by omega⟩, hcE, hdE⟩
  have y1' : ((y : Int) == 1) = false := by simpa using y1
  clear y1
  by_cases y2 : ((y : Int) == 2) = true
  · obtain ⟨-, ⟨k0, k1⟩, f0, f1⟩ := id X3
    obtain ⟨-, ⟨r0, r1⟩, g0, g1⟩ := id Z3
    go_wp2_with fail
    refine (pick_new hc3 [0, 8, 9] _ (by simp) (by simp) _).mono ?_
    rintro e w4 ⟨⟨t, ht, rfl⟩, hc4, hd4⟩
    have X4 : TwoZ w4 bx bx (.slice va vn vc) (.int .i64 cop) := X3.drawn hd4 (by omega)
    have Z4 : TwoZ w4 w.heap.size w.heap.size (.slice none 0 0) (.int .i64 0) := Z3.drawn hd4 (by omega)
    have D4 := D3.trans hd4
    obtain ⟨n, rfl⟩ : ∃ n : Nat, t = n := by
      simp only [List.mem_cons, List.mem_nil_iff, or_false] at ht
      exact ⟨t.toNat, by omega⟩
    have hn9 : n ≤ 9 := by
      simp only [List.mem_cons, List.mem_nil_iff, or_false] at ht
      omega
    have MK := makeN n (by omega) w4
    have hs4 := D4.size
    have hx4 := dCell_lt X4.2.1.1
    have ba := ha w4 (.cells (zerosN n) 3)
    have OZ : OwnN (w4.alloc (.cells (zerosN n) 3)) w4.heap.size (.slice (some ⟨w4.heap.size, 0, none⟩) n n) (List.replicate n 0) := zerosN_own n w4 (by omega)
    have X5 := X4.kept ba
    have Z5 := Z4.kept ba
    have c5 := hc4.below ba
    have D5 := D4.trans (Drawn.of_below ba)
    clear k0 k1 f0 f1 r0 r1 g0 g1 ht hd4 X3 Z3 O3 N3 hc3 D3 X4 Z4 hc4 D4 ba
    generalize w4.alloc (.cells (zerosN n) 3) = w5 at *
    obtain ⟨-, ⟨k0, k1⟩, f0, f1⟩ := id X5
    obtain ⟨-, ⟨r0, r1⟩, g0, g1⟩ := id Z5
    go_wp2_with fail
    have Z6 := Z5.far (b' := bx) (o := 0) (by omega) (.slice (some ⟨w4.heap.size, 0, none⟩) n n)
    have c6 := c5.setNew4 (b := bx) (by omega) 0 (.slice (some ⟨w4.heap.size, 0, none⟩) n n)
    have D6 := D5.setNew (b := bx) (by omega) 0 (.slice (some ⟨w4.heap.size, 0, none⟩) n n)
    have O6 := OZ.far (b := bx) (o := 0) (by omega) (.slice (some ⟨w4.heap.size, 0, none⟩) n n)
    clear k0 k1 f0 f1 r0 r1 g0 g1
    generalize w5.setCell ⟨bx, 0, none⟩ (.slice (some ⟨w4.heap.size, 0, none⟩) n n) = w6 at *
    obtain ⟨-, ⟨e0, e1⟩, -⟩ := (Z6.put0 (.slice (some ⟨w4.heap.size, 0, none⟩) n n)).put1 (.int .i64 cop)
    have hcE := (c6.setNew4 (b := w.heap.size) hlt 0 (.slice (some ⟨w4.heap.size, 0, none⟩) n n)).setNew4 (b := w.heap.size) hlt 1 (.int .i64 cop)
    have hdE := (D6.setNew (b := w.heap.size) (Nat.le_refl _) 0 (.slice (some ⟨w4.heap.size, 0, none⟩) n n)).setNew (b := w.heap.size) (Nat.le_refl _) 1 (.int .i64 cop)
    have hoE := ((O6.far (b := w.heap.size) (o := 0) (by omega) (.slice (some ⟨w4.heap.size, 0, none⟩) n n)).far (b := w.heap.size) (o := 1) (by omega) (.int .i64 cop)).mono (base' := w.heap.size) (by omega)
    generalize (w6.setCell ⟨w.heap.size, 0, none⟩ (.slice (some ⟨w4.heap.size, 0, none⟩) n n)).setCell ⟨w.heap.size, 1, none⟩ (.int .i64 cop) = V at *
    refine bodyPost_ret (v := .agg #[.slice (some ⟨w4.heap.size, 0, none⟩) n n, .int .i64 cop]) (by simp [results, Tryd.results20, go_sem, e0, e1]) rfl ⟨⟨_, _, _, rfl, hoE, by simp; omega, (fun d h => by rw [List.eq_of_mem_replicate h]; omega), by omega, by omega⟩, hcE, hdE⟩
  have y2' : ((y : Int) == 2) = false := by simpa using y2
  obtain ⟨-, ⟨k0, k1⟩, f0, f1⟩ := id X3
  obtain ⟨-, ⟨r0, r1⟩, g0, g1⟩ := id Z3
  go_wp2_with fail
  clear k0 k1 f0 f1 r0 r1 g0 g1
  obtain ⟨-, ⟨e0, e1⟩, -⟩ := (Z3.put0 (.slice va vn vc)).put1 (.int .i64 cop)
  have hcE := (hc3.setNew4 (b := w.heap.size) hlt 0 (.slice va vn vc)).setNew4 (b := w.heap.size) hlt 1 (.int .i64 cop)
  have hdE := (D3.setNew (b := w.heap.size) (Nat.le_refl _) 0 (.slice va vn vc)).setNew (b := w.heap.size) (Nat.le_refl _) 1 (.int .i64 cop)
  have hoE := ((N3.far (b := w.heap.size) (o := 0) (by omega) (.slice va vn vc)).far (b := w.heap.size) (o := 1) (by omega) (.int .i64 cop)).mono (base' := w.heap.size) (by omega)
  generalize (w3.setCell ⟨w.heap.size, 0, none⟩ (.slice va vn vc)).setCell ⟨w.heap.size, 1, none⟩ (.int .i64 cop) = V at *
  refine bodyPost_ret (v := .agg #[.slice va vn vc, .int .i64 cop]) (by simp [results, Tryd.results20, go_sem, e0, e1]) rfl ⟨⟨_, _, _, rfl, hoE, by omega, dUnhide HA', by omega, by omega⟩, hcE, hdE⟩
end Go.Proofs.YthndkkjgjhgdnaaDoor
