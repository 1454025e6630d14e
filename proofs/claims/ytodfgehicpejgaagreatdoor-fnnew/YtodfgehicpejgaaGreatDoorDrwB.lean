/- Drawn configs: l4DrawRight. -/
import Derived.Test.YtodfgehicpejgaaGreatDoorGk172
import Derived.Test.YtodfgehicpejgaaGreatDoorGk170
import Derived.Test.YtodfgehicpejgaaGreatDoorGk165
import Derived.Test.YtodfgehicpejgaaGreatDoorGk179
import Derived.Deep.RegionHeld3
import Derived.Deep.DeepCutAuto
namespace Go.Proofs.YtodfgehicpejgaaGreatDoor
open Go.ChangeShapes Go.WideShapes Go.ChangeAt Go.RowKit
set_option linter.unusedVariables false
set_option linter.unusedSimpArgs false

theorem Cur.setNew4 {bk : Nat} {W : World} (h : Cur W bk) {b : Nat} (hb : bk < b) (o : Nat) (u : Value) : Cur (W.setCell ⟨b, o, none⟩ u) bk :=
 h.grown (grown_set W b o u) (fun k e => by cases e; exact hb)
theorem step_appN {ops : Array Oper} {o : Oper} {a : Act} {w : World} {K : Act → World → Prop} {Q : Exit → Act → World → Prop} {E : Prop}
  (hg : o.guard = none) (s x : Operand) (hop : o.op = .call { callee := .builtin .append, args := #[s, x], argTypes := #[24, 24] })
  (base : Nat) (v : Value) (bs : List Int) (hs : a.eval s = v) (hown : w.ownsRow base 3 1 v bs.length (ncells bs))
  (g c : Nat) (y : Int) (hx : a.eval x = .slice (some ⟨g, 0, none⟩) 1 c) (hsrc : ∀ j u, (ncells [y])[j]? = some u → w.cell? ((⟨g, 0, none⟩ : Addr).add j) = some u)
  (hb : bs.length + 1 ≤ 1099511627776) (hbase : base ≤ w.heap.size)
  (h : ∀ v' w', w'.ownsRow base 3 1 v' (bs ++ [y]).length (ncells (bs ++ [y])) → w.grownBy w' v.ownBlock → K (a.put o.dst v') w') :
  if Region.wanted o (yielded ops a.tmps) = true then Oper.wp Tryz.prog o a w K Q else E := by
 obtain ⟨i0, hi, hz0, hz1, hz2⟩ := info_parts infoI
 have hm : maxLen = 9223372036854775807 := rfl
 have hw : Region.wanted o (yielded ops a.tmps) = true := by simp [Region.wanted, hg]
 rw [if_pos hw]
 obtain ⟨v', w', hrun, h1, h2, _⟩ := run_append_own (P := Tryz.prog) w base 24 o.type 3 i0 (.int .i64 0) 1 8 Tryz.underlying24 hi hz0 hz1 hz2 rfl (by decide) v bs.length (ncells bs) hown ⟨g, 0, none⟩ 1 c (ncells [y]) (by simp [ncells]) hsrc (ncells_one _) (by omega) (by omega) hbase
 have h3 := h v' w' (by
  have e : ncells (bs ++ [y]) = ncells bs ++ ncells [y] := by simp [ncells]
  rw [e, List.length_append]; exact h1) h2
 unfold Oper.wp
 simp [execOp, hop, resolve, invoke, builtin, hs, hx, hrun, Result.andThen]
 exact h3
theorem rowN_drawn {w w' : World} {B bk n : Nat} {v : Value} {l : List Value} (h : w.ownsRow B 3 1 v n l) (hd : Drawn bk w w') (hb : bk < B) : w'.ownsRow B 3 1 v n l :=
 h.kept (row := some bk) ⟨hd.os, hd.tape, hd.output, hd.size, fun k hk hn => hd.block k hk (fun e => hn (by rw [e]))⟩ (by
  cases hv : v.ownBlock with
  | none => exact .inl rfl
  | some k => exact .inr (fun e => absurd (h.lt k hv).1 (by
   have h2 : k = bk := by simpa using e
   omega)))
theorem TwoZ.grown {w w' : World} {B b : Nat} {c0 c1 : Value} {row : Option Nat} (h : TwoZ w B b c0 c1) (g : w.grownBy w' row) (hn : row ≠ some b) : TwoZ w' B b c0 c1 := by
 obtain ⟨h0, ⟨k0, k1⟩, f0, f1⟩ := h
 have lt := dCell_lt k0
 have e := g.block b lt (fun h => hn h.symm)
 exact ⟨h0, ⟨(World.cell?_of_block (a := ⟨b, 0, none⟩) e).trans k0, (World.cell?_of_block (a := ⟨b, 1, none⟩) e).trans k1⟩, (World.frozen?_of_block (a := ⟨b, 0, none⟩) e).trans f0, (World.frozen?_of_block (a := ⟨b, 1, none⟩) e).trans f1⟩
theorem Drawn.grew {bk : Nat} {w w1 w2 : World} {row : Option Nat} (h : Drawn bk w w1) (g : w1.grownBy w2 row) (hr : ∀ k, row = some k → w.heap.size ≤ k) : Drawn bk w w2 :=
 ⟨g.os.trans h.os, g.tape.trans h.tape, g.output.trans h.output, Nat.le_trans h.size g.size, fun k hk hn => (g.block k (Nat.lt_of_lt_of_le hk h.size) (fun e => by have := hr k e.symm; omega)).trans (h.block k hk hn)⟩
theorem rowN_slice {w : World} {B n : Nat} {v : Value} {l : List Value} (h : w.ownsRow B 3 1 v n l) : ∃ a n c, v = .slice a n c := by
 rcases h.2 with ⟨rfl, _⟩ | ⟨g, cap, cur, rfl, _⟩
 ·exact ⟨_, _, _, rfl⟩
 ·exact ⟨_, _, _, rfl⟩
theorem rowN_ne {w : World} {B b n : Nat} {v sv : Value} {l : List Int} (h : w.ownsRow B 3 1 v n (ncells l)) (hl : 0 < l.length) (hs : ∃ a n c, sv = .slice a n c) (hc : w.cell? ⟨b, 0, none⟩ = some sv) : v.ownBlock ≠ some b := by
 intro hb
 obtain ⟨a, m, c, rfl⟩ := hs
 have h1 := h.cells hb 0 (.int .i64 l[0]) (by simp [ncells, hl])
 have e : (⟨b, 0, none⟩ : Addr).add 0 = ⟨b, 0, none⟩ := by simp [Addr.add]
 rw [e, hc] at h1
 cases h1
set_option maxHeartbeats 2000000 in
set_option maxRecDepth 100000 in
theorem l4DrawRight_any (bk : Nat) (w : World) (hc : Cur w bk) :
  Calls Tryz.prog 34 #[.pointer (some ⟨bk, 0, none⟩)] w fun r w' => (∃ (sv : Value) (ds : List Int) (cop : Int), r = .returned (.agg #[sv, .int .i64 cop]) ∧ w'.ownsRow w.heap.size 3 1 sv ds.length (ncells ds) ∧ (3 ≤ ds.length ∧ ds.length ≤ 7) ∧ (∀ d ∈ ds, 0 ≤ d ∧ d ≤ 4) ∧ 1 ≤ cop ∧ cop ≤ 3) ∧ Cur w' bk ∧ Drawn bk w w' := by
 have hlt := hc.lt
 have ha : ∀ (w : World) o, Below w.heap.size w (w.alloc o) := fun w o => (Below.refl _ _).alloc (Nat.le_refl _) o
 go_enter Tryz.func34, Tryz.ntmps34
 go_wp2_with fail
 have Z0 := TwoZ.fresh w (.slice none 0 0) (.int .i64 0) 26
 have hc0 := hc.below (ha w (.cells #[.slice none 0 0, .int .i64 0] 26))
 have D0 := Drawn.of_below (bk := bk) (ha w (.cells #[.slice none 0 0, .int .i64 0] 26))
 refine (l1Below_any bk 3 (by omega) (by omega) _ hc0).mono ?_
 rintro e w1 ⟨⟨x, hx, rfl⟩, hc1, hd1⟩
 have Z1 : TwoZ w1 w.heap.size w.heap.size (.slice none 0 0) (.int .i64 0) := Z0.drawn hd1 (by omega)
 have D1 := D0.trans hd1
 have hs1 := D1.size
 have hz1 := dCell_lt Z1.2.1.1
 clear Z0 D0 hc0 hd1 hc
 go_wp2_with fail
 have X2 := TwoZ.fresh w1 (.slice none 0 0) (.int .i64 (1 + (x : Int))) 26
 have Z2 := Z1.kept (ha w1 (.cells #[.slice none 0 0, .int .i64 (1 + (x : Int))] 26))
 have hc2 := hc1.below (ha w1 (.cells #[.slice none 0 0, .int .i64 (1 + (x : Int))] 26))
 have D2 := D1.trans (Drawn.of_below (ha w1 (.cells #[.slice none 0 0, .int .i64 (1 + (x : Int))] 26)))
 generalize hbx : w1.heap.size = bx at *
 generalize w1.alloc (.cells #[.slice none 0 0, .int .i64 (1 + (x : Int))] 26) = w2 at *
 clear hbx Z1 D1 hc1
 refine (l1Below_any bk 5 (by omega) (by omega) _ hc2).mono ?_
 rintro e w3 ⟨⟨y, hy, rfl⟩, hc3, hd3⟩
 have X3 : TwoZ w3 bx bx (.slice none 0 0) (.int .i64 (1 + (x : Int))) := X2.drawn hd3 (by omega)
 have Z3 : TwoZ w3 w.heap.size w.heap.size (.slice none 0 0) (.int .i64 0) := Z2.drawn hd3 (by omega)
 have D3 := D2.trans hd3
 have HX3 := dH X3
 have HZ3 := dH Z3
 have HC3 := dH hc3
 have HD3 := dH D3
 clear X2 Z2 D2 hc2 hd3 X3 Z3 hc3 D3
 go_wp2
 go_loopw [5] (fun xi wr => ∃ (k : Nat) (sv : Value) (ds : List Int), xi = .int .i64 (k : Int) ∧ k ≤ 3 + y ∧ Hid (TwoZ wr bx bx sv (.int .i64 (1 + (x : Int)))) ∧ Hid (TwoZ wr w.heap.size w.heap.size (.slice none 0 0) (.int .i64 0)) ∧ Hid (Cur wr bk) ∧ Hid (Drawn bk w wr) ∧ Hid (wr.ownsRow w.heap.size 3 1 sv ds.length (ncells ds)) ∧ Hid (sv.ownBlock ≠ some bx) ∧ Hid (sv.ownBlock ≠ some w.heap.size) ∧ ds.length = k ∧ Hid (∀ d ∈ ds, 0 ≤ d ∧ d ≤ 4)) (fun xi _ => 3 + y - (intOf xi).toNat)
 case atStart => exact ⟨0, .slice none 0 0, [], rfl, Nat.zero_le _, HX3, HZ3, HC3, HD3, World.ownsRow_nil _ _ _ _, (fun h => by cases h), (fun h => by cases h), rfl, (fun d h => by cases h)⟩
 case round =>
  obtain ⟨k, sv, ds, rfl, hk, HX, HZ, HC, HD, HO, HN, HN0, hdl, HA⟩ := hrel
  clear HX3 HZ3 HC3 HD3
  obtain ⟨xb, ⟨k0, k1⟩, f0, f1⟩ := id (dU HX)
  by_cases hlt' : (k : Int) < 3 + (y : Int)
  ·have hcr := dU HC
   have hdl5 : ds.length ≤ 100 := by omega
   have hneb : sv.ownBlock ≠ some bx := dU HN
   have HSL : Hid (∃ a n c, sv = .slice a n c) := rowN_slice (dU HO)
   go_wp2
   refine wp_region_noPanic ?_
   refine wp_region_held_drew (S := fun _ => True) (by kernel_rfl) trivial (fun hHeld => ?_)
   refine tY 0 (v := ?_) rfl (by kernel_rfl) (.inl ⟨by rfl, ?_⟩) ‹_› ?_
   rotate_left 1
   ·intro w hSw
    (try dsimp only at hSw)
    first | (go_simp; done) | (go_simp; with_reducible rfl)
   try simp only [Act.put, sA, sB, sC]
   refine tY 2 (v := ?_) rfl (by kernel_rfl) (.inl ⟨by rfl, ?_⟩) ‹_› ?_
   rotate_left 1
   ·intro w hSw
    (try dsimp only at hSw)
    first | (go_simp; done) | (go_simp; with_reducible rfl)
   try simp only [Act.put, sA, sB, sC]
   refine wpAnyH_ready (rs := [1, 3]) (by kernel_rfl) (by simp) ?_
   refine rC rfl (fun K hK => ?_) (rC rfl (fun K hK => ?_) AllReadyH.nil)
   ·go_simp
    (try go_wp2_with fail)
    refine hK.out _ _ trivial (fun hHeld => ?_)
    clear hK K
    try simp only [Act.put, sA, sB, sC]
    refine wpAnyH_ready (rs := [3]) (by kernel_rfl) (by simp) ?_
    refine rC rfl (fun K hK => ?_) AllReadyH.nil
    go_simp
    refine (l1Below_any bk 5 (by omega) (by omega) _ (hcr.below (Below.refl _ _).drew)).mono ?_
    rintro e w4 ⟨⟨z, hz, rfl⟩, hc4, hd4⟩
    have hd4 := (Drawn.refl bk wr).drew.trans hd4
    have X4 : TwoZ w4 bx bx sv (.int .i64 (1 + (x : Int))) := (dU HX).drawn hd4 (by omega)
    obtain ⟨xb4, ⟨q0, q1⟩, g0, g1⟩ := id X4
    have hbx4 : bx < w4.heap.size := dCell_lt q0
    have O4 := rowN_drawn (dU HO) hd4 hlt
    have Z4 := (dU HZ).drawn hd4 (by omega)
    have D4 := (dU HD).trans hd4
    (try go_wp2_with fail)
    refine hK.out _ _ trivial (fun hHeld => ?_)
    clear hK K
    try simp only [Act.put, sA, sB, sC]
    refine wpAnyH_ready (rs := [4]) (by kernel_rfl) (by simp) ?_
    refine rC rfl (fun K hK => ?_) AllReadyH.nil
    go_simp
    (try go_wp2_with fail)
    refine hK.out _ _ trivial (fun hHeld => ?_)
    clear hK K
    try simp only [Act.put, sA, sB, sC]
    refine wpAnyH_ready (rs := [5]) (by kernel_rfl) (by simp) ?_
    refine rC rfl (fun K hK => ?_) AllReadyH.nil
    refine step_appN rfl _ _ rfl w.heap.size _ ds rfl (O4.alloc _) w4.heap.size 1 (z : Int) rfl (one_int _ _ _) (by omega) (by have := D4.size; simp; omega) ?_
    intro v5 w5 o5 r5
    obtain ⟨va, vn, vc, rfl⟩ := rowN_slice o5
    have ba : ∀ o, Below w4.heap.size w4 (w4.alloc o) := fun o => (Below.refl _ _).alloc (Nat.le_refl _) o
    have X5 : TwoZ w5 bx bx sv (.int .i64 (1 + (x : Int))) := (X4.kept (ba _)).grown r5 hneb
    have Z5 : TwoZ w5 w.heap.size w.heap.size (.slice none 0 0) (.int .i64 0) := (Z4.kept (ba _)).grown r5 (dU HN0)
    have c5 : Cur w5 bk := (hc4.below (ba _)).grown r5 (fun k hk => by have := (O4.lt k hk).1; omega)
    have D5 : Drawn bk w w5 := (D4.trans (Drawn.of_below (ba _))).grew r5 (fun k hk => (O4.lt k hk).1)
    obtain ⟨xb5, ⟨s0, s1⟩, t0, t1⟩ := id X5
    have n6 : (Value.slice va vn vc).ownBlock ≠ some bx := rowN_ne o5 (by simp) (dU HSL) s0
    have n7 : (Value.slice va vn vc).ownBlock ≠ some w.heap.size := rowN_ne o5 (by simp) ⟨_, _, _, rfl⟩ Z5.2.1.1
    refine hK.out _ _ trivial (fun hHeld => ?_)
    clear hK K
    try simp only [Act.put, sA, sB, sC]
    refine tY 6 (v := ?_) rfl (by kernel_rfl) (.inl ⟨by rfl, ?_⟩) ‹_› ?_
    rotate_left 1
    ·intro w hSw
     (try dsimp only at hSw)
     first | (go_simp; done) | (go_simp; with_reducible rfl)
    try simp only [Act.put, sA, sB, sC]
    refine wpAnyH_ready (rs := [7]) (by kernel_rfl) (by simp) ?_
    refine rC rfl (fun K hK => ?_) AllReadyH.nil
    go_simp
    (try go_wp2_with fail)
    refine hK.out _ _ trivial (fun hHeld => ?_)
    clear hK K
    try simp only [Act.put, sA, sB, sC]
    refine wpAnyH_done (by kernel_rfl) ?_ _
    refine NoPanic.normal ?_
    have X6 := dH (X5.put0 (.slice va vn vc))
    have Z6 := dH (Z5.far (b' := bx) (o := 0) (by omega) (.slice va vn vc))
    have C6 := dH (c5.setNew4 (b := bx) (by omega) 0 (.slice va vn vc))
    have D6 := dH (D5.setNew (b := bx) (by omega) 0 (.slice va vn vc))
    have O6 := dH (o5.kept (grown_set w5 bx 0 (.slice va vn vc)) (.inr n6))
    have HA6 : Hid (∀ d ∈ ds ++ [(z : Int)], 0 ≤ d ∧ d ≤ 4) := fun d h => by
     rcases List.mem_append.1 h with h1 | h1
     ·exact dU HA d h1
     ·rw [List.mem_singleton.1 h1]; omega
    have N6 := dH n6
    have M6 := dH n7
    clear X5 Z5 c5 D5 o5 n6 s0 s1 t0 t1 q0 q1 g0 g1 k0 k1 f0 f1 O4 Z4 D4 X4 hc4 hd4 r5 hcr hneb HX HZ HC HD HO HN HN0 HSL HA n7 ba
    generalize w5.setCell ⟨bx, 0, none⟩ (.slice va vn vc) = w6 at *
    go_wp2
    go_roundw
    case rel => exact ⟨k + 1, .slice va vn vc, ds ++ [(z : Int)], by go_num, by omega, X6, Z6, C6, D6, O6, N6, M6, by simp; omega, HA6⟩
    case measure => simp [intOf]; omega
   ·go_simp
    refine (l1Below_any bk 5 (by omega) (by omega) _ (hcr.below (Below.refl _ _).drew)).mono ?_
    rintro e w4 ⟨⟨z, hz, rfl⟩, hc4, hd4⟩
    have hd4 := (Drawn.refl bk wr).drew.trans hd4
    have X4 : TwoZ w4 bx bx sv (.int .i64 (1 + (x : Int))) := (dU HX).drawn hd4 (by omega)
    obtain ⟨xb4, ⟨q0, q1⟩, g0, g1⟩ := id X4
    have hbx4 : bx < w4.heap.size := dCell_lt q0
    have O4 := rowN_drawn (dU HO) hd4 hlt
    have Z4 := (dU HZ).drawn hd4 (by omega)
    have D4 := (dU HD).trans hd4
    (try go_wp2_with fail)
    refine hK.out _ _ trivial (fun hHeld => ?_)
    clear hK K
    try simp only [Act.put, sA, sB, sC]
    refine wpAnyH_ready (rs := [1, 4]) (by kernel_rfl) (by simp) ?_
    refine rC rfl (fun K hK => ?_) (rC rfl (fun K hK => ?_) AllReadyH.nil)
    ·go_simp
     (try go_wp2_with fail)
     refine hK.out _ _ trivial (fun hHeld => ?_)
     clear hK K
     try simp only [Act.put, sA, sB, sC]
     refine wpAnyH_ready (rs := [4]) (by kernel_rfl) (by simp) ?_
     refine rC rfl (fun K hK => ?_) AllReadyH.nil
     go_simp
     (try go_wp2_with fail)
     refine hK.out _ _ trivial (fun hHeld => ?_)
     clear hK K
     try simp only [Act.put, sA, sB, sC]
     refine wpAnyH_ready (rs := [5]) (by kernel_rfl) (by simp) ?_
     refine rC rfl (fun K hK => ?_) AllReadyH.nil
     refine step_appN rfl _ _ rfl w.heap.size _ ds rfl (O4.alloc _) w4.heap.size 1 (z : Int) rfl (one_int _ _ _) (by omega) (by have := D4.size; simp; omega) ?_
     intro v5 w5 o5 r5
     obtain ⟨va, vn, vc, rfl⟩ := rowN_slice o5
     have ba : ∀ o, Below w4.heap.size w4 (w4.alloc o) := fun o => (Below.refl _ _).alloc (Nat.le_refl _) o
     have X5 : TwoZ w5 bx bx sv (.int .i64 (1 + (x : Int))) := (X4.kept (ba _)).grown r5 hneb
     have Z5 : TwoZ w5 w.heap.size w.heap.size (.slice none 0 0) (.int .i64 0) := (Z4.kept (ba _)).grown r5 (dU HN0)
     have c5 : Cur w5 bk := (hc4.below (ba _)).grown r5 (fun k hk => by have := (O4.lt k hk).1; omega)
     have D5 : Drawn bk w w5 := (D4.trans (Drawn.of_below (ba _))).grew r5 (fun k hk => (O4.lt k hk).1)
     obtain ⟨xb5, ⟨s0, s1⟩, t0, t1⟩ := id X5
     have n6 : (Value.slice va vn vc).ownBlock ≠ some bx := rowN_ne o5 (by simp) (dU HSL) s0
     have n7 : (Value.slice va vn vc).ownBlock ≠ some w.heap.size := rowN_ne o5 (by simp) ⟨_, _, _, rfl⟩ Z5.2.1.1
     refine hK.out _ _ trivial (fun hHeld => ?_)
     clear hK K
     try simp only [Act.put, sA, sB, sC]
     refine tY 6 (v := ?_) rfl (by kernel_rfl) (.inl ⟨by rfl, ?_⟩) ‹_› ?_
     rotate_left 1
     ·intro w hSw
      (try dsimp only at hSw)
      first | (go_simp; done) | (go_simp; with_reducible rfl)
     try simp only [Act.put, sA, sB, sC]
     refine wpAnyH_ready (rs := [7]) (by kernel_rfl) (by simp) ?_
     refine rC rfl (fun K hK => ?_) AllReadyH.nil
     go_simp
     (try go_wp2_with fail)
     refine hK.out _ _ trivial (fun hHeld => ?_)
     clear hK K
     try simp only [Act.put, sA, sB, sC]
     refine wpAnyH_done (by kernel_rfl) ?_ _
     refine NoPanic.normal ?_
     have X6 := dH (X5.put0 (.slice va vn vc))
     have Z6 := dH (Z5.far (b' := bx) (o := 0) (by omega) (.slice va vn vc))
     have C6 := dH (c5.setNew4 (b := bx) (by omega) 0 (.slice va vn vc))
     have D6 := dH (D5.setNew (b := bx) (by omega) 0 (.slice va vn vc))
     have O6 := dH (o5.kept (grown_set w5 bx 0 (.slice va vn vc)) (.inr n6))
     have HA6 : Hid (∀ d ∈ ds ++ [(z : Int)], 0 ≤ d ∧ d ≤ 4) := fun d h => by
      rcases List.mem_append.1 h with h1 | h1
      ·exact dU HA d h1
      ·rw [List.mem_singleton.1 h1]; omega
     have N6 := dH n6
     have M6 := dH n7
     clear X5 Z5 c5 D5 o5 n6 s0 s1 t0 t1 q0 q1 g0 g1 k0 k1 f0 f1 O4 Z4 D4 X4 hc4 hd4 r5 hcr hneb HX HZ HC HD HO HN HN0 HSL HA n7 ba
     generalize w5.setCell ⟨bx, 0, none⟩ (.slice va vn vc) = w6 at *
     go_wp2
     go_roundw
     case rel => exact ⟨k + 1, .slice va vn vc, ds ++ [(z : Int)], by go_num, by omega, X6, Z6, C6, D6, O6, N6, M6, by simp; omega, HA6⟩
     case measure => simp [intOf]; omega
    ·go_simp
     (try go_wp2_with fail)
     refine hK.out _ _ trivial (fun hHeld => ?_)
     clear hK K
     try simp only [Act.put, sA, sB, sC]
     refine wpAnyH_ready (rs := [1]) (by kernel_rfl) (by simp) ?_
     refine rC rfl (fun K hK => ?_) AllReadyH.nil
     go_simp
     (try go_wp2_with fail)
     refine hK.out _ _ trivial (fun hHeld => ?_)
     clear hK K
     try simp only [Act.put, sA, sB, sC]
     refine wpAnyH_ready (rs := [5]) (by kernel_rfl) (by simp) ?_
     refine rC rfl (fun K hK => ?_) AllReadyH.nil
     refine step_appN rfl _ _ rfl w.heap.size _ ds rfl (O4.alloc _) w4.heap.size 1 (z : Int) rfl (one_int _ _ _) (by omega) (by have := D4.size; simp; omega) ?_
     intro v5 w5 o5 r5
     obtain ⟨va, vn, vc, rfl⟩ := rowN_slice o5
     have ba : ∀ o, Below w4.heap.size w4 (w4.alloc o) := fun o => (Below.refl _ _).alloc (Nat.le_refl _) o
     have X5 : TwoZ w5 bx bx sv (.int .i64 (1 + (x : Int))) := (X4.kept (ba _)).grown r5 hneb
     have Z5 : TwoZ w5 w.heap.size w.heap.size (.slice none 0 0) (.int .i64 0) := (Z4.kept (ba _)).grown r5 (dU HN0)
     have c5 : Cur w5 bk := (hc4.below (ba _)).grown r5 (fun k hk => by have := (O4.lt k hk).1; omega)
     have D5 : Drawn bk w w5 := (D4.trans (Drawn.of_below (ba _))).grew r5 (fun k hk => (O4.lt k hk).1)
     obtain ⟨xb5, ⟨s0, s1⟩, t0, t1⟩ := id X5
     have n6 : (Value.slice va vn vc).ownBlock ≠ some bx := rowN_ne o5 (by simp) (dU HSL) s0
     have n7 : (Value.slice va vn vc).ownBlock ≠ some w.heap.size := rowN_ne o5 (by simp) ⟨_, _, _, rfl⟩ Z5.2.1.1
     refine hK.out _ _ trivial (fun hHeld => ?_)
     clear hK K
     try simp only [Act.put, sA, sB, sC]
     refine tY 6 (v := ?_) rfl (by kernel_rfl) (.inl ⟨by rfl, ?_⟩) ‹_› ?_
     rotate_left 1
     ·intro w hSw
      (try dsimp only at hSw)
      first | (go_simp; done) | (go_simp; with_reducible rfl)
     try simp only [Act.put, sA, sB, sC]
     refine wpAnyH_ready (rs := [7]) (by kernel_rfl) (by simp) ?_
     refine rC rfl (fun K hK => ?_) AllReadyH.nil
     go_simp
     (try go_wp2_with fail)
     refine hK.out _ _ trivial (fun hHeld => ?_)
     clear hK K
     try simp only [Act.put, sA, sB, sC]
     refine wpAnyH_done (by kernel_rfl) ?_ _
     refine NoPanic.normal ?_
     have X6 := dH (X5.put0 (.slice va vn vc))
     have Z6 := dH (Z5.far (b' := bx) (o := 0) (by omega) (.slice va vn vc))
     have C6 := dH (c5.setNew4 (b := bx) (by omega) 0 (.slice va vn vc))
     have D6 := dH (D5.setNew (b := bx) (by omega) 0 (.slice va vn vc))
     have O6 := dH (o5.kept (grown_set w5 bx 0 (.slice va vn vc)) (.inr n6))
     have HA6 : Hid (∀ d ∈ ds ++ [(z : Int)], 0 ≤ d ∧ d ≤ 4) := fun d h => by
      rcases List.mem_append.1 h with h1 | h1
      ·exact dU HA d h1
      ·rw [List.mem_singleton.1 h1]; omega
     have N6 := dH n6
     have M6 := dH n7
     clear X5 Z5 c5 D5 o5 n6 s0 s1 t0 t1 q0 q1 g0 g1 k0 k1 f0 f1 O4 Z4 D4 X4 hc4 hd4 r5 hcr hneb HX HZ HC HD HO HN HN0 HSL HA n7 ba
     generalize w5.setCell ⟨bx, 0, none⟩ (.slice va vn vc) = w6 at *
     go_wp2
     go_roundw
     case rel => exact ⟨k + 1, .slice va vn vc, ds ++ [(z : Int)], by go_num, by omega, X6, Z6, C6, D6, O6, N6, M6, by simp; omega, HA6⟩
     case measure => simp [intOf]; omega
  ·have hcr := dU HC
   have hs4 : w.heap.size < bx := hz1
   go_wp2_with fail
   refine (l1Once_any bk 2 (by omega) (by omega) _ hcr).mono ?_
   rintro e w4 ⟨⟨bb, rfl⟩, hc4, hd4⟩
   have X4 : TwoZ w4 bx bx sv (.int .i64 (1 + (x : Int))) := (dU HX).drawn hd4 (by omega)
   have Z4 : TwoZ w4 w.heap.size w.heap.size (.slice none 0 0) (.int .i64 0) := (dU HZ).drawn hd4 (by omega)
   have O4 := rowN_drawn (dU HO) hd4 hlt
   have D4 := (dU HD).trans hd4
   obtain ⟨va, vn, vc, rfl⟩ := rowN_slice O4
   have nX := dU HN
   have nZ := dU HN0
   have hds : 3 ≤ ds.length ∧ ds.length ≤ 7 := by omega
   have HA := dU HA
   clear HX HZ HC HD HO HN HN0 hcr hd4 k0 k1 f0 f1
   cases bb
   ·obtain ⟨-, ⟨k0, k1⟩, -⟩ := id X4
    obtain ⟨-, ⟨r0, r1⟩, g0, g1⟩ := id Z4
    go_wp2
    obtain ⟨-, ⟨e0, e1⟩, -⟩ := (Z4.put0 (.slice va vn vc)).put1 (.int .i64 (1 + (x : Int)))
    have hcE := (hc4.setNew4 (b := w.heap.size) hlt 0 (.slice va vn vc)).setNew4 (b := w.heap.size) hlt 1 (.int .i64 (1 + (x : Int)))
    have hdE := (D4.setNew (b := w.heap.size) (Nat.le_refl _) 0 (.slice va vn vc)).setNew (b := w.heap.size) (Nat.le_refl _) 1 (.int .i64 (1 + (x : Int)))
    have hoE := (O4.kept (grown_set w4 w.heap.size 0 (.slice va vn vc)) (.inr nZ)).kept (grown_set (w4.setCell ⟨w.heap.size, 0, none⟩ (.slice va vn vc)) w.heap.size 1 (.int .i64 (1 + (x : Int)))) (.inr nZ)
    generalize (w4.setCell ⟨w.heap.size, 0, none⟩ (.slice va vn vc)).setCell ⟨w.heap.size, 1, none⟩ (.int .i64 (1 + (x : Int))) = V at *
    refine bodyPost_ret (v := .agg #[.slice va vn vc, .int .i64 (1 + (x : Int))]) (by simp [results, Tryz.results34, go_sem, e0, e1]) rfl ⟨⟨_, ds, _, rfl, hoE, hds, HA, by omega, by omega⟩, hcE, hdE⟩
   ·obtain ⟨-, ⟨k0, k1⟩, f0, f1⟩ := id X4
    obtain ⟨-, ⟨r0, r1⟩, g0, g1⟩ := id Z4
    have X5 := X4.put1 (.int .i64 2)
    have Z5 := Z4.far (b' := bx) (o := 1) (by omega) (.int .i64 2)
    have c5 := hc4.setNew4 (b := bx) (by omega) 1 (.int .i64 2)
    have D5 := D4.setNew (b := bx) (by omega) 1 (.int .i64 2)
    have O5 := O4.kept (grown_set w4 bx 1 (.int .i64 2)) (.inr nX)
    go_wp2_with fail
    generalize w4.setCell ⟨bx, 1, none⟩ (.int .i64 2) = w5 at *
    obtain ⟨-, ⟨e0, e1⟩, -⟩ := (Z5.put0 (.slice va vn vc)).put1 (.int .i64 2)
    have hcE := (c5.setNew4 (b := w.heap.size) hlt 0 (.slice va vn vc)).setNew4 (b := w.heap.size) hlt 1 (.int .i64 2)
    have hdE := (D5.setNew (b := w.heap.size) (Nat.le_refl _) 0 (.slice va vn vc)).setNew (b := w.heap.size) (Nat.le_refl _) 1 (.int .i64 2)
    have hoE := (O5.kept (grown_set w5 w.heap.size 0 (.slice va vn vc)) (.inr nZ)).kept (grown_set (w5.setCell ⟨w.heap.size, 0, none⟩ (.slice va vn vc)) w.heap.size 1 (.int .i64 2)) (.inr nZ)
    generalize (w5.setCell ⟨w.heap.size, 0, none⟩ (.slice va vn vc)).setCell ⟨w.heap.size, 1, none⟩ (.int .i64 2) = V at *
    refine bodyPost_ret (v := .agg #[.slice va vn vc, .int .i64 2]) (by simp [results, Tryz.results34, go_sem, e0, e1]) rfl ⟨⟨_, ds, _, rfl, hoE, hds, HA, by omega, by omega⟩, hcE, hdE⟩
end Go.Proofs.YtodfgehicpejgaaGreatDoor
