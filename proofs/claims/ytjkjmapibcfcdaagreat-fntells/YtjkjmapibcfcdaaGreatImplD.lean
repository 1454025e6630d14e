/- impl's Enough. -/
import Derived.Test.YtjkjmapibcfcdaaGreatGz13
namespace Go.Proofs.YtjkjmapibcfcdaaGreat
open Go.ChangeShapes Go.WideShapes Go.ChangeAt Go.RowKit
set_option linter.unusedVariables false

theorem allInt_less {xs ys : List Int} (h : allInt xs) : allInt (lessL xs ys) := fun x hx => h x (List.mem_filter.1 hx).1
set_option maxHeartbeats 4000000 in
theorem implEnough_any (sv u v : Value) (ds xs ys : List Int) (cop : Int) (w : World) (hd : Ns w sv ds) (hu : Ns w u xs) (hv : Ns w v ys) (had : allInt ds) (hax : allInt xs) (hay : allInt ys) (hld : ds.length ≤ 1048576) (hlx : xs.length ≤ 1048576) (hly : ys.length ≤ 1048576) (c0 : -9223372036854775808 ≤ cop) (c1 : cop ≤ 9223372036854775807) :
  Calls Tryz.prog 20 #[.agg #[sv, .int .i64 cop], u, v] w fun e w' => RetB (enoughP ds cop xs ys) e ∧ Below w.heap.size w w' := by
 have hb0 : ∀ o, Below w.heap.size w (w.alloc o) := fun o => (Below.refl _ _).alloc (Nat.le_refl _) o
 have C1 := dH fun W (hb : Below w.heap.size w W) => implNodes_any sv v ds ys cop W (hd.below hb) (hv.below hb) had hay hld hly c0 c1
 have C2 := dH fun W (hb : Below w.heap.size w W) => implHolds_any sv u ds xs cop W (hd.below hb) (hu.below hb) had hax hld hlx c0 c1
 have C3 := dH fun (hm : nodesP ds cop ys) W (hb : Below w.heap.size w W) => dedL_nodes hm ▸ setOf_any v ys W (hv.below hb) hay hly
 have C4 := dH fun (hn : nodesP ds cop xs) W (hb : Below w.heap.size w W) => dedL_nodes hn ▸ setOf_any u xs W (hu.below hb) hax hlx
 have C5 := dH fun b c W hb hc => setWithin_any b c ys xs W hb hc
 have C6 := dH fun (hn : nodesP ds cop xs) (hm : nodesP ds cop ys) W (hb : Below w.heap.size w W) => implRest_yes sv u v ds xs ys cop W (hd.below hb) (hu.below hb) (hv.below hb) had hax hay hld hlx hly c0 c1 hn hm
 have C7 := dH fun W (hb : Below w.heap.size w W) o (ho : Ns W o (lessL xs ys)) => implHolds_any sv o ds (lessL xs ys) cop W (hd.below hb) ho had (allInt_less hax) hld (Nat.le_trans (lessL_len _ _) hlx) c0 c1
 clear had hax hay
 obtain ⟨h0, a, cap, rfl, -, -⟩ := hd
 obtain ⟨h0', a', cap', rfl, -, -⟩ := hu
 obtain ⟨h0'', a'', cap'', rfl, -, -⟩ := hv
 go_enter Tryz.func20, Tryz.ntmps20
 go_wp2_with fail
 have T0 := Two.new w (.slice a ds.length cap) (.int .i64 cop) 26
 refine (dU C1 _ (hb0 _)).mono ?_
 rintro e w1 ⟨hr, b1⟩
 have T1 := T0.kept b1
 have HT1 := dH T1
 obtain ⟨k0, k1⟩ := T1
 have B1 := bT (hb0 _) b1
 clear b1 hb0 C1 T0
 by_cases hm : nodesP ds cop ys
 ·obtain rfl := hr.of_yes hm
  have HM := dH hm
  clear hr hm
  go_wp2_with fail
  refine (dU C2 _ B1).mono ?_
  rintro e w2 ⟨hr, b2⟩
  have T2 := (dU HT1).kept b2
  have HT := dH T2
  have B2 := bT B1 b2
  clear b2 B1 C2 k0 k1 HT1
  by_cases hh : holdsP ds cop xs
  ·obtain rfl := hr.of_yes hh
   have HH := dH hh
   have CL := dH (dU C3 (dU HM))
   have CS := dH (dU C4 hh.1)
   have CR := dH (dU C6 hh.1 (dU HM))
   clear hr hh C3 C4 C6
   obtain ⟨k0, k1⟩ := T2
   go_wp2_with fail
   have hbr := Below.refl w2.heap.size w2
   by_cases hz : lessL ys xs = []
   ·have HIN := dH (lessL_nil.1 hz)
    have R : ∀ bb : Bool, (bb = true ↔ holdsP ds cop (lessL xs ys)) → RetB (enoughP ds cop xs ys) (.returned (.bool (!bb))) := fun bb hbb => by
     refine ⟨_, rfl, fun h => ⟨dU HH, dU HM, hz, ?_⟩, fun h => ?_⟩
     ·cases bb
      ·rcases Int.lt_or_le (spanN ds (lessL xs ys) : Int) cop with hlt | hge
       ·exact hlt
       ·exact absurd (hbb.2 ⟨nodesP_less (dU HH).1, hge⟩) (by simp)
      ·cases h
     ·cases bb
      ·rfl
      ·have := (hbb.1 rfl).2
       have := h.2.2.2
       omega
    have HR := dH R
    clear hz HH HM R
    go_region_held3 (fun W => W.cell? ⟨w.heap.size, 0, none⟩ = some (.slice a ds.length cap) ∧ W.cell? ⟨w.heap.size, 1, none⟩ = some (.int .i64 cop)) (go_keep)
     (first
      | (go_at_call 64; refine (dU CS _ (bT B2 hb4)).mono ?_; rintro e w5 ⟨rfl, s5, b5⟩; have hb5 := bT hb4 b5; have S4 := s4.below b5; obtain ⟨q0, q1⟩ := (dU HT).kept hb5)
      | (go_at_call 64; refine (dU CL _ (bT B2 hbr.drew)).mono ?_; rintro e w4 ⟨rfl, s4, b4⟩; have hb4 := bT hbr.drew b4; obtain ⟨q0, q1⟩ := (dU HT).kept hb4)
      | (go_at_call 65; refine (dU C5 _ _ _ S4 s5).mono ?_; rintro e w6 ⟨hr6, b6⟩; obtain rfl := hr6.of_yes (dU HIN); have hb6 := bT hb5 b6; obtain ⟨q0, q1⟩ := (dU HT).kept hb6)
      | (go_at_call 66; refine (dU CR _ (bT B2 hb6)).mono ?_; rintro e w7 ⟨⟨o7, rfl, r7⟩, b7⟩; have hb7 := bT hb6 b7; have n7 := dH r7.bs; obtain ⟨q0, q1⟩ := (dU HT).kept hb7)
      | (go_at_call 63; refine (dU C7 _ (bT B2 hb7) _ (dU n7)).mono ?_; rintro e w8 ⟨⟨bb, rfl, hbb⟩, b8⟩; have hb8 := bT hb7 b8; have R8 := dU HR bb hbb; clear hbb; obtain ⟨q0, q1⟩ := (dU HT).kept hb8))
    all_goals
     go_wp2
     go_ret
     exact ⟨R8, bT B2 hb8⟩
   ·have HIN : Hid (¬ ∀ x ∈ ys, x ∈ xs) := fun h => hz (lessL_nil.2 h)
    have R : RetB (enoughP ds cop xs ys) (.returned (.bool false)) := RetB.no fun h => hz h.2.2.1
    clear hz HH HM
    refine wp_region_noPanic ?_
    refine wp_region_held_drew (S := (fun W => W.cell? ⟨w.heap.size, 0, none⟩ = some (.slice a ds.length cap) ∧ W.cell? ⟨w.heap.size, 1, none⟩ = some (.int .i64 cop))) (by kernel_rfl) ?_ (fun hHeld => ?_)
    ·go_keep
    refine tY 0 (v := ?_) rfl (by kernel_rfl) (.inl ⟨by rfl, ?_⟩) ‹_› ?_
    rotate_left 1
    ·intro w hSw
     (try dsimp only at hSw)
     first | (go_simp; done) | (go_simp; with_reducible rfl)
    try simp only [Act.put, sA, sB, sC]
    refine tY 2 (v := ?_) rfl (by kernel_rfl) (.inl ⟨by rfl, ?_⟩) ‹_› ?_
    rotate_left 1
    ·intro w hSw
     (try dsimp only at hSw)
     first | (go_simp; done) | (go_simp; with_reducible rfl)
    try simp only [Act.put, sA, sB, sC]
    refine wpAnyH_ready (rs := [1]) (by kernel_rfl) (by simp) ?_
    refine rC rfl (fun K hK => ?_) AllReadyH.nil
    go_simp
    refine (dU CL _ (bT B2 hbr.drew)).mono ?_
    rintro e w4 ⟨rfl, s4, b4⟩
    have hb4 := bT hbr.drew b4
    obtain ⟨q0, q1⟩ := (dU HT).kept hb4
    (try go_wp2_with fail)
    refine hK.out _ _ ?_ (fun hHeld => ?_)
    ·go_keep
    clear hK K
    try simp only [Act.put, sA, sB, sC]
    refine wpAnyH_ready (rs := [3]) (by kernel_rfl) (by simp) ?_
    refine rC rfl (fun K hK => ?_) AllReadyH.nil
    go_simp
    refine (dU CS _ (bT B2 hb4)).mono ?_
    rintro e w5 ⟨rfl, s5, b5⟩
    have hb5 := bT hb4 b5
    have S4 := s4.below b5
    obtain ⟨q0, q1⟩ := (dU HT).kept hb5
    (try go_wp2_with fail)
    refine hK.out _ _ ?_ (fun hHeld => ?_)
    ·go_keep
    clear hK K
    try simp only [Act.put, sA, sB, sC]
    refine wpAnyH_ready (rs := [4]) (by kernel_rfl) (by simp) ?_
    refine rC rfl (fun K hK => ?_) AllReadyH.nil
    go_simp
    refine (dU C5 _ _ _ S4 s5).mono ?_
    rintro e w6 ⟨hr6, b6⟩
    obtain rfl := hr6.of_no (dU HIN)
    have hb6 := bT hb5 b6
    obtain ⟨q0, q1⟩ := (dU HT).kept hb6
    (try go_wp2_with fail)
    refine hK.out _ _ ?_ (fun hHeld => ?_)
    ·go_keep
    clear hK K
    try simp only [Act.put, sA, sB, sC]
    refine tY 5 (v := ?_) rfl (by kernel_rfl) (.inl ⟨by rfl, ?_⟩) ‹_› ?_
    rotate_left 1
    ·intro w hSw
     (try dsimp only at hSw)
     first | (go_simp; done) | (go_simp; with_reducible rfl)
    try simp only [Act.put, sA, sB, sC]
    refine tY 6 rfl (by kernel_rfl) (.inr ⟨by rfl, rfl⟩) ‹_› ?_
    try simp only [Act.put, sA, sB, sC]
    refine tY 7 rfl (by kernel_rfl) (.inr ⟨by rfl, rfl⟩) ‹_› ?_
    try simp only [Act.put, sA, sB, sC]
    refine tY 8 rfl (by kernel_rfl) (.inr ⟨by rfl, rfl⟩) ‹_› ?_
    try simp only [Act.put, sA, sB, sC]
    refine tY 9 rfl (by kernel_rfl) (.inr ⟨by rfl, rfl⟩) ‹_› ?_
    try simp only [Act.put, sA, sB, sC]
    refine tY 10 rfl (by kernel_rfl) (.inr ⟨by rfl, rfl⟩) ‹_› ?_
    try simp only [Act.put, sA, sB, sC]
    refine tY 11 rfl (by kernel_rfl) (.inr ⟨by rfl, rfl⟩) ‹_› ?_
    try simp only [Act.put, sA, sB, sC]
    refine tY 12 rfl (by kernel_rfl) (.inr ⟨by rfl, rfl⟩) ‹_› ?_
    try simp only [Act.put, sA, sB, sC]
    refine tY 13 (v := ?_) rfl (by kernel_rfl) (.inl ⟨by rfl, ?_⟩) ‹_› ?_
    rotate_left 1
    ·intro w hSw
     (try dsimp only at hSw)
     first | (go_simp; done) | (go_simp; with_reducible rfl)
    try simp only [Act.put, sA, sB, sC]
    refine tY 14 (v := ?_) rfl (by kernel_rfl) (.inl ⟨by rfl, ?_⟩) ‹_› ?_
    rotate_left 1
    ·intro w hSw
     (try dsimp only at hSw)
     first | (go_simp; done) | (go_simp; with_reducible rfl)
    try simp only [Act.put, sA, sB, sC]
    refine wpAnyH_done (by kernel_rfl) ?_ _
    refine NoPanic.normal ?_
    go_wp2
    go_ret
    exact ⟨R, bT B2 hb6⟩
  ·obtain rfl := hr.of_no hh
   have R : RetB (enoughP ds cop xs ys) (.returned (.bool false)) := RetB.no fun h => hh h.1
   clear hr hh
   go_wp2
   go_ret
   exact ⟨R, B2⟩
 ·obtain rfl := hr.of_no hm
  have R : RetB (enoughP ds cop xs ys) (.returned (.bool false)) := RetB.no fun h => hm h.2.1
  clear hr hm
  go_wp2
  go_ret
  exact ⟨R, B1⟩
end Go.Proofs.YtjkjmapibcfcdaaGreat
