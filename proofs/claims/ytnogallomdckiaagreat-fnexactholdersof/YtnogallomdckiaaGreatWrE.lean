/- impl's word: whether it is right. -/
import Derived.Test.YtnogallomdckiaaGreatGz16
import Derived.Test.YtnogallomdckiaaGreatGaT
import Derived.Test.YtnogallomdckiaaGreatGbO
import Derived.Test.YtnogallomdckiaaGreatGaG
import Derived.Deep.RegionHeld3
import Derived.Deep.DeepCutAuto
namespace Go.Proofs.YtnogallomdckiaaGreat
open Go.ChangeShapes Go.WideShapes Go.ChangeAt Go.RowKit
set_option linter.unusedVariables false
set_option linter.unusedSimpArgs false
set_option maxRecDepth 100000

set_option maxHeartbeats 8000000 in
theorem wordOk_any (p : Nst Wd) (sc : Value) (ds : List Int) (cop : Int) (w : World) (hc : Ns w sc ds) (hn : Ns w (Sv Wd.acks p) p.m.acks) (had : allInt ds) (hld : ds.length ≤ 1048576) (c0 : -9223372036854775808 ≤ cop) (c1 : cop ≤ 9223372036854775807) (hf : fitWd p.m) (hlx : p.m.acks.length ≤ 1048576) :
  Calls Tryz.prog 389 #[.agg #[.string p.m.data, .slice p.a p.m.acks.length p.c, .bool p.m.done], .agg #[sc, .int .i64 cop]] w fun e w' => RetB (wdP ds cop p.m) e ∧ Below w.heap.size w w' := by
 have CN := dH fun W (hb : Below w.heap.size w W) => implNodes_any sc (Sv Wd.acks p) ds p.m.acks cop W (hc.below hb) (hn.below hb) had hf.1 hld hlx c0 c1
 have CH := dH fun W (hb : Below w.heap.size w W) => implHolds_any sc (Sv Wd.acks p) ds p.m.acks cop W (hc.below hb) (hn.below hb) had hf.1 hld hlx c0 c1
 obtain ⟨ya, yc, yd, yn, yb⟩ := p
 obtain ⟨-, l0⟩ := hf
 unfold Sv at CN CH
 simp only at *
 have PD : Hid (wdP ds cop ⟨yd, yn, yb⟩ ↔ yd.size ≤ 40 ∧ nodesP ds cop yn ∧ (holdsP ds cop yn ↔ yb = true)) := Iff.rfl
 generalize wdP ds cop ⟨yd, yn, yb⟩ = P at *
 obtain ⟨-, ca, cc, rfl, -, -⟩ := hc
 clear hn
 have ba : ∀ (w : World) o, Below w.heap.size w (w.alloc o) := fun w o => (Below.refl _ _).alloc (Nat.le_refl _) o
 have B2 := bT (ba w (.cells #[.string yd, .slice ya yn.length yc, .bool yb] 254)) (ba _ (.cells #[.slice ca ds.length cc, .int .i64 cop] 26))
 have E2 := dH ((Bx.new w [.string yd, .slice ya yn.length yc, .bool yb] 254).below (ba _ (.cells #[.slice ca ds.length cc, .int .i64 cop] 26)))
 have X2 := Bx.new (w.alloc (.cells #[.string yd, .slice ya yn.length yc, .bool yb] 254)) [.slice ca ds.length cc, .int .i64 cop] 26
 have e1 : (w.alloc (.cells #[.string yd, .slice ya yn.length yc, .bool yb] 254)).heap.size = w.heap.size + 1 := by simp
 rw [e1] at X2
 replace X2 := dH X2
 clear e1
 go_enter Tryz.func389, Tryz.ntmps389
 go_wp2_with fail
 generalize (w.alloc (.cells #[.string yd, .slice ya yn.length yc, .bool yb] 254)).alloc (.cells #[.slice ca ds.length cc, .int .i64 cop] 26) = w2 at *
 have CNw := dH fun W (hB : Below w2.heap.size w2 W) => dU CN W (bT B2 hB)
 have CHw := dH fun W (hB : Below w2.heap.size w2 W) => dU CH W (bT B2 hB)
 clear CN CH
 generalize heb : w.heap.size = eb at *
 have B2' : Below w.heap.size w w2 := heb ▸ B2
 have bd : Below w2.heap.size w2 w2.drew := (Below.refl _ _).drew
 have PC : Hid (∀ W, Below w2.heap.size w2 W → W.cell? ⟨eb + 1, 0, none⟩ = some (.slice ca ds.length cc) ∧ W.cell? ⟨eb + 1, 1, none⟩ = some (.int .i64 cop) ∧ W.cell? ⟨eb, 0, none⟩ = some (.string yd) ∧ W.cell? ⟨eb, 1, none⟩ = some (.slice ya yn.length yc) ∧ W.cell? ⟨eb, 2, none⟩ = some (.bool yb)) := fun W hb => ⟨(dU X2).below hb 0 _ rfl, (dU X2).below hb 1 _ rfl, (dU E2).below hb 0 _ rfl, (dU E2).below hb 1 _ rfl, (dU E2).below hb 2 _ rfl⟩
 by_cases hd : ¬ (yd.size : Int) ≤ 40
 ·have R : RetB P (.returned (.bool false)) := RetB.no fun h => by have := ((dU PD).1 h).1; omega
  clear PD CNw CHw
  refine wp_region_noPanic ?_
  refine wp_region_held_drew (S := fun W => W.cell? ⟨eb + 1, 0, none⟩ = some (.slice ca ds.length cc) ∧ W.cell? ⟨eb + 1, 1, none⟩ = some (.int .i64 cop) ∧ W.cell? ⟨eb, 0, none⟩ = some (.string yd) ∧ W.cell? ⟨eb, 1, none⟩ = some (.slice ya yn.length yc) ∧ W.cell? ⟨eb, 2, none⟩ = some (.bool yb)) (by kernel_rfl) (by first | exact dU PC _ (Below.refl _ _) | exact dU PC _ bd | exact dU PC _ b3' | exact dU PC _ b4') (fun hHeld => ?_)
  refine tY 0 (v := ?_) rfl (by kernel_rfl) (.inl ⟨by rfl, ?_⟩) ‹_› ?_
  rotate_left 1
  ·intro w hSw
   (try dsimp only at hSw)
   first | (go_simp; done) | (go_simp; with_reducible rfl)
  try simp only [Act.put, sA, sB, sC]
  refine tY 1 (v := ?_) rfl (by kernel_rfl) (.inl ⟨by rfl, ?_⟩) ‹_› ?_
  rotate_left 1
  ·intro w hSw
   (try dsimp only at hSw)
   first | (go_simp; done) | (go_simp; with_reducible rfl)
  try simp only [Act.put, sA, sB, sC]
  refine tY 2 (v := ?_) rfl (by kernel_rfl) (.inl ⟨by rfl, ?_⟩) ‹_› ?_
  rotate_left 1
  ·intro w hSw
   (try dsimp only at hSw)
   first | (go_simp; done) | (go_simp; with_reducible rfl)
  try simp only [Act.put, sA, sB, sC]
  refine tY 3 (v := ?_) rfl (by kernel_rfl) (.inl ⟨by rfl, ?_⟩) ‹_› ?_
  rotate_left 1
  ·intro w hSw
   (try dsimp only at hSw)
   first | (go_simp; done) | (go_simp; with_reducible rfl)
  try simp only [Act.put, sA, sB, sC]
  refine tY 4 (v := ?_) rfl (by kernel_rfl) (.inl ⟨by rfl, ?_⟩) ‹_› ?_
  rotate_left 1
  ·intro w hSw
   (try dsimp only at hSw)
   first | (go_simp; done) | (go_simp; with_reducible rfl)
  try simp only [Act.put, sA, sB, sC]
  refine tY 5 rfl (by kernel_rfl) (.inr ⟨by rfl, rfl⟩) ‹_› ?_
  try simp only [Act.put, sA, sB, sC]
  refine tY 6 rfl (by kernel_rfl) (.inr ⟨by rfl, rfl⟩) ‹_› ?_
  try simp only [Act.put, sA, sB, sC]
  refine tY 7 rfl (by kernel_rfl) (.inr ⟨by rfl, rfl⟩) ‹_› ?_
  try simp only [Act.put, sA, sB, sC]
  refine tY 8 rfl (by kernel_rfl) (.inr ⟨by rfl, rfl⟩) ‹_› ?_
  try simp only [Act.put, sA, sB, sC]
  refine tY 9 (v := ?_) rfl (by kernel_rfl) (.inl ⟨by rfl, ?_⟩) ‹_› ?_
  rotate_left 1
  ·intro w hSw
   (try dsimp only at hSw)
   first | (go_simp; done) | (go_simp; with_reducible rfl)
  try simp only [Act.put, sA, sB, sC]
  refine tY 10 (v := ?_) rfl (by kernel_rfl) (.inl ⟨by rfl, ?_⟩) ‹_› ?_
  rotate_left 1
  ·intro w hSw
   (try dsimp only at hSw)
   first | (go_simp; done) | (go_simp; with_reducible rfl)
  try simp only [Act.put, sA, sB, sC]
  refine tY 11 rfl (by kernel_rfl) (.inr ⟨by rfl, rfl⟩) ‹_› ?_
  try simp only [Act.put, sA, sB, sC]
  refine tY 12 rfl (by kernel_rfl) (.inr ⟨by rfl, rfl⟩) ‹_› ?_
  try simp only [Act.put, sA, sB, sC]
  refine tY 13 rfl (by kernel_rfl) (.inr ⟨by rfl, rfl⟩) ‹_› ?_
  try simp only [Act.put, sA, sB, sC]
  refine tY 14 rfl (by kernel_rfl) (.inr ⟨by rfl, rfl⟩) ‹_› ?_
  try simp only [Act.put, sA, sB, sC]
  refine tY 15 rfl (by kernel_rfl) (.inr ⟨by rfl, rfl⟩) ‹_› ?_
  try simp only [Act.put, sA, sB, sC]
  refine tY 16 rfl (by kernel_rfl) (.inr ⟨by rfl, rfl⟩) ‹_› ?_
  try simp only [Act.put, sA, sB, sC]
  refine tY 17 rfl (by kernel_rfl) (.inr ⟨by rfl, rfl⟩) ‹_› ?_
  try simp only [Act.put, sA, sB, sC]
  refine tY 18 (v := ?_) rfl (by kernel_rfl) (.inl ⟨by rfl, ?_⟩) ‹_› ?_
  rotate_left 1
  ·intro w hSw
   (try dsimp only at hSw)
   first | (go_simp; done) | (go_simp; with_reducible rfl)
  try simp only [Act.put, sA, sB, sC]
  refine tY 19 (v := ?_) rfl (by kernel_rfl) (.inl ⟨by rfl, ?_⟩) ‹_› ?_
  rotate_left 1
  ·intro w hSw
   (try dsimp only at hSw)
   first | (go_simp; done) | (go_simp; with_reducible rfl)
  try simp only [Act.put, sA, sB, sC]
  refine wpAnyH_done (by kernel_rfl) ?_ _
  refine NoPanic.normal ?_
  (try simp only [Act.put, sA, sB, sC])
  go_wp2
  go_ret
  exact ⟨R, heb ▸ bT B2' bd⟩
 replace hd : (yd.size : Int) ≤ 40 := by omega
 by_cases hN : nodesP ds cop yn
 ·have CN1 := dH fun W hB => retB_yes (dU CNw W hB) hN
  have HN := dH hN
  clear CNw hN
  refine wp_region_noPanic ?_
  refine wp_region_held_drew (S := fun W => W.cell? ⟨eb + 1, 0, none⟩ = some (.slice ca ds.length cc) ∧ W.cell? ⟨eb + 1, 1, none⟩ = some (.int .i64 cop) ∧ W.cell? ⟨eb, 0, none⟩ = some (.string yd) ∧ W.cell? ⟨eb, 1, none⟩ = some (.slice ya yn.length yc) ∧ W.cell? ⟨eb, 2, none⟩ = some (.bool yb)) (by kernel_rfl) (by first | exact dU PC _ (Below.refl _ _) | exact dU PC _ bd | exact dU PC _ b3' | exact dU PC _ b4') (fun hHeld => ?_)
  refine tY 0 (v := ?_) rfl (by kernel_rfl) (.inl ⟨by rfl, ?_⟩) ‹_› ?_
  rotate_left 1
  ·intro w hSw
   (try dsimp only at hSw)
   first | (go_simp; done) | (go_simp; with_reducible rfl)
  try simp only [Act.put, sA, sB, sC]
  refine tY 1 (v := ?_) rfl (by kernel_rfl) (.inl ⟨by rfl, ?_⟩) ‹_› ?_
  rotate_left 1
  ·intro w hSw
   (try dsimp only at hSw)
   first | (go_simp; done) | (go_simp; with_reducible rfl)
  try simp only [Act.put, sA, sB, sC]
  refine tY 2 (v := ?_) rfl (by kernel_rfl) (.inl ⟨by rfl, ?_⟩) ‹_› ?_
  rotate_left 1
  ·intro w hSw
   (try dsimp only at hSw)
   first | (go_simp; done) | (go_simp; with_reducible rfl)
  try simp only [Act.put, sA, sB, sC]
  refine tY 3 (v := ?_) rfl (by kernel_rfl) (.inl ⟨by rfl, ?_⟩) ‹_› ?_
  rotate_left 1
  ·intro w hSw
   (try dsimp only at hSw)
   first | (go_simp; done) | (go_simp; with_reducible rfl)
  try simp only [Act.put, sA, sB, sC]
  refine tY 4 (v := ?_) rfl (by kernel_rfl) (.inl ⟨by rfl, ?_⟩) ‹_› ?_
  rotate_left 1
  ·intro w hSw
   (try dsimp only at hSw)
   first | (go_simp; done) | (go_simp; with_reducible rfl)
  try simp only [Act.put, sA, sB, sC]
  refine tY 5 (v := ?_) rfl (by kernel_rfl) (.inl ⟨by rfl, ?_⟩) ‹_› ?_
  rotate_left 1
  ·intro w hSw
   (try dsimp only at hSw)
   first | (go_simp; done) | (go_simp; with_reducible rfl)
  try simp only [Act.put, sA, sB, sC]
  refine tY 6 (v := ?_) rfl (by kernel_rfl) (.inl ⟨by rfl, ?_⟩) ‹_› ?_
  rotate_left 1
  ·intro w hSw
   (try dsimp only at hSw)
   first | (go_simp; done) | (go_simp; with_reducible rfl)
  try simp only [Act.put, sA, sB, sC]
  refine tY 7 (v := ?_) rfl (by kernel_rfl) (.inl ⟨by rfl, ?_⟩) ‹_› ?_
  rotate_left 1
  ·intro w hSw
   (try dsimp only at hSw)
   first | (go_simp; done) | (go_simp; with_reducible rfl)
  try simp only [Act.put, sA, sB, sC]
  refine wpAnyH_ready (rs := [8]) (by kernel_rfl) (by simp) ?_
  refine rC rfl (fun K hK => ?_) AllReadyH.nil
  go_simp
  refine (dU CN1 _ bd).mono ?_
  rintro e w3 ⟨rfl, b3⟩
  have b3' := bT bd b3
  (try go_wp2_with fail)
  refine hK.out _ _ (by first | exact dU PC _ (Below.refl _ _) | exact dU PC _ bd | exact dU PC _ b3' | exact dU PC _ b4') (fun hHeld => ?_)
  clear hK K
  try simp only [Act.put, sA, sB, sC]
  refine tY 9 (v := ?_) rfl (by kernel_rfl) (.inl ⟨by rfl, ?_⟩) ‹_› ?_
  rotate_left 1
  ·intro w hSw
   (try dsimp only at hSw)
   first | (go_simp; done) | (go_simp; with_reducible rfl)
  try simp only [Act.put, sA, sB, sC]
  refine tY 10 (v := ?_) rfl (by kernel_rfl) (.inl ⟨by rfl, ?_⟩) ‹_› ?_
  rotate_left 1
  ·intro w hSw
   (try dsimp only at hSw)
   first | (go_simp; done) | (go_simp; with_reducible rfl)
  try simp only [Act.put, sA, sB, sC]
  refine tY 11 (v := ?_) rfl (by kernel_rfl) (.inl ⟨by rfl, ?_⟩) ‹_› ?_
  rotate_left 1
  ·intro w hSw
   (try dsimp only at hSw)
   first | (go_simp; done) | (go_simp; with_reducible rfl)
  try simp only [Act.put, sA, sB, sC]
  refine tY 12 (v := ?_) rfl (by kernel_rfl) (.inl ⟨by rfl, ?_⟩) ‹_› ?_
  rotate_left 1
  ·intro w hSw
   (try dsimp only at hSw)
   first | (go_simp; done) | (go_simp; with_reducible rfl)
  try simp only [Act.put, sA, sB, sC]
  refine tY 13 (v := ?_) rfl (by kernel_rfl) (.inl ⟨by rfl, ?_⟩) ‹_› ?_
  rotate_left 1
  ·intro w hSw
   (try dsimp only at hSw)
   first | (go_simp; done) | (go_simp; with_reducible rfl)
  try simp only [Act.put, sA, sB, sC]
  refine tY 15 (v := ?_) rfl (by kernel_rfl) (.inl ⟨by rfl, ?_⟩) ‹_› ?_
  rotate_left 1
  ·intro w hSw
   (try dsimp only at hSw)
   first | (go_simp; done) | (go_simp; with_reducible rfl)
  try simp only [Act.put, sA, sB, sC]
  refine tY 16 (v := ?_) rfl (by kernel_rfl) (.inl ⟨by rfl, ?_⟩) ‹_› ?_
  rotate_left 1
  ·intro w hSw
   (try dsimp only at hSw)
   first | (go_simp; done) | (go_simp; with_reducible rfl)
  try simp only [Act.put, sA, sB, sC]
  refine wpAnyH_ready (rs := [14]) (by kernel_rfl) (by simp) ?_
  refine rC rfl (fun K hK => ?_) AllReadyH.nil
  go_simp
  refine (dU CHw _ b3').mono ?_
  rintro e w4 ⟨⟨bq, rfl, h4⟩, b4⟩
  have b4' := bT b3' b4
  (try go_wp2_with fail)
  refine hK.out _ _ (by first | exact dU PC _ (Below.refl _ _) | exact dU PC _ bd | exact dU PC _ b3' | exact dU PC _ b4') (fun hHeld => ?_)
  clear hK K
  try simp only [Act.put, sA, sB, sC]
  refine tY 17 (v := ?_) rfl (by kernel_rfl) (.inl ⟨by rfl, ?_⟩) ‹_› ?_
  rotate_left 1
  ·intro w hSw
   (try dsimp only at hSw)
   first | (go_simp; done) | (go_simp; with_reducible rfl)
  try simp only [Act.put, sA, sB, sC]
  refine tY 18 (v := ?_) rfl (by kernel_rfl) (.inl ⟨by rfl, ?_⟩) ‹_› ?_
  rotate_left 1
  ·intro w hSw
   (try dsimp only at hSw)
   first | (go_simp; done) | (go_simp; with_reducible rfl)
  try simp only [Act.put, sA, sB, sC]
  refine tY 19 (v := ?_) rfl (by kernel_rfl) (.inl ⟨by rfl, ?_⟩) ‹_› ?_
  rotate_left 1
  ·intro w hSw
   (try dsimp only at hSw)
   first | (go_simp; done) | (go_simp; with_reducible rfl)
  try simp only [Act.put, sA, sB, sC]
  refine wpAnyH_done (by kernel_rfl) ?_ _
  refine NoPanic.normal ?_
  (try simp only [Act.put, sA, sB, sC])
  have R : Hid (RetB P (.returned (.bool (bq == yb)))) := ⟨_, rfl, by
   rw [dU PD, beq_iff_eq]
   constructor
   ·intro h
    subst h
    exact ⟨by omega, dU HN, h4.symm⟩
   ·rintro ⟨-, -, h⟩
    rw [← h4] at h
    cases bq <;> cases yb <;> simp at h ⊢⟩
  have B4 := dH (bT B2' b4')
  clear PD h4 X2 E2 PC
  go_wp2
  go_ret
  exact ⟨dU R, dU B4⟩
 ·have CN1 := dH fun W hB => retB_no (dU CNw W hB) hN
  have R : RetB P (.returned (.bool false)) := RetB.no fun h => hN ((dU PD).1 h).2.1
  clear PD CNw CHw
  refine wp_region_noPanic ?_
  refine wp_region_held_drew (S := fun W => W.cell? ⟨eb + 1, 0, none⟩ = some (.slice ca ds.length cc) ∧ W.cell? ⟨eb + 1, 1, none⟩ = some (.int .i64 cop) ∧ W.cell? ⟨eb, 0, none⟩ = some (.string yd) ∧ W.cell? ⟨eb, 1, none⟩ = some (.slice ya yn.length yc) ∧ W.cell? ⟨eb, 2, none⟩ = some (.bool yb)) (by kernel_rfl) (by first | exact dU PC _ (Below.refl _ _) | exact dU PC _ bd | exact dU PC _ b3' | exact dU PC _ b4') (fun hHeld => ?_)
  refine tY 0 (v := ?_) rfl (by kernel_rfl) (.inl ⟨by rfl, ?_⟩) ‹_› ?_
  rotate_left 1
  ·intro w hSw
   (try dsimp only at hSw)
   first | (go_simp; done) | (go_simp; with_reducible rfl)
  try simp only [Act.put, sA, sB, sC]
  refine tY 1 (v := ?_) rfl (by kernel_rfl) (.inl ⟨by rfl, ?_⟩) ‹_› ?_
  rotate_left 1
  ·intro w hSw
   (try dsimp only at hSw)
   first | (go_simp; done) | (go_simp; with_reducible rfl)
  try simp only [Act.put, sA, sB, sC]
  refine tY 2 (v := ?_) rfl (by kernel_rfl) (.inl ⟨by rfl, ?_⟩) ‹_› ?_
  rotate_left 1
  ·intro w hSw
   (try dsimp only at hSw)
   first | (go_simp; done) | (go_simp; with_reducible rfl)
  try simp only [Act.put, sA, sB, sC]
  refine tY 3 (v := ?_) rfl (by kernel_rfl) (.inl ⟨by rfl, ?_⟩) ‹_› ?_
  rotate_left 1
  ·intro w hSw
   (try dsimp only at hSw)
   first | (go_simp; done) | (go_simp; with_reducible rfl)
  try simp only [Act.put, sA, sB, sC]
  refine tY 4 (v := ?_) rfl (by kernel_rfl) (.inl ⟨by rfl, ?_⟩) ‹_› ?_
  rotate_left 1
  ·intro w hSw
   (try dsimp only at hSw)
   first | (go_simp; done) | (go_simp; with_reducible rfl)
  try simp only [Act.put, sA, sB, sC]
  refine tY 5 (v := ?_) rfl (by kernel_rfl) (.inl ⟨by rfl, ?_⟩) ‹_› ?_
  rotate_left 1
  ·intro w hSw
   (try dsimp only at hSw)
   first | (go_simp; done) | (go_simp; with_reducible rfl)
  try simp only [Act.put, sA, sB, sC]
  refine tY 6 (v := ?_) rfl (by kernel_rfl) (.inl ⟨by rfl, ?_⟩) ‹_› ?_
  rotate_left 1
  ·intro w hSw
   (try dsimp only at hSw)
   first | (go_simp; done) | (go_simp; with_reducible rfl)
  try simp only [Act.put, sA, sB, sC]
  refine tY 7 (v := ?_) rfl (by kernel_rfl) (.inl ⟨by rfl, ?_⟩) ‹_› ?_
  rotate_left 1
  ·intro w hSw
   (try dsimp only at hSw)
   first | (go_simp; done) | (go_simp; with_reducible rfl)
  try simp only [Act.put, sA, sB, sC]
  refine wpAnyH_ready (rs := [8]) (by kernel_rfl) (by simp) ?_
  refine rC rfl (fun K hK => ?_) AllReadyH.nil
  go_simp
  refine (dU CN1 _ bd).mono ?_
  rintro e w3 ⟨rfl, b3⟩
  have b3' := bT bd b3
  (try go_wp2_with fail)
  refine hK.out _ _ (by first | exact dU PC _ (Below.refl _ _) | exact dU PC _ bd | exact dU PC _ b3' | exact dU PC _ b4') (fun hHeld => ?_)
  clear hK K
  try simp only [Act.put, sA, sB, sC]
  refine tY 9 (v := ?_) rfl (by kernel_rfl) (.inl ⟨by rfl, ?_⟩) ‹_› ?_
  rotate_left 1
  ·intro w hSw
   (try dsimp only at hSw)
   first | (go_simp; done) | (go_simp; with_reducible rfl)
  try simp only [Act.put, sA, sB, sC]
  refine tY 10 (v := ?_) rfl (by kernel_rfl) (.inl ⟨by rfl, ?_⟩) ‹_› ?_
  rotate_left 1
  ·intro w hSw
   (try dsimp only at hSw)
   first | (go_simp; done) | (go_simp; with_reducible rfl)
  try simp only [Act.put, sA, sB, sC]
  refine tY 11 rfl (by kernel_rfl) (.inr ⟨by rfl, rfl⟩) ‹_› ?_
  try simp only [Act.put, sA, sB, sC]
  refine tY 12 rfl (by kernel_rfl) (.inr ⟨by rfl, rfl⟩) ‹_› ?_
  try simp only [Act.put, sA, sB, sC]
  refine tY 13 rfl (by kernel_rfl) (.inr ⟨by rfl, rfl⟩) ‹_› ?_
  try simp only [Act.put, sA, sB, sC]
  refine tY 14 rfl (by kernel_rfl) (.inr ⟨by rfl, rfl⟩) ‹_› ?_
  try simp only [Act.put, sA, sB, sC]
  refine tY 15 rfl (by kernel_rfl) (.inr ⟨by rfl, rfl⟩) ‹_› ?_
  try simp only [Act.put, sA, sB, sC]
  refine tY 16 rfl (by kernel_rfl) (.inr ⟨by rfl, rfl⟩) ‹_› ?_
  try simp only [Act.put, sA, sB, sC]
  refine tY 17 rfl (by kernel_rfl) (.inr ⟨by rfl, rfl⟩) ‹_› ?_
  try simp only [Act.put, sA, sB, sC]
  refine tY 18 (v := ?_) rfl (by kernel_rfl) (.inl ⟨by rfl, ?_⟩) ‹_› ?_
  rotate_left 1
  ·intro w hSw
   (try dsimp only at hSw)
   first | (go_simp; done) | (go_simp; with_reducible rfl)
  try simp only [Act.put, sA, sB, sC]
  refine tY 19 (v := ?_) rfl (by kernel_rfl) (.inl ⟨by rfl, ?_⟩) ‹_› ?_
  rotate_left 1
  ·intro w hSw
   (try dsimp only at hSw)
   first | (go_simp; done) | (go_simp; with_reducible rfl)
  try simp only [Act.put, sA, sB, sC]
  refine wpAnyH_done (by kernel_rfl) ?_ _
  refine NoPanic.normal ?_
  (try simp only [Act.put, sA, sB, sC])
  go_wp2
  go_ret
  exact ⟨R, heb ▸ bT B2' b3'⟩
end Go.Proofs.YtnogallomdckiaaGreat
