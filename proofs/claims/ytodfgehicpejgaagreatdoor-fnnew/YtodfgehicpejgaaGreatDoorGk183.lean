/- Several texts in one: WrD, WrE, DeC. -/
import Derived.Test.YtodfgehicpejgaaGreatDoorGk149
import Derived.Test.YtodfgehicpejgaaGreatDoorGk181
import Derived.Lib.SliceRun
import Derived.Test.YtodfgehicpejgaaGreatDoorGk164
import Derived.Test.YtodfgehicpejgaaGreatDoorGk178
import Derived.Deep.RegionHeld3
import Derived.Deep.DeepCutAuto
import Derived.Test.YtodfgehicpejgaaGreatDoorGk162
namespace Go.Proofs.YtodfgehicpejgaaGreatDoor
open Go.ChangeShapes Go.WideShapes Go.ChangeAt Go.RowKit
set_option linter.unusedSimpArgs false
set_option linter.unusedVariables false
set_option maxRecDepth 100000
def opCl (p : Addr) : List Value := [.pointer (some p)]
theorem elemO : Elem (α := Addr) 295 285 (.agg #[.pointer none]) 1 8 opCl where
  under := Tryz.underlying285
  info := by kernel_rfl
  zcells := by kernel_rfl
  pos := by decide
  len := fun _ => rfl
  one := fun a u hu => by
    simp only [opCl, List.mem_cons, List.not_mem_nil, or_false] at hu
    subst hu
    rfl
theorem rwO_one (w : World) (p : Addr) (T : TypeId) (c : Nat) (hc : 1 ≤ c ∧ c ≤ 9223372036854775807) : Rw 1 opCl (w.alloc (.cells #[.pointer (some p)] T)) (.slice (some ⟨w.heap.size, 0, none⟩) 1 c) [p] := by
  refine ⟨by simp, _, _, rfl, by simpa using hc, .inr ⟨w.heap.size, 0, rfl, fun i hi j u hu => ?_⟩⟩
  obtain rfl : i = 0 := by simp at hi; omega
  simp only [List.getElem_cons_zero, opCl] at hu
  simpa using hu
def opI (ms : List Wd) (k : Nat) : List Nat := (List.range k).filter fun i => !(ms.getD i ⟨⟨#[]⟩, [], true⟩).done
theorem opI_step (ms : List Wd) (k : Nat) (h : k < ms.length) : opI ms (k + 1) = opI ms k ++ (if ms[k].done then [] else [k]) := by
  unfold opI
  rw [List.range_succ, List.filter_append]
  congr 1
  rw [List.filter_cons, getD_lt _ h]
  cases ms[k].done <;> simp
theorem opI_len (ms : List Wd) : ∀ k, k ≤ ms.length → (opI ms k).length = openN (ms.take k)
  | 0, _ => by simp [opI, openN]
  | k + 1, h => by
    rw [opI_step ms k (by omega), openN_step ms k (by omega), List.length_append, opI_len ms k (by omega)]
    cases ms[k].done <;> simp
theorem opI_le (ms : List Wd) (k : Nat) : (opI ms k).length ≤ k := by
  unfold opI
  have := List.length_filter_le (fun i => !(ms.getD i ⟨⟨#[]⟩, [], true⟩).done) (List.range k)
  simpa using this
def adW (b off : Nat) (i : Nat) : Addr := ⟨b, off + i * 3, none⟩
set_option maxHeartbeats 4000000 in
theorem winOpen_any (b o bb off cap : Nat) (a : Option Addr) (rs : List (Nst Wd)) (w : World) (hc : w.cell? ⟨b, o + 2, none⟩ = some (.slice a rs.length cap)) (hr : Rw 3 wdCl w (.slice a rs.length cap) rs) (ha : rs = [] ∨ a = some ⟨bb, off, none⟩) (hl : rs.length ≤ 1048576) :
    Calls Tryz.prog 260 #[.pointer (some ⟨b, o, none⟩)] w fun e w' => (∃ u, e = .returned u ∧ ApR 295 1 opCl w' w.heap.size u ((opI (rs.map Nst.m) rs.length).map (adW bb off))) ∧ Below w.heap.size w w' := by
  have ba : ∀ (w : World) o, Below w.heap.size w (w.alloc o) := fun w o => (Below.refl _ _).alloc (Nat.le_refl _) o
  have HC := dH fun W (hb : Below w.heap.size w W) => (hb.cell (p := ⟨b, o + 2, none⟩) (dCell_lt hc)).trans hc
  have HR := dH fun W (hb : Below w.heap.size w W) => hr.below hb
  have HA := dH ha
  have t1 := taOpen_done
  have t2 := taOpen_yes
  clear ha hr
  go_enter Tryz.func260, Tryz.ntmps260
  go_wp2
  go_loopw [3, 12] (fun u x wr => ∃ (k : Nat) (oa : Option Addr) (oc : Nat), x = .int .i64 (k : Int) ∧ u = .slice oa (opI (rs.map Nst.m) k).length oc ∧ k ≤ rs.length ∧ Hid (ApR 295 1 opCl wr w.heap.size (.slice oa (opI (rs.map Nst.m) k).length oc) ((opI (rs.map Nst.m) k).map (adW bb off))) ∧ Below w.heap.size w wr) (fun _ x _ => rs.length - (intOf x).toNat)
  case atStart => exact ⟨0, none, 0, rfl, rfl, Nat.zero_le _, .inl ⟨rfl, none, rfl⟩, Below.refl _ _⟩
  case round =>
    obtain ⟨k, oa, oc, rfl, rfl, hk, hA, hb⟩ := hrel
    by_cases hlt : (k : Int) < (rs.length : Int)
    · have hkl : k < rs.length := by omega
      have hne : ¬ rs = [] := fun e => by rw [e] at hkl; simp at hkl
      have ea := (dU HA).resolve_left hne
      subst ea
      obtain ⟨b', off', e', he⟩ := (dU HR wr hb).word hkl
      cases e'
      have c2 := (he k hkl).2.2
      have hcw := dU HC wr hb
      have hst := opI_step (rs.map Nst.m) k (by simpa using hkl)
      rw [List.getElem_map] at hst
      have hol := opI_le (rs.map Nst.m) k
      cases hd : rs[k].m.done with
      | true =>
        rw [hd] at c2 hst
        simp only [if_true, List.append_nil] at hst
        have C1 := dH (winAt_done b o bb off rs.length cap k wr hcw hkl (by omega) c2)
        have A2 := hA
        have EL := dH hst
        clear c2 he hcw hst hd hA
        go_wp2_with fail
        refine (dU C1).mono ?_
        rintro e w1 ⟨rfl, rfl⟩
        clear C1
        go_wp2
        go_roundw
        case rel => exact ⟨k + 1, oa, oc, by go_num, by rw [dU EL], by omega, (by rw [dU EL]; exact (dU A2).below (ba _ _)), bT hb (ba _ _)⟩
        case measure => simp [intOf]; omega
      | false =>
        rw [hd] at c2 hst
        have C1 := dH (winAt_open b o bb off rs.length cap k wr hcw hkl (by omega) c2)
        have EL : Hid (opI (rs.map Nst.m) (k + 1) = opI (rs.map Nst.m) k ++ [k]) := by rw [Hid, hst]; rfl
        have bA := ba wr (.cells #[.pointer (some ⟨bb, off + k * 3, none⟩)] 295)
        have bB := ba (wr.alloc (.cells #[.pointer (some ⟨bb, off + k * 3, none⟩)] 295)) (.cells #[.pointer (some ⟨bb, off + k * 3, none⟩)] 295)
        have A2 := dH (((dU hA).below bA).below bB)
        have RO := rwO_one (wr.alloc (.cells #[.pointer (some ⟨bb, off + k * 3, none⟩)] 295)) ⟨bb, off + k * 3, none⟩ 295 1 (by omega)
        rw [show (wr.alloc (.cells #[.pointer (some ⟨bb, off + k * 3, none⟩)] 295)).heap.size = wr.heap.size + 1 from by simp] at RO
        replace RO := dH RO
        have tv : Hid (∀ j, touch (.slice oa (opI (rs.map Nst.m) k).length oc) = some j → w.heap.size ≤ j) := fun j hj => ((dU hA).touched elemO hj).1
        have B2 := dH (bT hb (bT bA bB))
        have hs2 := hb.size
        clear c2 he hcw hst hd hA bA bB
        go_wp2_with fail
        refine (dU C1).mono ?_
        rintro e w1 ⟨rfl, rfl⟩
        clear C1
        go_wp2_with (first
          | (at_builtin; refine wp_apR elemO rfl _ _ rfl w.heap.size _ ((opI (rs.map Nst.m) k).map (adW bb off)) rfl (dU A2) _ [⟨bb, off + k * 3, none⟩] rfl (dU RO) (by simp; omega) (by simp; omega) (by simp; omega) ?_; intro v5 w5 P5 g5 t5
             obtain ⟨a5, c5, e5⟩ : ∃ a c, v5 = .slice a (opI (rs.map Nst.m) (k + 1)).length c := by
               obtain ⟨a, c, e⟩ := ApR.slice elemO P5
               exact ⟨a, c, by rw [e, dU EL]; simp⟩
             subst e5
             have P6 : Hid (ApR 295 1 opCl w5 w.heap.size (.slice a5 (opI (rs.map Nst.m) (k + 1)).length c5) ((opI (rs.map Nst.m) (k + 1)).map (adW bb off))) := by
               have q := P5
               have e9 : (opI (rs.map Nst.m) (k + 1)).map (adW bb off) = (opI (rs.map Nst.m) k).map (adW bb off) ++ [⟨bb, off + k * 3, none⟩] := by rw [dU EL, List.map_append]; rfl
               rw [Hid, e9]; exact q
             have B5 := dH ((dU B2).grown g5 (by simp; omega) (fun j hj => dU tv j hj))
             clear P5))
        go_roundw
        case rel => exact ⟨k + 1, a5, c5, by go_num, rfl, by omega, P6, dU B5⟩
        case measure => simp [intOf]; omega
    · have ek : k = rs.length := by omega
      subst ek
      clear HC HR HA
      go_wp2
      go_ret
      exact ⟨⟨_, rfl, dU hA⟩, hb⟩
set_option maxHeartbeats 8000000 in
theorem wordOk_any (p : Nst Wd) (sc : Value) (ds : List Int) (cop : Int) (w : World) (hc : Ns w sc ds) (hn : Ns w (Sv Wd.acks p) p.m.acks) (had : allInt ds) (hld : ds.length ≤ 1048576) (c0 : -9223372036854775808 ≤ cop) (c1 : cop ≤ 9223372036854775807) (hf : fitWd p.m) (hlx : p.m.acks.length ≤ 1048576) :
  Calls Tryz.prog 287 #[.agg #[.string p.m.data, .slice p.a p.m.acks.length p.c, .bool p.m.done], .agg #[sc, .int .i64 cop]] w fun e w' => RetB (wdP ds cop p.m) e ∧ Below w.heap.size w w' := by
 have CN := dH fun W (hb : Below w.heap.size w W) => implNodes_any sc (Sv Wd.acks p) ds p.m.acks cop W (hc.below hb) (hn.below hb) had hf.1 hld hlx c0 c1
 have CH := dH fun W (hb : Below w.heap.size w W) => implHolds_any sc (Sv Wd.acks p) ds p.m.acks cop W (hc.below hb) (hn.below hb) had hf.1 hld hlx c0 c1
 obtain ⟨ya, yc, yd, yn, yb⟩ := p
 obtain ⟨-, l0⟩ := hf
 unfold Sv at CN CH
 simp only at *
 have PD : Hid (wdP ds cop ⟨yd, yn, yb⟩ ↔ yd.size ≤ 40 ∧ nodesP ds cop yn ∧ (holdsP ds cop yn ↔ yb = true)) := Iff.rfl
 generalize wdP ds cop ⟨yd, yn, yb⟩ = P at *
 obtain ⟨-, ca, cc, rfl, -, -⟩ := hc
 clear hn
 have ba : ∀ (w : World) o, Below w.heap.size w (w.alloc o) := fun w o => (Below.refl _ _).alloc (Nat.le_refl _) o
 have B2 := bT (ba w (.cells #[.string yd, .slice ya yn.length yc, .bool yb] 140)) (ba _ (.cells #[.slice ca ds.length cc, .int .i64 cop] 26))
 have E2 := dH ((Bx.new w [.string yd, .slice ya yn.length yc, .bool yb] 140).below (ba _ (.cells #[.slice ca ds.length cc, .int .i64 cop] 26)))
 have X2 := Bx.new (w.alloc (.cells #[.string yd, .slice ya yn.length yc, .bool yb] 140)) [.slice ca ds.length cc, .int .i64 cop] 26
 have e1 : (w.alloc (.cells #[.string yd, .slice ya yn.length yc, .bool yb] 140)).heap.size = w.heap.size + 1 := by simp
 rw [e1] at X2
 replace X2 := dH X2
 clear e1
 go_enter Tryz.func287, Tryz.ntmps287
 go_wp2_with fail
 generalize (w.alloc (.cells #[.string yd, .slice ya yn.length yc, .bool yb] 140)).alloc (.cells #[.slice ca ds.length cc, .int .i64 cop] 26) = w2 at *
 have CNw := dH fun W (hB : Below w2.heap.size w2 W) => dU CN W (bT B2 hB)
 have CHw := dH fun W (hB : Below w2.heap.size w2 W) => dU CH W (bT B2 hB)
 clear CN CH
 generalize heb : w.heap.size = eb at *
 have B2' : Below w.heap.size w w2 := heb ▸ B2
 have bd : Below w2.heap.size w2 w2.drew := (Below.refl _ _).drew
 have PC : Hid (∀ W, Below w2.heap.size w2 W → W.cell? ⟨eb + 1, 0, none⟩ = some (.slice ca ds.length cc) ∧ W.cell? ⟨eb + 1, 1, none⟩ = some (.int .i64 cop) ∧ W.cell? ⟨eb, 0, none⟩ = some (.string yd) ∧ W.cell? ⟨eb, 1, none⟩ = some (.slice ya yn.length yc) ∧ W.cell? ⟨eb, 2, none⟩ = some (.bool yb)) := fun W hb => ⟨(dU X2).below hb 0 _ rfl, (dU X2).below hb 1 _ rfl, (dU E2).below hb 0 _ rfl, (dU E2).below hb 1 _ rfl, (dU E2).below hb 2 _ rfl⟩
 by_cases hd : ¬ (yd.size : Int) ≤ 40
 ·have R : RetB P (.returned (.bool false)) := RetB.no fun h => by have := ((dU PD).1 h).1; omega
  clear PD CNw CHw
  refine wp_region_noPanic ?_
  refine wp_region_held_drew (S := fun W => W.cell? ⟨eb + 1, 0, none⟩ = some (.slice ca ds.length cc) ∧ W.cell? ⟨eb + 1, 1, none⟩ = some (.int .i64 cop) ∧ W.cell? ⟨eb, 0, none⟩ = some (.string yd) ∧ W.cell? ⟨eb, 1, none⟩ = some (.slice ya yn.length yc) ∧ W.cell? ⟨eb, 2, none⟩ = some (.bool yb)) (by kernel_rfl) (by first | exact dU PC _ (Below.refl _ _) | exact dU PC _ bd | exact dU PC _ b3' | exact dU PC _ b4') (fun hHeld => ?_)
  refine tY 0 (v := ?_) rfl (by kernel_rfl) (.inl ⟨by rfl, ?_⟩) ‹_› ?_
  rotate_left 1
  ·intro w hSw
   (try dsimp only at hSw)
   first | (go_simp; done) | (go_simp; with_reducible rfl)
  try simp only [Act.put, sA, sB, sC]
  refine tY 1 (v := ?_) rfl (by kernel_rfl) (.inl ⟨by rfl, ?_⟩) ‹_› ?_
  rotate_left 1
  ·intro w hSw
   (try dsimp only at hSw)
   first | (go_simp; done) | (go_simp; with_reducible rfl)
  try simp only [Act.put, sA, sB, sC]
  refine tY 2 (v := ?_) rfl (by kernel_rfl) (.inl ⟨by rfl, ?_⟩) ‹_› ?_
  rotate_left 1
  ·intro w hSw
   (try dsimp only at hSw)
   first | (go_simp; done) | (go_simp; with_reducible rfl)
  try simp only [Act.put, sA, sB, sC]
  refine tY 3 (v := ?_) rfl (by kernel_rfl) (.inl ⟨by rfl, ?_⟩) ‹_› ?_
  rotate_left 1
  ·intro w hSw
   (try dsimp only at hSw)
   first | (go_simp; done) | (go_simp; with_reducible rfl)
  try simp only [Act.put, sA, sB, sC]
  refine tY 4 (v := ?_) rfl (by kernel_rfl) (.inl ⟨by rfl, ?_⟩) ‹_› ?_
  rotate_left 1
  ·intro w hSw
   (try dsimp only at hSw)
   first | (go_simp; done) | (go_simp; with_reducible rfl)
  try simp only [Act.put, sA, sB, sC]
  refine tY 5 rfl (by kernel_rfl) (.inr ⟨by rfl, rfl⟩) ‹_› ?_
  try simp only [Act.put, sA, sB, sC]
  refine tY 6 rfl (by kernel_rfl) (.inr ⟨by rfl, rfl⟩) ‹_› ?_
  try simp only [Act.put, sA, sB, sC]
  refine tY 7 rfl (by kernel_rfl) (.inr ⟨by rfl, rfl⟩) ‹_› ?_
  try simp only [Act.put, sA, sB, sC]
  refine tY 8 rfl (by kernel_rfl) (.inr ⟨by rfl, rfl⟩) ‹_› ?_
  try simp only [Act.put, sA, sB, sC]
  refine tY 9 (v := ?_) rfl (by kernel_rfl) (.inl ⟨by rfl, ?_⟩) ‹_› ?_
  rotate_left 1
  ·intro w hSw
   (try dsimp only at hSw)
   first | (go_simp; done) | (go_simp; with_reducible rfl)
  try simp only [Act.put, sA, sB, sC]
  refine tY 10 (v := ?_) rfl (by kernel_rfl) (.inl ⟨by rfl, ?_⟩) ‹_› ?_
  rotate_left 1
  ·intro w hSw
   (try dsimp only at hSw)
   first | (go_simp; done) | (go_simp; with_reducible rfl)
  try simp only [Act.put, sA, sB, sC]
  refine tY 11 rfl (by kernel_rfl) (.inr ⟨by rfl, rfl⟩) ‹_› ?_
  try simp only [Act.put, sA, sB, sC]
  refine tY 12 rfl (by kernel_rfl) (.inr ⟨by rfl, rfl⟩) ‹_› ?_
  try simp only [Act.put, sA, sB, sC]
  refine tY 13 rfl (by kernel_rfl) (.inr ⟨by rfl, rfl⟩) ‹_› ?_
  try simp only [Act.put, sA, sB, sC]
  refine tY 14 rfl (by kernel_rfl) (.inr ⟨by rfl, rfl⟩) ‹_› ?_
  try simp only [Act.put, sA, sB, sC]
  refine tY 15 rfl (by kernel_rfl) (.inr ⟨by rfl, rfl⟩) ‹_› ?_
  try simp only [Act.put, sA, sB, sC]
  refine tY 16 rfl (by kernel_rfl) (.inr ⟨by rfl, rfl⟩) ‹_› ?_
  try simp only [Act.put, sA, sB, sC]
  refine tY 17 rfl (by kernel_rfl) (.inr ⟨by rfl, rfl⟩) ‹_› ?_
  try simp only [Act.put, sA, sB, sC]
  refine tY 18 (v := ?_) rfl (by kernel_rfl) (.inl ⟨by rfl, ?_⟩) ‹_› ?_
  rotate_left 1
  ·intro w hSw
   (try dsimp only at hSw)
   first | (go_simp; done) | (go_simp; with_reducible rfl)
  try simp only [Act.put, sA, sB, sC]
  refine tY 19 (v := ?_) rfl (by kernel_rfl) (.inl ⟨by rfl, ?_⟩) ‹_› ?_
  rotate_left 1
  ·intro w hSw
   (try dsimp only at hSw)
   first | (go_simp; done) | (go_simp; with_reducible rfl)
  try simp only [Act.put, sA, sB, sC]
  refine wpAnyH_done (by kernel_rfl) ?_ _
  refine NoPanic.normal ?_
  (try simp only [Act.put, sA, sB, sC])
  go_wp2
  go_ret
  exact ⟨R, heb ▸ bT B2' bd⟩
 replace hd : (yd.size : Int) ≤ 40 := by omega
 by_cases hN : nodesP ds cop yn
 ·have CN1 := dH fun W hB => retB_yes (dU CNw W hB) hN
  have HN := dH hN
  clear CNw hN
  refine wp_region_noPanic ?_
  refine wp_region_held_drew (S := fun W => W.cell? ⟨eb + 1, 0, none⟩ = some (.slice ca ds.length cc) ∧ W.cell? ⟨eb + 1, 1, none⟩ = some (.int .i64 cop) ∧ W.cell? ⟨eb, 0, none⟩ = some (.string yd) ∧ W.cell? ⟨eb, 1, none⟩ = some (.slice ya yn.length yc) ∧ W.cell? ⟨eb, 2, none⟩ = some (.bool yb)) (by kernel_rfl) (by first | exact dU PC _ (Below.refl _ _) | exact dU PC _ bd | exact dU PC _ b3' | exact dU PC _ b4') (fun hHeld => ?_)
  refine tY 0 (v := ?_) rfl (by kernel_rfl) (.inl ⟨by rfl, ?_⟩) ‹_› ?_
  rotate_left 1
  ·intro w hSw
   (try dsimp only at hSw)
   first | (go_simp; done) | (go_simp; with_reducible rfl)
  try simp only [Act.put, sA, sB, sC]
  refine tY 1 (v := ?_) rfl (by kernel_rfl) (.inl ⟨by rfl, ?_⟩) ‹_› ?_
  rotate_left 1
  ·intro w hSw
   (try dsimp only at hSw)
   first | (go_simp; done) | (go_simp; with_reducible rfl)
  try simp only [Act.put, sA, sB, sC]
  refine tY 2 (v := ?_) rfl (by kernel_rfl) (.inl ⟨by rfl, ?_⟩) ‹_› ?_
  rotate_left 1
  ·intro w hSw
   (try dsimp only at hSw)
   first | (go_simp; done) | (go_simp; with_reducible rfl)
  try simp only [Act.put, sA, sB, sC]
  refine tY 3 (v := ?_) rfl (by kernel_rfl) (.inl ⟨by rfl, ?_⟩) ‹_› ?_
  rotate_left 1
  ·intro w hSw
   (try dsimp only at hSw)
   first | (go_simp; done) | (go_simp; with_reducible rfl)
  try simp only [Act.put, sA, sB, sC]
  refine tY 4 (v := ?_) rfl (by kernel_rfl) (.inl ⟨by rfl, ?_⟩) ‹_› ?_
  rotate_left 1
  ·intro w hSw
   (try dsimp only at hSw)
   first | (go_simp; done) | (go_simp; with_reducible rfl)
  try simp only [Act.put, sA, sB, sC]
  refine tY 5 (v := ?_) rfl (by kernel_rfl) (.inl ⟨by rfl, ?_⟩) ‹_› ?_
  rotate_left 1
  ·intro w hSw
   (try dsimp only at hSw)
   first | (go_simp; done) | (go_simp; with_reducible rfl)
  try simp only [Act.put, sA, sB, sC]
  refine tY 6 (v := ?_) rfl (by kernel_rfl) (.inl ⟨by rfl, ?_⟩) ‹_› ?_
  rotate_left 1
  ·intro w hSw
   (try dsimp only at hSw)
   first | (go_simp; done) | (go_simp; with_reducible rfl)
  try simp only [Act.put, sA, sB, sC]
  refine tY 7 (v := ?_) rfl (by kernel_rfl) (.inl ⟨by rfl, ?_⟩) ‹_› ?_
  rotate_left 1
  ·intro w hSw
   (try dsimp only at hSw)
   first | (go_simp; done) | (go_simp; with_reducible rfl)
  try simp only [Act.put, sA, sB, sC]
  refine wpAnyH_ready (rs := [8]) (by kernel_rfl) (by simp) ?_
  refine rC rfl (fun K hK => ?_) AllReadyH.nil
  go_simp
  refine (dU CN1 _ bd).mono ?_
  rintro e w3 ⟨rfl, b3⟩
  have b3' := bT bd b3
  (try go_wp2_with fail)
  refine hK.out _ _ (by first | exact dU PC _ (Below.refl _ _) | exact dU PC _ bd | exact dU PC _ b3' | exact dU PC _ b4') (fun hHeld => ?_)
  clear hK K
  try simp only [Act.put, sA, sB, sC]
  refine tY 9 (v := ?_) rfl (by kernel_rfl) (.inl ⟨by rfl, ?_⟩) ‹_› ?_
  rotate_left 1
  ·intro w hSw
   (try dsimp only at hSw)
   first | (go_simp; done) | (go_simp; with_reducible rfl)
  try simp only [Act.put, sA, sB, sC]
  refine tY 10 (v := ?_) rfl (by kernel_rfl) (.inl ⟨by rfl, ?_⟩) ‹_› ?_
  rotate_left 1
  ·intro w hSw
   (try dsimp only at hSw)
   first | (go_simp; done) | (go_simp; with_reducible rfl)
  try simp only [Act.put, sA, sB, sC]
  refine tY 11 (v := ?_) rfl (by kernel_rfl) (.inl ⟨by rfl, ?_⟩) ‹_› ?_
  rotate_left 1
  ·intro w hSw
   (try dsimp only at hSw)
   first | (go_simp; done) | (go_simp; with_reducible rfl)
  try simp only [Act.put, sA, sB, sC]
  refine tY 12 (v := ?_) rfl (by kernel_rfl) (.inl ⟨by rfl, ?_⟩) ‹_› ?_
  rotate_left 1
  ·intro w hSw
   (try dsimp only at hSw)
   first | (go_simp; done) | (go_simp; with_reducible rfl)
  try simp only [Act.put, sA, sB, sC]
  refine tY 13 (v := ?_) rfl (by kernel_rfl) (.inl ⟨by rfl, ?_⟩) ‹_› ?_
  rotate_left 1
  ·intro w hSw
   (try dsimp only at hSw)
   first | (go_simp; done) | (go_simp; with_reducible rfl)
  try simp only [Act.put, sA, sB, sC]
  refine tY 15 (v := ?_) rfl (by kernel_rfl) (.inl ⟨by rfl, ?_⟩) ‹_› ?_
  rotate_left 1
  ·intro w hSw
   (try dsimp only at hSw)
   first | (go_simp; done) | (go_simp; with_reducible rfl)
  try simp only [Act.put, sA, sB, sC]
  refine tY 16 (v := ?_) rfl (by kernel_rfl) (.inl ⟨by rfl, ?_⟩) ‹_› ?_
  rotate_left 1
  ·intro w hSw
   (try dsimp only at hSw)
   first | (go_simp; done) | (go_simp; with_reducible rfl)
  try simp only [Act.put, sA, sB, sC]
  refine wpAnyH_ready (rs := [14]) (by kernel_rfl) (by simp) ?_
  refine rC rfl (fun K hK => ?_) AllReadyH.nil
  go_simp
  refine (dU CHw _ b3').mono ?_
  rintro e w4 ⟨⟨bq, rfl, h4⟩, b4⟩
  have b4' := bT b3' b4
  (try go_wp2_with fail)
  refine hK.out _ _ (by first | exact dU PC _ (Below.refl _ _) | exact dU PC _ bd | exact dU PC _ b3' | exact dU PC _ b4') (fun hHeld => ?_)
  clear hK K
  try simp only [Act.put, sA, sB, sC]
  refine tY 17 (v := ?_) rfl (by kernel_rfl) (.inl ⟨by rfl, ?_⟩) ‹_› ?_
  rotate_left 1
  ·intro w hSw
   (try dsimp only at hSw)
   first | (go_simp; done) | (go_simp; with_reducible rfl)
  try simp only [Act.put, sA, sB, sC]
  refine tY 18 (v := ?_) rfl (by kernel_rfl) (.inl ⟨by rfl, ?_⟩) ‹_› ?_
  rotate_left 1
  ·intro w hSw
   (try dsimp only at hSw)
   first | (go_simp; done) | (go_simp; with_reducible rfl)
  try simp only [Act.put, sA, sB, sC]
  refine tY 19 (v := ?_) rfl (by kernel_rfl) (.inl ⟨by rfl, ?_⟩) ‹_› ?_
  rotate_left 1
  ·intro w hSw
   (try dsimp only at hSw)
   first | (go_simp; done) | (go_simp; with_reducible rfl)
  try simp only [Act.put, sA, sB, sC]
  refine wpAnyH_done (by kernel_rfl) ?_ _
  refine NoPanic.normal ?_
  (try simp only [Act.put, sA, sB, sC])
  have R : Hid (RetB P (.returned (.bool (bq == yb)))) := ⟨_, rfl, by
   rw [dU PD, beq_iff_eq]
   constructor
   ·intro h
    subst h
    exact ⟨by omega, dU HN, h4.symm⟩
   ·rintro ⟨-, -, h⟩
    rw [← h4] at h
    cases bq <;> cases yb <;> simp at h ⊢⟩
  have B4 := dH (bT B2' b4')
  clear PD h4 X2 E2 PC
  go_wp2
  go_ret
  exact ⟨dU R, dU B4⟩
 ·have CN1 := dH fun W hB => retB_no (dU CNw W hB) hN
  have R : RetB P (.returned (.bool false)) := RetB.no fun h => hN ((dU PD).1 h).2.1
  clear PD CNw CHw
  refine wp_region_noPanic ?_
  refine wp_region_held_drew (S := fun W => W.cell? ⟨eb + 1, 0, none⟩ = some (.slice ca ds.length cc) ∧ W.cell? ⟨eb + 1, 1, none⟩ = some (.int .i64 cop) ∧ W.cell? ⟨eb, 0, none⟩ = some (.string yd) ∧ W.cell? ⟨eb, 1, none⟩ = some (.slice ya yn.length yc) ∧ W.cell? ⟨eb, 2, none⟩ = some (.bool yb)) (by kernel_rfl) (by first | exact dU PC _ (Below.refl _ _) | exact dU PC _ bd | exact dU PC _ b3' | exact dU PC _ b4') (fun hHeld => ?_)
  refine tY 0 (v := ?_) rfl (by kernel_rfl) (.inl ⟨by rfl, ?_⟩) ‹_› ?_
  rotate_left 1
  ·intro w hSw
   (try dsimp only at hSw)
   first | (go_simp; done) | (go_simp; with_reducible rfl)
  try simp only [Act.put, sA, sB, sC]
  refine tY 1 (v := ?_) rfl (by kernel_rfl) (.inl ⟨by rfl, ?_⟩) ‹_› ?_
  rotate_left 1
  ·intro w hSw
   (try dsimp only at hSw)
   first | (go_simp; done) | (go_simp; with_reducible rfl)
  try simp only [Act.put, sA, sB, sC]
  refine tY 2 (v := ?_) rfl (by kernel_rfl) (.inl ⟨by rfl, ?_⟩) ‹_› ?_
  rotate_left 1
  ·intro w hSw
   (try dsimp only at hSw)
   first | (go_simp; done) | (go_simp; with_reducible rfl)
  try simp only [Act.put, sA, sB, sC]
  refine tY 3 (v := ?_) rfl (by kernel_rfl) (.inl ⟨by rfl, ?_⟩) ‹_› ?_
  rotate_left 1
  ·intro w hSw
   (try dsimp only at hSw)
   first | (go_simp; done) | (go_simp; with_reducible rfl)
  try simp only [Act.put, sA, sB, sC]
  refine tY 4 (v := ?_) rfl (by kernel_rfl) (.inl ⟨by rfl, ?_⟩) ‹_› ?_
  rotate_left 1
  ·intro w hSw
   (try dsimp only at hSw)
   first | (go_simp; done) | (go_simp; with_reducible rfl)
  try simp only [Act.put, sA, sB, sC]
  refine tY 5 (v := ?_) rfl (by kernel_rfl) (.inl ⟨by rfl, ?_⟩) ‹_› ?_
  rotate_left 1
  ·intro w hSw
   (try dsimp only at hSw)
   first | (go_simp; done) | (go_simp; with_reducible rfl)
  try simp only [Act.put, sA, sB, sC]
  refine tY 6 (v := ?_) rfl (by kernel_rfl) (.inl ⟨by rfl, ?_⟩) ‹_› ?_
  rotate_left 1
  ·intro w hSw
   (try dsimp only at hSw)
   first | (go_simp; done) | (go_simp; with_reducible rfl)
  try simp only [Act.put, sA, sB, sC]
  refine tY 7 (v := ?_) rfl (by kernel_rfl) (.inl ⟨by rfl, ?_⟩) ‹_› ?_
  rotate_left 1
  ·intro w hSw
   (try dsimp only at hSw)
   first | (go_simp; done) | (go_simp; with_reducible rfl)
  try simp only [Act.put, sA, sB, sC]
  refine wpAnyH_ready (rs := [8]) (by kernel_rfl) (by simp) ?_
  refine rC rfl (fun K hK => ?_) AllReadyH.nil
  go_simp
  refine (dU CN1 _ bd).mono ?_
  rintro e w3 ⟨rfl, b3⟩
  have b3' := bT bd b3
  (try go_wp2_with fail)
  refine hK.out _ _ (by first | exact dU PC _ (Below.refl _ _) | exact dU PC _ bd | exact dU PC _ b3' | exact dU PC _ b4') (fun hHeld => ?_)
  clear hK K
  try simp only [Act.put, sA, sB, sC]
  refine tY 9 (v := ?_) rfl (by kernel_rfl) (.inl ⟨by rfl, ?_⟩) ‹_› ?_
  rotate_left 1
  ·intro w hSw
   (try dsimp only at hSw)
   first | (go_simp; done) | (go_simp; with_reducible rfl)
  try simp only [Act.put, sA, sB, sC]
  refine tY 10 (v := ?_) rfl (by kernel_rfl) (.inl ⟨by rfl, ?_⟩) ‹_› ?_
  rotate_left 1
  ·intro w hSw
   (try dsimp only at hSw)
   first | (go_simp; done) | (go_simp; with_reducible rfl)
  try simp only [Act.put, sA, sB, sC]
  refine tY 11 rfl (by kernel_rfl) (.inr ⟨by rfl, rfl⟩) ‹_› ?_
  try simp only [Act.put, sA, sB, sC]
  refine tY 12 rfl (by kernel_rfl) (.inr ⟨by rfl, rfl⟩) ‹_› ?_
  try simp only [Act.put, sA, sB, sC]
  refine tY 13 rfl (by kernel_rfl) (.inr ⟨by rfl, rfl⟩) ‹_› ?_
  try simp only [Act.put, sA, sB, sC]
  refine tY 14 rfl (by kernel_rfl) (.inr ⟨by rfl, rfl⟩) ‹_› ?_
  try simp only [Act.put, sA, sB, sC]
  refine tY 15 rfl (by kernel_rfl) (.inr ⟨by rfl, rfl⟩) ‹_› ?_
  try simp only [Act.put, sA, sB, sC]
  refine tY 16 rfl (by kernel_rfl) (.inr ⟨by rfl, rfl⟩) ‹_› ?_
  try simp only [Act.put, sA, sB, sC]
  refine tY 17 rfl (by kernel_rfl) (.inr ⟨by rfl, rfl⟩) ‹_› ?_
  try simp only [Act.put, sA, sB, sC]
  refine tY 18 (v := ?_) rfl (by kernel_rfl) (.inl ⟨by rfl, ?_⟩) ‹_› ?_
  rotate_left 1
  ·intro w hSw
   (try dsimp only at hSw)
   first | (go_simp; done) | (go_simp; with_reducible rfl)
  try simp only [Act.put, sA, sB, sC]
  refine tY 19 (v := ?_) rfl (by kernel_rfl) (.inl ⟨by rfl, ?_⟩) ‹_› ?_
  rotate_left 1
  ·intro w hSw
   (try dsimp only at hSw)
   first | (go_simp; done) | (go_simp; with_reducible rfl)
  try simp only [Act.put, sA, sB, sC]
  refine wpAnyH_done (by kernel_rfl) ?_ _
  refine NoPanic.normal ?_
  (try simp only [Act.put, sA, sB, sC])
  go_wp2
  go_ret
  exact ⟨R, heb ▸ bT B2' b3'⟩
set_option maxHeartbeats 8000000 in
theorem implDeedOk_ok (d : De) (w : World) (hs : d.t.size ≤ 9223372036854775807) (h1 : 1 ≤ d.k ∧ d.k ≤ 16) (h3 : d.t.size ≤ 40) (h2 : dropD (nm d.k) d = ⟨d.k, 0, 0, 0, ⟨#[]⟩⟩) :
  Calls Tryz.prog 19 #[d.val] w fun e w' => e = .returned (.bool true) ∧ Below w.heap.size w w' := by
 obtain ⟨k, a, b, c, t⟩ := d
 have B0 : Below w.heap.size w (w.alloc (.cells #[.int .i64 k, .int .i64 a, .int .i64 b, .int .i64 c, .string t] 45)) := (Below.refl _ _).alloc (Nat.le_refl _) _
 have X0 := Bx.new w [.int .i64 k, .int .i64 a, .int .i64 b, .int .i64 c, .string t] 45
 simp only at h1 h3 h2 hs
 obtain ⟨n, rfl⟩ : ∃ n : Nat, k = (n : Int) := ⟨k.toNat, by omega⟩
 have e1 : ¬ (n : Int) < 1 := by omega
 have e2 : ¬ (16 : Int) < (n : Int) := by omega
 have e3 : ¬ (40 : Int) < (t.size : Int) := by omega
 have hn : 1 ≤ n ∧ n ≤ 16 := by omega
 have en : nm (n : Int) = nmL.getD n 0 := by simp [nm]
 rw [en] at h2
 clear en
 unfold De.val
 go_enter Tryz.func19, Tryz.ntmps19
 go_wp2_with fail
 generalize w.alloc (.cells #[.int .i64 (n : Int), .int .i64 a, .int .i64 b, .int .i64 c, .string t] 45) = w0 at *
 refine (implKinds_any w0).mono ?_
 rintro e w1 ⟨rfl, b1⟩
 have hw : w.heap.size < w1.heap.size := Nat.lt_of_lt_of_le (dCell_lt (X0 0 _ rfl)) b1.size
 replace X0 := X0.below b1
 replace B0 := bT B0 b1
 clear b1
 have Y := BxZ.new w1 [.int .i64 0, .nilFunc, .int .i64 0, .nilFunc, .int .i64 0, .nilFunc, .int .i64 0, .nilFunc, .int .i64 0, .nilFunc, .int .i64 0, .nilFunc, .int .i64 0, .nilFunc, .int .i64 0, .nilFunc, .int .i64 0, .nilFunc, .int .i64 0, .nilFunc, .int .i64 0, .nilFunc, .int .i64 0, .nilFunc, .int .i64 0, .nilFunc, .int .i64 0, .nilFunc, .int .i64 0, .nilFunc, .int .i64 0, .nilFunc, .int .i64 0, .nilFunc] 62 (B := w.heap.size) (Nat.le_of_lt hw)
 have ba : Below w1.heap.size w1 (w1.alloc (.cells #[.int .i64 0, .nilFunc, .int .i64 0, .nilFunc, .int .i64 0, .nilFunc, .int .i64 0, .nilFunc, .int .i64 0, .nilFunc, .int .i64 0, .nilFunc, .int .i64 0, .nilFunc, .int .i64 0, .nilFunc, .int .i64 0, .nilFunc, .int .i64 0, .nilFunc, .int .i64 0, .nilFunc, .int .i64 0, .nilFunc, .int .i64 0, .nilFunc, .int .i64 0, .nilFunc, .int .i64 0, .nilFunc, .int .i64 0, .nilFunc, .int .i64 0, .nilFunc] 62)) := (Below.refl _ _).alloc (Nat.le_refl _) _
 replace X0 := X0.below ba
 replace B0 := bT B0 ba
 generalize hkb : w1.heap.size = kb at *
 have hne : w.heap.size ≠ kb := by omega
 go_upto_region 4 with (refine wp_putW rfl _ _ _ rfl rfl kindsL rfl rfl Y rfl (by kernel_rfl) (by kernel_rfl) ?_; intro w2 Y2 s2 g2 b2; replace X0 := X0.off g2 hne; replace B0 := B0.trans b2; have q0 := X0 0 _ rfl; have q4 := X0 4 _ rfl)
 have h0 := Y2.2 (n * 2) _ (kinds_at n (by omega))
 replace h0 := h0.1
 clear q0 q4
 replace X0 := X0.below (Below.refl w2.heap.size w2).drew
 replace B0 := B0.drew
 have C := dH fun W => implWithout_any ⟨(n : Int), a, b, c, t⟩ _ (nm_of n (by omega)) W
 have hc : Bx w2.drew kb kindsL := Y2.bx.below (Below.refl w2.heap.size w2).drew
 clear Y2 s2 g2 b2 Y ba hkb
 have h17 : (n : Int) < 17 := by omega
 generalize nmL.getD n 0 = N at *
 generalize hd' : dropD N ⟨(n : Int), a, b, c, t⟩ = d' at *
 have hq := fun W => eqDeed_eq (d := d') (d' := ⟨(n : Int), 0, 0, 0, ⟨#[]⟩⟩) h2 W
 obtain ⟨k', a', b', c', t'⟩ := d'
 unfold De.val at hq C
 simp only at hq C
 clear hd' h2
 refine wp_region_noPanic ?_
 refine wp_region_held_drew (S := fun W => W.cell? ⟨w.heap.size, 0, none⟩ = some (.int .i64 (n : Int)) ∧ W.cell? ⟨w.heap.size, 1, none⟩ = some (.int .i64 a) ∧ W.cell? ⟨w.heap.size, 2, none⟩ = some (.int .i64 b) ∧ W.cell? ⟨w.heap.size, 3, none⟩ = some (.int .i64 c) ∧ W.cell? ⟨w.heap.size, 4, none⟩ = some (.string t) ∧ W.cell? ⟨kb, n * 2, none⟩ = some (.int .i64 (N : Int))) (by kernel_rfl) (by exact ⟨X0 0 _ rfl, X0 1 _ rfl, X0 2 _ rfl, X0 3 _ rfl, X0 4 _ rfl, h0⟩) (fun hHeld => ?_)
 refine tY 0 (v := ?_) rfl (by kernel_rfl) (.inl ⟨by rfl, ?_⟩) ‹_› ?_
 rotate_left 1
 ·intro w hSw
  (try dsimp only at hSw)
  first | (go_simp; done) | (go_simp; with_reducible rfl)
 try simp only [Act.put, sA, sB, sC]
 refine tY 1 (v := ?_) rfl (by kernel_rfl) (.inl ⟨by rfl, ?_⟩) ‹_› ?_
 rotate_left 1
 ·intro w hSw
  (try dsimp only at hSw)
  first | (go_simp; done) | (go_simp; with_reducible rfl)
 try simp only [Act.put, sA, sB, sC]
 refine tY 2 (v := ?_) rfl (by kernel_rfl) (.inl ⟨by rfl, ?_⟩) ‹_› ?_
 rotate_left 1
 ·intro w hSw
  (try dsimp only at hSw)
  first | (go_simp; done) | (go_simp; with_reducible rfl)
 try simp only [Act.put, sA, sB, sC]
 refine tY 3 (v := ?_) rfl (by kernel_rfl) (.inl ⟨by rfl, ?_⟩) ‹_› ?_
 rotate_left 1
 ·intro w hSw
  (try dsimp only at hSw)
  first | (go_simp; done) | (go_simp; with_reducible rfl)
 try simp only [Act.put, sA, sB, sC]
 refine tY 4 (v := ?_) rfl (by kernel_rfl) (.inl ⟨by rfl, ?_⟩) ‹_› ?_
 rotate_left 1
 ·intro w hSw
  (try dsimp only at hSw)
  first | (go_simp; done) | (go_simp; with_reducible rfl)
 try simp only [Act.put, sA, sB, sC]
 refine tY 5 (v := ?_) rfl (by kernel_rfl) (.inl ⟨by rfl, ?_⟩) ‹_› ?_
 rotate_left 1
 ·intro w hSw
  (try dsimp only at hSw)
  first | (go_simp; done) | (go_simp; with_reducible rfl)
 try simp only [Act.put, sA, sB, sC]
 refine tY 7 (v := ?_) rfl (by kernel_rfl) (.inl ⟨by rfl, ?_⟩) ‹_› ?_
 rotate_left 1
 ·intro w hSw
  (try dsimp only at hSw)
  first | (go_simp; done) | (go_simp; with_reducible rfl)
 try simp only [Act.put, sA, sB, sC]
 refine tY 8 (v := ?_) rfl (by kernel_rfl) (.inl ⟨by rfl, ?_⟩) ‹_› ?_
 rotate_left 1
 ·intro w hSw
  (try dsimp only at hSw)
  first | (go_simp; done) | (go_simp; with_reducible rfl)
 try simp only [Act.put, sA, sB, sC]
 refine tY 9 (v := ?_) rfl (by kernel_rfl) (.inl ⟨by rfl, ?_⟩) ‹_› ?_
 rotate_left 1
 ·intro w hSw
  (try dsimp only at hSw)
  first | (go_simp; done) | (go_simp; with_reducible rfl)
 try simp only [Act.put, sA, sB, sC]
 refine wpAnyH_ready (rs := [6]) (by kernel_rfl) (by simp) ?_
 refine rC rfl (fun K hK => ?_) AllReadyH.nil
 go_simp
 refine (dU C _).mono ?_
 rintro e w3 ⟨rfl, b3⟩
 replace h0 : w3.cell? ⟨kb, n * 2, none⟩ = some (.int .i64 (N : Int)) := (b3.cell (p := ⟨kb, n * 2, none⟩) (dCell_lt h0)).trans h0
 replace X0 := X0.below b3
 replace B0 := bT B0 b3
 clear b3 C hc
 try dsimp only
 refine hK.out _ _ (by exact ⟨X0 0 _ rfl, X0 1 _ rfl, X0 2 _ rfl, X0 3 _ rfl, X0 4 _ rfl, h0⟩) (fun hHeld => ?_)
 clear hK K
 try simp only [Act.put, sA, sB, sC]
 refine tY 10 (v := ?_) rfl (by kernel_rfl) (.inl ⟨by rfl, ?_⟩) ‹_› ?_
 rotate_left 1
 ·intro w hSw
  (try dsimp only at hSw)
  first | (go_simp; done) | (go_simp; with_reducible rfl)
 try simp only [Act.put, sA, sB, sC]
 refine tY 11 (v := ?_) rfl (by kernel_rfl) (.inl ⟨by rfl, ?_⟩) ‹_› ?_
 rotate_left 1
 ·intro w hSw
  (try dsimp only at hSw)
  first | (go_simp; done) | (go_simp; with_reducible rfl)
 try simp only [Act.put, sA, sB, sC]
 refine wpAnyH_done (by kernel_rfl) ?_ _
 refine NoPanic.normal ?_
 go_wp2_with fail
 go_ret
 exact ⟨rfl, B0⟩
end Go.Proofs.YtodfgehicpejgaaGreatDoor
