/- Several texts in one: ImFg, CeA, NhA, CeB, NwP, NxE, NwJ. -/
import Derived.Test.YtodfgehicpejgaaGreatDoorGk158
import Derived.Test.YtodfgehicpejgaaGreatDoorGk169
import Derived.Test.YtodfgehicpejgaaGreatDoorGk177
import Derived.Test.YtodfgehicpejgaaGreatDoorGk181
import Derived.Test.YtodfgehicpejgaaGreatDoorWnA
import Derived.Test.YtodfgehicpejgaaGreatDoorGk178
import Derived.Deep.DeepCutAuto
import Derived.Test.YtodfgehicpejgaaGreatDoorGk149
import Derived.Deep.RegionHeld3
import Derived.Test.YtodfgehicpejgaaGreatDoorGk176
import Derived.Test.YtodfgehicpejgaaGreatDoorGk163
import Derived.Test.YtodfgehicpejgaaGreatDoorGk164
import Derived.Lib.SliceRun
import Derived.Test.YtodfgehicpejgaaGreatDoorGk156
import Derived.Test.YtodfgehicpejgaaGreatDoorGk159
namespace Go.Proofs.YtodfgehicpejgaaGreatDoor
open Go.ChangeShapes Go.WideShapes Go.ChangeAt Go.RowKit
set_option linter.unusedSimpArgs false
set_option linter.unusedVariables false
set_option maxRecDepth 100000
theorem zerosE_len (n : Nat) : (zerosE n).toList.length = n * 4 := by rw [Array.length_toList]; exact size_madeCells _ _
set_option maxHeartbeats 4000000 in
theorem copyEntries_any (v : Value) (es : List Ent) (w : World) (hv : Rw 4 Ent.cl w v es) (hl : es.length ≤ 1048576) :
    Calls Tryz.prog 95 #[v] w fun r w' => (∃ u, r = .returned u ∧ ApE w' w.heap.size u es) ∧ Below w.heap.size w w' := by
  have hlen : (fcells Ent.cl es).length = es.length * 4 := fcells_len elemE.len es
  have hw := MapKept.heap_alloc w (.cells (zerosE es.length) 156)
  have HR : Hid ((w.alloc (.cells (zerosE es.length) 156)).heap[w.heap.size]? = some (.cells (zerosE es.length).toList.toArray 156 (0, 0))) := by
    show _ = _
    simpa using hw.1
  have hB : Below w.heap.size w (w.alloc (.cells (zerosE es.length) 156)) := (Below.refl _ _).alloc (Nat.le_refl _) _
  have hv1 := hv.below hB
  obtain ⟨-, a, c, rfl, hac, -⟩ := id hv1
  have HS : Hid (0 < (fcells Ent.cl es).length → ∃ ad, a = some ad ∧ ∀ j u, (fcells Ent.cl es)[j]? = some u → (w.alloc (.cells (zerosE es.length) 156)).cell? (ad.add j) = some u) := fun h0 => by
    obtain ⟨-, a', c', e, -, h⟩ := hv1
    cases e
    obtain ⟨b, off, rfl, hc⟩ := orR_of_lt h (k := 0) (by omega)
    exact ⟨_, rfl, rw_news elemE hc⟩
  have HZ := dH (zerosE_len es.length)
  have o1 := dH (fcells_one elemE es)
  have FIN : Hid (∀ w', w'.heap[w.heap.size]? = some (.cells (splice (zerosE es.length).toList 0 (fcells Ent.cl es)).toArray 156 (0, 0)) → (w.alloc (.cells (zerosE es.length) 156)).grownBy w' (some w.heap.size) → (∃ u, Ending.returned (.slice (some ⟨w.heap.size, 0, none⟩) es.length es.length) = .returned u ∧ ApE w' w.heap.size u es) ∧ Below w.heap.size w w') := fun w' h1 h2 => by
    have e : splice (zerosE es.length).toList 0 (fcells Ent.cl es) = fcells Ent.cl es := by
      unfold splice
      rw [List.drop_eq_nil_of_le (by rw [zerosE_len, hlen]; omega)]
      simp
    rw [e] at h1
    refine ⟨⟨_, rfl, .inr ⟨hlen, .inr ⟨w.heap.size, es.length, _, rfl, Nat.le_refl _, h1, Nat.le_refl _, by show es.length ≤ 9223372036854775807; omega, by simpa using hlen, ?_⟩⟩⟩, hB.grown h2 hB.size (fun k hk => by cases hk; exact Nat.le_refl _)⟩
    simp [← hlen]
  have mk := fun W => makeE es.length (by omega) W
  generalize (zerosE es.length).toList = ZL at *
  generalize hF : fcells Ent.cl es = FC at *
  generalize es.length = n at *
  clear hv hv1 hw hF
  go_enter Tryz.func95, Tryz.ntmps95
  go_wp2_with (refine wp_copyK rfl _ _ 78 78 rfl 156 4 elemE.under (by kernel_rfl) (by decide) _ _ _ _ _ _ rfl rfl w.heap.size 0 ZL 156 (dU HR) FC (by rw [show Nat.min n n = n from Nat.min_self n]; exact hlen) (fun h => ⟨rfl, dU HS h⟩) (by rw [dU HZ, hlen]; omega) (dU o1) ?_; intro W2 R2 G2; have F := dH (dU FIN W2 (dU R2) (dU G2)); clear R2 G2)
  go_ret
  exact dU F
set_option maxHeartbeats 4000000 in
theorem copied_any (v : Value) (s : St) (w : World) (hv : Rs w v s) (hk : s.kept.length ≤ 1048576) (hl : s.late.length ≤ 1048576) :
    Calls Tryz.prog 39 #[v] w fun e w' => (∃ u, e = .returned u ∧ OwS w' w.heap.size u s) ∧ Below w.heap.size w w' := by
  obtain ⟨kv, lv, rfl, rk, rl⟩ := hv
  have HK := dH fun W (hb : Below w.heap.size w W) => copyEntries_any kv s.kept W (rk.below hb) hk
  have HL := dH fun W (hb : Below w.heap.size w W) => copyEntries_any lv s.late W (rl.below hb) hl
  obtain ⟨-, ka, kc, rfl, -, -⟩ := rk
  obtain ⟨-, la, lc, rfl, -, -⟩ := rl
  have EX : Hid (∀ (W : World) a b, ApE W w.heap.size a s.kept → ApE W w.heap.size b s.late → (touch a = none ∨ touch a ≠ touch b) → OwS W w.heap.size (.agg #[a, b, .int .i64 s.lock]) s) := fun W a b h1 h2 h3 => ⟨a, b, rfl, h1, h2, h3⟩
  generalize s.lock = sl at *
  have ba : ∀ (w : World) o, Below w.heap.size w (w.alloc o) := fun w o => (Below.refl _ _).alloc (Nat.le_refl _) o
  go_enter Tryz.func39, Tryz.ntmps39
  go_wp2_with fail
  have X0 := BxZ.new w [.slice ka s.kept.length kc, .slice la s.late.length lc, .int .i64 sl] 80 (Nat.le_refl _)
  have X1 := X0.below (ba _ (.cells #[.slice none 0 0, .slice none 0 0, .int .i64 0] 80))
  have Z1 := BxZ.new (B := w.heap.size) (w.alloc (.cells #[.slice ka s.kept.length kc, .slice la s.late.length lc, .int .i64 sl] 80)) [.slice none 0 0, .slice none 0 0, .int .i64 0] 80 (by simp)
  have B1 := bT (ba w (.cells #[.slice ka s.kept.length kc, .slice la s.late.length lc, .int .i64 sl] 80)) (ba _ (.cells #[.slice none 0 0, .slice none 0 0, .int .i64 0] 80))
  have e1 : (w.alloc (.cells #[.slice ka s.kept.length kc, .slice la s.late.length lc, .int .i64 sl] 80)).heap.size = w.heap.size + 1 := by simp
  rw [e1] at Z1
  clear X0 e1
  generalize hW : (w.alloc (.cells #[.slice ka s.kept.length kc, .slice la s.late.length lc, .int .i64 sl] 80)).alloc (.cells #[.slice none 0 0, .slice none 0 0, .int .i64 0] 80) = w0 at *
  clear hW
  have HX := dH X1
  have HZ := dH Z1
  have k0 := (X1.2 0 _ rfl).1
  have k1 := (X1.2 1 _ rfl).1
  have k2 := (X1.2 2 _ rfl).1
  have hlt := Z1.lt
  clear X1 Z1
  have HK0 := dH fun W (hb : Below w0.heap.size w0 W) => dU HK W (bT B1 hb)
  have HL0 := dH fun W (hb : Below w0.heap.size w0 W) => dU HL W (bT B1 hb)
  have hb1 : Below w0.heap.size w0 w0.drew := (Below.refl _ _).drew
  clear HK HL
  go_region_held3 (fun W => W.cell? ⟨w.heap.size, 0, none⟩ = some (.slice ka s.kept.length kc) ∧ W.cell? ⟨w.heap.size, 1, none⟩ = some (.slice la s.late.length lc) ∧ W.cell? ⟨w.heap.size, 2, none⟩ = some (.int .i64 sl)) (first | exact ⟨sO (sO (sO q0 (.inl (by omega))) (.inl (by omega))) (.inl (by omega)), sO (sO (sO q1 (.inl (by omega))) (.inl (by omega))) (.inl (by omega)), sO (sO (sO q2 (.inl (by omega))) (.inl (by omega))) (.inl (by omega))⟩ | exact ⟨q0, q1, q2⟩ | exact ⟨p0, p1, p2⟩ | go_keep)
    (first
      | (go_at_call 95; refine (dU HL0 _ hb5).mono ?_; rintro e w6 ⟨⟨v6, rfl, P6⟩, b6⟩
         have PK := (PF.below b6).mono (base' := w0.heap.size) (by have := hb1.size; simp <;> omega); have SEP := dH (touch_ne elemE PF P6 (Nat.le_refl _)); have HPK := dH PK; have hb6 := bT hb5 b6; have HPL := dH (P6.mono (base' := w0.heap.size) hb5.size); obtain ⟨a6, c6, rfl⟩ := ApR.slice elemE P6; have q0 := ((dU HX).below hb6 |>.2 0 _ rfl).1; have q1 := ((dU HX).below hb6 |>.2 1 _ rfl).1; have q2 := ((dU HX).below hb6 |>.2 2 _ rfl).1; obtain ⟨z0, f0⟩ := ((dU HZ).below hb6).2 0 _ rfl; obtain ⟨z1, f1⟩ := ((dU HZ).below hb6).2 1 _ rfl; obtain ⟨z2, f2⟩ := ((dU HZ).below hb6).2 2 _ rfl; clear P6 b6 PK PF)
      | (go_at_call 95; refine (dU HK0 _ hb1).mono ?_; rintro e w5 ⟨⟨v5, rfl, PF⟩, b5⟩
         have hb5 := bT hb1 b5; obtain ⟨a5, c5, rfl⟩ := ApR.slice elemE PF; have p0 := ((dU HX).below hb5 |>.2 0 _ rfl).1; have p1 := ((dU HX).below hb5 |>.2 1 _ rfl).1; have p2 := ((dU HX).below hb5 |>.2 2 _ rfl).1; clear b5))
  all_goals
    have BB := (((bT B1 hb6).setCell (p := ⟨w.heap.size + 1, 0, none⟩) (Nat.le_succ _) (.slice a5 s.kept.length c5)).setCell (p := ⟨w.heap.size + 1, 1, none⟩) (Nat.le_succ _) (.slice a6 s.late.length c6)).setCell (p := ⟨w.heap.size + 1, 2, none⟩) (Nat.le_succ _) (.int .i64 sl)
    have ZZ := ((((dU HZ).below hb6).put 0 (.slice a5 s.kept.length c5)).put 1 (.slice a6 s.late.length c6)).put 2 (.int .i64 sl)
    have e0 := (ZZ.2 0 _ rfl).1
    have e1 := (ZZ.2 1 _ rfl).1
    have e2 := (ZZ.2 2 _ rfl).1
    have OO := dH (dU EX _ _ _ (((ApR.far elemE (ApR.far elemE (ApR.far elemE (dU HPK) (b := w.heap.size + 1) (o' := 0) (by omega) (.slice a5 s.kept.length c5)) (b := w.heap.size + 1) (o' := 1) (by omega) (.slice a6 s.late.length c6)) (b := w.heap.size + 1) (o' := 2) (by omega) (.int .i64 sl))).mono B1.size) (((ApR.far elemE (ApR.far elemE (ApR.far elemE (dU HPL) (b := w.heap.size + 1) (o' := 0) (by omega) (.slice a5 s.kept.length c5)) (b := w.heap.size + 1) (o' := 1) (by omega) (.slice a6 s.late.length c6)) (b := w.heap.size + 1) (o' := 2) (by omega) (.int .i64 sl))).mono B1.size) (dU SEP))
    clear ZZ HPK HPL SEP z0 z1 z2 f0 f1 f2 q0 q1 q2 p0 p1 p2 k0 k1 k2 EX HZ HX HK0 HL0 hb1
    generalize (((w6.setCell ⟨w.heap.size + 1, 0, none⟩ (.slice a5 s.kept.length c5)).setCell ⟨w.heap.size + 1, 1, none⟩ (.slice a6 s.late.length c6)).setCell ⟨w.heap.size + 1, 2, none⟩ (.int .i64 sl)) = V at *
    go_wp2
    refine bodyPost_ret (v := .agg #[.slice a5 s.kept.length c5, .slice a6 s.late.length c6, .int .i64 sl]) (by simp [results, Tryz.results39, go_sem, e0, e1, e2]) rfl ⟨⟨_, rfl, dU OO⟩, BB⟩
def EmS (W : World) (g n : Nat) : Prop := ∃ f : Nat → Ps, RowG 3 psCl W g 0 n f ∧ ∀ i, (f i).m = ⟨[], [], 0⟩ ∧ (f i).kc ≤ 9223372036854775807 ∧ (f i).lc ≤ 9223372036854775807
theorem EmS.below {W W' : World} {g n : Nat} (h : EmS W g n) (hb : Below W.heap.size W W') : EmS W' g n := by
 obtain ⟨f, h1, h2⟩ := h
 exact ⟨f, h1.below hb, h2⟩
theorem EmS.rd {W : World} {g n : Nat} (h : EmS W g n) (hn : n ≤ 1048576) : RdStoreS (.slice (some ⟨g, 0, none⟩) n n) (List.replicate n ⟨[], [], 0⟩) W := by
 obtain ⟨f, h1, h2⟩ := h
 have hl : ((List.range n).map f).length = n := by simp
 have ho := h1.own (base := 0) (cap := n) (es := (List.range n).map f) hl.symm (fun i hi => by simp) (Nat.zero_le _) (by omega) (by omega)
 rw [hl] at ho
 refine ⟨(List.range n).map f, ?_, ho.rw, fun p hp => ?_⟩
 ·apply List.ext_getElem
  ·simp
  ·intro i q1 q2
   simp [(h2 i).1]
 ·obtain ⟨i, hi, rfl⟩ := List.mem_map.1 hp
  obtain ⟨e, k1, k2⟩ := h2 i
  unfold psVal
  rw [e]
  exact ⟨_, _, rfl, ⟨by simp, _, _, rfl, ⟨by simp, k1⟩, .inl rfl⟩, ⟨by simp, _, _, rfl, ⟨by simp, k2⟩, .inl rfl⟩⟩
theorem EmS.at {W : World} {g n k : Nat} (h : EmS W g n) (hk : k < n) : (∃ v, W.cell? ⟨g, k * 3, none⟩ = some v ∧ W.frozen? ⟨g, k * 3, none⟩ = false) ∧ (∃ v, W.cell? ⟨g, k * 3 + 1, none⟩ = some v ∧ W.frozen? ⟨g, k * 3 + 1, none⟩ = false) ∧ ∃ v, W.cell? ⟨g, k * 3 + 2, none⟩ = some v ∧ W.frozen? ⟨g, k * 3 + 2, none⟩ = false := by
 obtain ⟨f, h1, -⟩ := h
 have q0 := h1 k hk 0 _ rfl
 have q1 := h1 k hk 1 _ rfl
 have q2 := h1 k hk 2 _ rfl
 simp only [Nat.zero_add, Nat.add_zero] at q0 q1 q2
 exact ⟨⟨_, q0⟩, ⟨_, q1⟩, ⟨_, q2⟩⟩
theorem EmS.put {W : World} {g n k : Nat} (h : EmS W g n) (hk : k < n) (ka la : Option Addr) (kc lc : Nat) (b1 : kc ≤ 9223372036854775807) (b2 : lc ≤ 9223372036854775807) :
  EmS (((W.setCell ⟨g, k * 3, none⟩ (.slice ka 0 kc)).setCell ⟨g, k * 3 + 1, none⟩ (.slice la 0 lc)).setCell ⟨g, k * 3 + 2, none⟩ (.int .i64 0)) g n := by
 obtain ⟨f, h1, h2⟩ := h
 obtain ⟨e, k1, k2⟩ := h2 k
 have r0 := h1.put psCl_len hk 0 (by decide) (.slice ka 0 kc) ⟨ka, kc, (f k).la, (f k).lc, ⟨[], [], 0⟩⟩ (by unfold psCl; rw [e]; rfl)
 have r1 := r0.put psCl_len hk 1 (by decide) (.slice la 0 lc) ⟨ka, kc, la, lc, ⟨[], [], 0⟩⟩ (by rw [putG_same]; rfl)
 have r2 := r1.put psCl_len hk 2 (by decide) (.int .i64 0) ⟨ka, kc, la, lc, ⟨[], [], 0⟩⟩ (by rw [putG_same]; rfl)
 simp only [Nat.zero_add, Nat.add_zero] at r2
 refine ⟨_, r2, fun i => ?_⟩
 unfold putG
 repeat' split
 ·exact ⟨rfl, b1, b2⟩
 all_goals first | exact ⟨rfl, b1, b2⟩ | exact ⟨rfl, b1, k2⟩ | exact h2 i
theorem copiedE_any (ka la : Option Addr) (kc lc : Nat) (w : World) (b1 : kc ≤ 9223372036854775807) (b2 : lc ≤ 9223372036854775807) :
  Calls Tryz.prog 39 #[.agg #[.slice ka 0 kc, .slice la 0 lc, .int .i64 0]] w fun e w' => (∃ a b c d, e = .returned (.agg #[.slice a 0 c, .slice b 0 d, .int .i64 0]) ∧ c ≤ 9223372036854775807 ∧ d ≤ 9223372036854775807) ∧ Below w.heap.size w w' := by
 refine (copied_any (.agg #[.slice ka 0 kc, .slice la 0 lc, .int .i64 0]) ⟨[], [], 0⟩ w ⟨_, _, rfl, ⟨by simp, _, _, rfl, ⟨by simp, b1⟩, .inl rfl⟩, ⟨by simp, _, _, rfl, ⟨by simp, b2⟩, .inl rfl⟩⟩ (by simp) (by simp)).mono ?_
 rintro e w1 ⟨⟨u, rfl, kv, lv, rfl, h1, h2, -⟩, hb⟩
 obtain ⟨-, a, c, rfl, hc, -⟩ := ApR.own elemE h1
 obtain ⟨-, b, d, rfl, hd, -⟩ := ApR.own elemE h2
 exact ⟨⟨a, b, c, d, rfl, hc.2, hd.2⟩, hb⟩
set_option maxHeartbeats 8000000 in
theorem copiedStores_any (v : Value) (n : Nat) (w : World) (hv : RdStoreS v (List.replicate n ⟨[], [], 0⟩) w) (hn : n ≤ 1048576) :
  Calls Tryz.prog 38 #[v, .func (.func 39) #[] #[]] w fun e w' => (∃ g, e = .returned (.slice (some ⟨g, 0, none⟩) n n) ∧ w.heap.size ≤ g ∧ EmS w' g n) ∧ Below w.heap.size w w' := by
 have ba : ∀ (w : World) o, Below w.heap.size w (w.alloc o) := fun w o => (Below.refl _ _).alloc (Nat.le_refl _) o
 have HV := dH fun W (hb : Below w.heap.size w W) => hv.below hb
 obtain ⟨a, cap, rfl, -⟩ := formStoreS hv
 rw [List.length_replicate] at *
 have hmk := makeS n (by omega)
 have S0 : Hid (EmS (w.alloc (.cells (madeCells (Value.agg #[.slice none 0 0, .slice none 0 0, .int .i64 0]).cells (n * 3)) 80)) w.heap.size n) := ⟨fun _ => zeroPs, RowG.made (cl := psCl) w _ n _ zeroPs rfl zeroPs_cells, fun i => ⟨rfl, by simp [zeroPs], by simp [zeroPs]⟩⟩
 have B0 := ba w (.cells (madeCells (Value.agg #[.slice none 0 0, .slice none 0 0, .int .i64 0]).cells (n * 3)) 80)
 have HB0 := dH B0
 have hlt0 : Hid (w.heap.size < (w.alloc (.cells (madeCells (Value.agg #[.slice none 0 0, .slice none 0 0, .int .i64 0]).cells (n * 3)) 80)).heap.size) := by simp [Hid]
 clear hv B0
 go_enter Tryz.func38, Tryz.ntmps38
 go_wp2
 go_loopw [13] (fun x wr => ∃ k : Nat, x = .int .i64 (k : Int) ∧ k ≤ n ∧ Hid (EmS wr w.heap.size n) ∧ Hid (Below w.heap.size w wr) ∧ Hid (w.heap.size < wr.heap.size)) (fun x _ => n - (intOf x).toNat)
 case atStart => exact ⟨0, rfl, Nat.zero_le _, S0, HB0, hlt0⟩
 case round =>
  obtain ⟨k, rfl, hk, hE, hB, hL⟩ := hrel
  by_cases hlt : (k : Int) < (n : Int)
  ·have hkl : k < n := by omega
   obtain ⟨rs, hm, hr, hst⟩ := dU HV wr (dU hB)
   have hk' : k < rs.length := by have := congrArg List.length hm; simp at this; omega
   obtain ⟨b, off, rfl, hc⟩ := hr.ps hk'
   obtain ⟨c0, c1, c2⟩ := hc k hk'
   have em : rs[k].m = ⟨[], [], 0⟩ := by
    have h1 := List.mem_map_of_mem (f := Ps.m) (List.getElem_mem hk')
    rw [hm] at h1
    exact List.eq_of_mem_replicate h1
   have hs := hst _ (List.getElem_mem hk')
   unfold psVal at hs
   rw [em] at c0 c1 c2 hs
   generalize rs[k] = p at *
   obtain ⟨ka, kc, la, lc, pm⟩ := p
   simp only [List.length_nil] at c0 c1 c2 hs
   obtain ⟨x1, x2, e, ⟨-, y1, y2, e1, y3, -⟩, ⟨-, y4, y5, e2, y6, -⟩⟩ := hs
   simp only [Value.agg.injEq, Array.mk.injEq, List.cons.injEq, and_true] at e
   obtain ⟨rfl, rfl⟩ := e
   cases e1
   cases e2
   have CC := dH fun W => copiedE_any ka la kc lc W y3.2 y6.2
   have hB1 := dH (bT (dU hB) (ba wr (.cells #[.slice ka 0 kc, .slice la 0 lc, .int .i64 0] 80)))
   have hE1 : Hid (EmS (wr.alloc (.cells #[.slice ka 0 kc, .slice la 0 lc, .int .i64 0] 80)) w.heap.size n) := (dU hE).below (ba wr _)
   have hlt' := dU hL
   clear hr hst hm em y3 y6 hk' hc
   go_wp2_with (go_at_call 39; refine (dU CC _).mono ?_; rintro e w2 ⟨⟨a5, b5, c5, d5, rfl, q1, q2⟩, b2⟩; have hE2 := dH ((dU hE1).below b2); have hB2 := dH (bT (dU hB1) b2); obtain ⟨⟨z0, f0⟩, ⟨z1, f1⟩, ⟨z2, f2⟩⟩ := (dU hE2).at hkl; have hs2 := b2.size)
   go_roundw
   case rel => exact ⟨k + 1, by go_num, by omega, (dU hE2).put hkl a5 b5 c5 d5 q1 q2, (((dU hB2).setCell (p := ⟨w.heap.size, k * 3, none⟩) (Nat.le_refl _) _).setCell (p := ⟨w.heap.size, k * 3 + 1, none⟩) (Nat.le_refl _) _).setCell (p := ⟨w.heap.size, k * 3 + 2, none⟩) (Nat.le_refl _) _, by simp at hs2; simp [Hid]; omega⟩
   case measure => simp [intOf]; omega
  ·have ek : k = n := by omega
   clear HB0 S0
   go_wp2
   go_ret
   exact ⟨⟨_, rfl, Nat.le_refl _, dU hE⟩, dU hB⟩
set_option maxHeartbeats 4000000 in
theorem copiedRr_any (v : Value) (m : Rr) (w : World) (hv : RdReader v m w) (hl : m.out.length ≤ 1048576) :
  Calls Tryz.prog 46 #[v] w (AnsV w m) := by
 have ba : ∀ (w : World) o, Below w.heap.size w (w.alloc o) := fun w o => (Below.refl _ _).alloc (Nat.le_refl _) o
 obtain ⟨sv, rfl, h⟩ := hv
 have CV := dH fun W (hb : Below w.heap.size w W) => cloneV_any sv m.out W (RdEventS.below h hb) hl
 obtain ⟨ra, rc, rfl, -⟩ := formEventS h
 have GO : Hid (∀ (W : World) (a : Option Addr) (c : Nat), ApV W w.heap.size (.slice a m.out.length c) m.out → Below w.heap.size w W → AnsV w m (.returned (.agg #[.int .i64 m.epoch, .int .i64 m.off, .slice a m.out.length c])) W) := fun W a c h1 h2 => ⟨a, c, rfl, h1, h2⟩
 generalize AnsV w m = Q at *
 generalize m.epoch = y0 at *
 generalize m.off = y1 at *
 generalize m.out = ms at *
 clear h
 have X0 := (Bx.new w [.int .i64 y0, .int .i64 y1, .slice ra ms.length rc] 54).below (ba _ (.cells #[.int .i64 0, .int .i64 0, .slice none 0 0] 54))
 have Y0 := BxZ.new (B := w.heap.size) (w.alloc (.cells #[.int .i64 y0, .int .i64 y1, .slice ra ms.length rc] 54)) [.int .i64 0, .int .i64 0, .slice none 0 0] 54 (by simp)
 have B0 := bT (ba w (.cells #[.int .i64 y0, .int .i64 y1, .slice ra ms.length rc] 54)) (ba _ (.cells #[.int .i64 0, .int .i64 0, .slice none 0 0] 54))
 rw [show (w.alloc (.cells #[.int .i64 y0, .int .i64 y1, .slice ra ms.length rc] 54)).heap.size = w.heap.size + 1 from by simp] at Y0
 have e2 : Hid (((w.alloc (.cells #[.int .i64 y0, .int .i64 y1, .slice ra ms.length rc] 54)).alloc (.cells #[.int .i64 0, .int .i64 0, .slice none 0 0] 54)).heap.size = w.heap.size + 2) := by simp [Hid]
 go_enter Tryz.func46, Tryz.ntmps46
 go_upto_region 1 with fail
 generalize (w.alloc (.cells #[.int .i64 y0, .int .i64 y1, .slice ra ms.length rc] 54)).alloc (.cells #[.int .i64 0, .int .i64 0, .slice none 0 0] 54) = w0 at *
 have hs0 := dU e2
 have bd : Below w0.heap.size w0 w0.drew := (Below.refl _ _).drew
 have PX : Hid (∀ W, Below w0.heap.size w0 W → W.cell? ⟨w.heap.size, 0, none⟩ = some (.int .i64 y0) ∧ W.cell? ⟨w.heap.size, 1, none⟩ = some (.int .i64 y1) ∧ W.cell? ⟨w.heap.size, 2, none⟩ = some (.slice ra ms.length rc)) := fun W hW => ⟨X0.below hW 0 _ rfl, X0.below hW 1 _ rfl, X0.below hW 2 _ rfl⟩
 have PZ : Hid (∀ W, Below w0.heap.size w0 W → BxZ W w.heap.size (w.heap.size + 1) [.int .i64 0, .int .i64 0, .slice none 0 0]) := fun W hW => Y0.below hW
 have hne : w.heap.size ≠ w.heap.size + 1 := by omega
 have HNE := dH hne
 have hs1 : Hid (w.heap.size + 2 ≤ w0.drew.heap.size) := by have := bd.size; rw [Hid]; omega
 clear X0 Y0 hne e2 hs0
 go_wp2_with fail
 go_region_held3 (fun W => W.cell? ⟨w.heap.size, 0, none⟩ = some (.int .i64 y0) ∧ W.cell? ⟨w.heap.size, 1, none⟩ = some (.int .i64 y1) ∧ W.cell? ⟨w.heap.size, 2, none⟩ = some (.slice ra ms.length rc)) (first | exact dU PX _ b5' | exact dU PX _ bd | exact ⟨sO (sO (sO (dU PX _ b5').1 (.inl (dU HNE))) (.inl (dU HNE))) (.inl (dU HNE)), sO (sO (sO (dU PX _ b5').2.1 (.inl (dU HNE))) (.inl (dU HNE))) (.inl (dU HNE)), sO (sO (sO (dU PX _ b5').2.2 (.inl (dU HNE))) (.inl (dU HNE))) (.inl (dU HNE))⟩ | go_keep)
  (first
   | (go_at_call 98; refine (dU CV _ (bT B0 bd)).mono ?_; rintro e w5 ⟨⟨u5, rfl, O5⟩, b5⟩; obtain ⟨ua, uc, rfl⟩ := ApR.slice elemEvent O5; have b5' := bT bd b5; obtain ⟨z0, f0⟩ := (dU PZ _ b5').2 0 _ rfl; obtain ⟨z1, f1⟩ := (dU PZ _ b5').2 1 _ rfl; obtain ⟨z2, f2⟩ := (dU PZ _ b5').2 2 _ rfl; have HO5 := dH (O5.mono (dU hs1)); clear b5 O5))
 all_goals
  have YY := dH ((((dU PZ _ b5').put 0 (.int .i64 y0)).put 1 (.int .i64 y1)).put 2 (.slice ua ms.length uc))
  have OO := dH ((((dU HO5).far elemEvent (b := w.heap.size + 1) (o' := 0) (by omega) (.int .i64 y0)).far elemEvent (b := w.heap.size + 1) (o' := 1) (by omega) (.int .i64 y1)).far elemEvent (b := w.heap.size + 1) (o' := 2) (by omega) (.slice ua ms.length uc))
  have BB := dH ((((bT B0 b5').setCell (p := ⟨w.heap.size + 1, 0, none⟩) (by simp) (.int .i64 y0)).setCell (p := ⟨w.heap.size + 1, 1, none⟩) (by simp) (.int .i64 y1)).setCell (p := ⟨w.heap.size + 1, 2, none⟩) (by simp) (.slice ua ms.length uc))
  clear PX PZ HO5 CV
  go_wp2_with fail
  generalize (((w5.setCell ⟨w.heap.size + 1, 0, none⟩ (.int .i64 y0)).setCell ⟨w.heap.size + 1, 1, none⟩ (.int .i64 y1)).setCell ⟨w.heap.size + 1, 2, none⟩ (.slice ua ms.length uc)) = V at *
  have q0 := ((dU YY).2 0 _ rfl).1
  have q1 := ((dU YY).2 1 _ rfl).1
  have q2 := ((dU YY).2 2 _ rfl).1
  exact bodyPost_ret (v := .agg #[.int .i64 y0, .int .i64 y1, .slice ua ms.length uc]) (by simp [results, Tryz.results46, go_sem, q0, q1, q2]) rfl (dU GO V _ _ (ApR.mono (dU OO) (by omega)) (dU BB))
def EmR (W : World) (g n k : Nat) : Prop := ∃ f : Nat → Pd 3 Rr, RowG 3 Pd.c W g 0 n f ∧ ∀ i, (f i).m = newR ∧ (i < k → ∃ a c, (f i).c = [.int .i64 1, .int .i64 1, .slice a 0 c] ∧ c ≤ 9223372036854775807)
theorem EmR.below {W W' : World} {g n k : Nat} (h : EmR W g n k) (hb : Below W.heap.size W W') : EmR W' g n k := by
 obtain ⟨f, h1, h2⟩ := h
 exact ⟨f, h1.below hb, h2⟩
theorem EmR.rd {W : World} {g n : Nat} (h : EmR W g n n) (hn : n ≤ 1048576) : RdReaderS (.slice (some ⟨g, 0, none⟩) n n) (List.replicate n newR) W := by
 obtain ⟨f, h1, h2⟩ := h
 have hl : ((List.range n).map f).length = n := by simp
 have ho := h1.own (base := 0) (cap := n) (es := (List.range n).map f) hl.symm (fun i hi => by simp) (Nat.zero_le _) (by omega) (by omega)
 rw [hl] at ho
 refine ⟨(List.range n).map f, ?_, ho.rw, fun p hp => ?_⟩
 ·apply List.ext_getElem
  ·simp
  ·intro i q1 q2
   simp [(h2 i).1]
 ·obtain ⟨i, hi, rfl⟩ := List.mem_map.1 hp
  obtain ⟨e, k1⟩ := h2 i
  obtain ⟨a, c, ec, hc⟩ := k1 (List.mem_range.1 hi)
  unfold Pd.val
  rw [e, ec]
  exact ⟨_, rfl, ⟨by simp [newR], _, _, rfl, ⟨by simp [newR], hc⟩, .inl rfl⟩⟩
theorem EmR.at {W : World} {g n j k : Nat} (h : EmR W g n j) (hk : k < n) : (∃ v, W.cell? ⟨g, k * 3, none⟩ = some v ∧ W.frozen? ⟨g, k * 3, none⟩ = false) ∧ (∃ v, W.cell? ⟨g, k * 3 + 1, none⟩ = some v ∧ W.frozen? ⟨g, k * 3 + 1, none⟩ = false) ∧ ∃ v, W.cell? ⟨g, k * 3 + 2, none⟩ = some v ∧ W.frozen? ⟨g, k * 3 + 2, none⟩ = false := by
 obtain ⟨f, h1, -⟩ := h
 have hl := (f k).l
 have q0 := h1 k hk 0 _ (List.getElem?_eq_getElem (by omega))
 have q1 := h1 k hk 1 _ (List.getElem?_eq_getElem (by omega))
 have q2 := h1 k hk 2 _ (List.getElem?_eq_getElem (by omega))
 simp only [Nat.zero_add, Nat.add_zero] at q0 q1 q2
 exact ⟨⟨_, q0⟩, ⟨_, q1⟩, ⟨_, q2⟩⟩
theorem EmR.put {W : World} {g n k : Nat} (h : EmR W g n k) (hk : k < n) (a : Option Addr) (c : Nat) (b1 : c ≤ 9223372036854775807) :
  EmR (((W.setCell ⟨g, k * 3, none⟩ (.int .i64 1)).setCell ⟨g, k * 3 + 1, none⟩ (.int .i64 1)).setCell ⟨g, k * 3 + 2, none⟩ (.slice a 0 c)) g n (k + 1) := by
 obtain ⟨f, h1, h2⟩ := h
 have r := RowG.putAll hk ⟨[.int .i64 1, .int .i64 1, .slice a 0 c], rfl, newR⟩ [.int .i64 1, .int .i64 1, .slice a 0 c] 0 W f h1 rfl (by simp)
 simp only [setAll, Nat.zero_add, Nat.add_zero] at r
 refine ⟨_, r, fun i => ?_⟩
 unfold putG
 split
 ·exact ⟨rfl, fun _ => ⟨a, c, rfl, b1⟩⟩
 ·exact ⟨(h2 i).1, fun hi => (h2 i).2 (by omega)⟩
theorem copiedR0_any (a : Option Addr) (c : Nat) (w : World) (b1 : c ≤ 9223372036854775807) :
  Calls Tryz.prog 46 #[.agg #[.int .i64 1, .int .i64 1, .slice a 0 c]] w fun e w' => (∃ b d, e = .returned (.agg #[.int .i64 1, .int .i64 1, .slice b 0 d]) ∧ d ≤ 9223372036854775807) ∧ Below w.heap.size w w' := by
 refine (copiedRr_any (.agg #[.int .i64 1, .int .i64 1, .slice a 0 c]) ⟨1, 1, []⟩ w ⟨_, rfl, ⟨by simp, _, _, rfl, ⟨by simp, b1⟩, .inl rfl⟩⟩ (by simp)).mono ?_
 intro e w1 h
 obtain ⟨b, d, rfl, h1, hb⟩ := h
 obtain ⟨-, b', d', ex, hd, -⟩ := ApR.own elemEvent h1
 cases ex
 exact ⟨⟨b, d, rfl, hd.2⟩, hb⟩
set_option maxHeartbeats 8000000 in
theorem copiedReaders_any (v : Value) (n : Nat) (w : World) (hv : RdReaderS v (List.replicate n newR) w) (hn : n ≤ 1048576) :
  Calls Tryz.prog 45 #[v, .func (.func 46) #[] #[]] w fun e w' => (∃ g, e = .returned (.slice (some ⟨g, 0, none⟩) n n) ∧ w.heap.size ≤ g ∧ EmR w' g n n) ∧ Below w.heap.size w w' := by
 have ba : ∀ (w : World) o, Below w.heap.size w (w.alloc o) := fun w o => (Below.refl _ _).alloc (Nat.le_refl _) o
 have HV := dH fun W (hb : Below w.heap.size w W) => RdReaderS.below hv hb
 obtain ⟨a, cap, rfl, -⟩ := formD hv
 rw [List.length_replicate] at *
 have hmk := makeReaderS n (by omega)
 have S0 : Hid (EmR (w.alloc (.cells (madeCells (Value.agg #[.int .i64 0, .int .i64 0, .slice none 0 0]).cells (n * 3)) 54)) w.heap.size n 0) := ⟨fun _ => ⟨[.int .i64 0, .int .i64 0, .slice none 0 0], rfl, newR⟩, RowG.made (cl := Pd.c) w _ n _ ⟨[.int .i64 0, .int .i64 0, .slice none 0 0], rfl, newR⟩ rfl (fun j u hu => by
  have e : (Value.agg #[.int .i64 0, .int .i64 0, .slice none 0 0]).cells = #[.int .i64 0, .int .i64 0, .slice none 0 0] := by kernel_rfl
  rw [e]
  simpa using hu), fun i => ⟨rfl, fun h => by omega⟩⟩
 have B0 := ba w (.cells (madeCells (Value.agg #[.int .i64 0, .int .i64 0, .slice none 0 0]).cells (n * 3)) 54)
 have HB0 := dH B0
 have hlt0 : Hid (w.heap.size < (w.alloc (.cells (madeCells (Value.agg #[.int .i64 0, .int .i64 0, .slice none 0 0]).cells (n * 3)) 54)).heap.size) := by simp [Hid]
 clear hv B0
 go_enter Tryz.func45, Tryz.ntmps45
 go_wp2
 go_loopw [13] (fun x wr => ∃ k : Nat, x = .int .i64 (k : Int) ∧ k ≤ n ∧ Hid (EmR wr w.heap.size n k) ∧ Hid (Below w.heap.size w wr) ∧ Hid (w.heap.size < wr.heap.size)) (fun x _ => n - (intOf x).toNat)
 case atStart => exact ⟨0, rfl, Nat.zero_le _, S0, HB0, hlt0⟩
 case round =>
  obtain ⟨k, rfl, hk, hE, hB, hL⟩ := hrel
  by_cases hlt : (k : Int) < (n : Int)
  ·have hkl : k < n := by omega
   obtain ⟨rs, hm, hr, hst⟩ := dU HV wr (dU hB)
   have hk' : k < rs.length := by have := congrArg List.length hm; simp at this; omega
   obtain ⟨b, off, rfl, hc⟩ := hr.pd hk'
   have em : rs[k].m = newR := by
    have h1 := List.mem_map_of_mem (f := Pd.m) (List.getElem_mem hk')
    rw [hm] at h1
    exact List.eq_of_mem_replicate h1
   have hs := hst _ (List.getElem_mem hk')
   have hc' := hc k hk'
   rw [em] at hs
   generalize rs[k] = p at *
   obtain ⟨pc, pl, pm⟩ := p
   obtain ⟨x1, e, h3⟩ := hs
   simp only [Pd.val, Value.agg.injEq] at e
   have e' : pc = [.int .i64 1, .int .i64 1, x1] := by
    have := congrArg Array.toList e
    simpa [newR] using this
   subst e'
   obtain ⟨-, y1, y2, rfl, y3, -⟩ := id h3
   have c0 := hc' 0 _ rfl
   have c1 := hc' 1 _ rfl
   have c2 := hc' 2 _ rfl
   simp only [newR, List.length_nil, Nat.add_zero] at c0 c1 c2 h3 y3
   have CC := dH fun W => copiedR0_any y1 y2 W y3.2
   have hba := ba wr (.cells #[.int .i64 1, .int .i64 1, .slice y1 0 y2] 54)
   have hB1 := dH (bT (dU hB) hba)
   have hE1 : Hid (EmR (wr.alloc (.cells #[.int .i64 1, .int .i64 1, .slice y1 0 y2] 54)) w.heap.size n k) := (dU hE).below (ba wr _)
   have hlt' := dU hL
   clear hr hst hm em y3 hk' hc hc' e h3
   go_wp2_with (go_at_call 46; refine (dU CC _).mono ?_; rintro e w2 ⟨⟨a5, c5, rfl, q2⟩, b2⟩; have hE2 := dH ((dU hE1).below b2); have hB2 := dH (bT (dU hB1) b2); obtain ⟨⟨z0, f0⟩, ⟨z1, f1⟩, ⟨z2, f2⟩⟩ := (dU hE2).at hkl; have hs2 := b2.size)
   go_roundw
   case rel => exact ⟨k + 1, by go_num, by omega, (dU hE2).put hkl _ _ q2, (((dU hB2).setCell (p := ⟨w.heap.size, k * 3, none⟩) (Nat.le_refl _) _).setCell (p := ⟨w.heap.size, k * 3 + 1, none⟩) (Nat.le_refl _) _).setCell (p := ⟨w.heap.size, k * 3 + 2, none⟩) (Nat.le_refl _) _, by simp at hs2; simp [Hid]; omega⟩
   case measure => simp [intOf]; omega
  ·have ek : k = n := by omega
   subst ek
   clear HB0 S0
   go_wp2
   go_ret
   exact ⟨⟨_, rfl, Nat.le_refl _, dU hE⟩, dU hB⟩
theorem copiedWriters0_any (a : Option Addr) (c : Nat) (w : World) :
  Calls Tryz.prog 41 #[.slice a 0 c, .func (.func 42) #[] #[]] w fun e w' => (∃ b d, e = .returned (.slice b 0 d) ∧ d ≤ 9223372036854775807) ∧ Below w.heap.size w w' := by
 have hmk : ∀ W, (Instr.makeSlice 32 (.int .i64 0) (.int .i64 0)).run Tryz.prog W = .ok (.slice (some ⟨W.heap.size, 0, none⟩) 0 0) (W.alloc (.cells (madeCells (Value.agg #[.int .i64 0, .slice none 0 0]).cells (0 * 2)) 70)) := fun W => makeWriterS 0 (by omega) W
 have B0 := (Below.refl w.heap.size w).alloc (Nat.le_refl _) (.cells (madeCells (Value.agg #[.int .i64 0, .slice none 0 0]).cells (0 * 2)) 70)
 have HB := dH B0
 clear B0
 go_enter Tryz.func41, Tryz.ntmps41
 go_wp2
 go_loopw [13] (fun x wr => x = .int .i64 0 ∧ Hid (Below w.heap.size w wr)) (fun x _ => 0)
 case atStart => exact ⟨rfl, HB⟩
 case round =>
  obtain ⟨rfl, hB⟩ := hrel
  go_wp2
  go_ret
  exact ⟨⟨_, _, rfl, by simp⟩, dU hB⟩
theorem copiedMends0_any (a : Option Addr) (c : Nat) (w : World) :
  Calls Tryz.prog 43 #[.slice a 0 c, .func (.func 44) #[] #[]] w fun e w' => (∃ b d, e = .returned (.slice b 0 d) ∧ d ≤ 9223372036854775807) ∧ Below w.heap.size w w' := by
 obtain ⟨zc, hmk⟩ : ∃ zc, ∀ W, (Instr.makeSlice 33 (.int .i64 0) (.int .i64 0)).run Tryz.prog W = .ok (.slice (some ⟨W.heap.size, 0, none⟩) 0 0) (W.alloc (.cells (madeCells zc (0 * 6)) 90)) := ⟨_, fun W => makeMendS 0 (by omega) W⟩
 have B0 := (Below.refl w.heap.size w).alloc (Nat.le_refl _) (.cells (madeCells zc (0 * 6)) 90)
 have HB := dH B0
 clear B0
 go_enter Tryz.func43, Tryz.ntmps43
 go_wp2
 go_loopw [13] (fun x wr => x = .int .i64 0 ∧ Hid (Below w.heap.size w wr)) (fun x _ => 0)
 case atStart => exact ⟨rfl, HB⟩
 case round =>
  obtain ⟨rfl, hB⟩ := hrel
  go_wp2
  go_ret
  exact ⟨⟨_, _, rfl, by simp⟩, dU hB⟩
theorem cloneSe0_any (v : Value) (w : World) (hv : RdSentS v [] w) :
  Calls Tryz.prog 47 #[v] w fun e w' => (∃ b d, e = .returned (.slice b 0 d) ∧ d ≤ 9223372036854775807) ∧ Below w.heap.size w w' := by
 have HV := dH fun W (hb : Below w.heap.size w W) => Rw.below hv hb
 obtain ⟨-, a, cap, rfl, hcap, hc⟩ := id hv
 simp only [List.length_nil] at *
 cases a with
 | none =>
  have hnil : ∀ w, (binOp .eql 35 (.slice none 0 cap) (.slice none 0 0)).run Tryz.prog w = .ok (.bool true) w := fun w => Go.Lib.run_eql_slice_nil w 35 97 none _ _ 0 0 Tryz.underlying35
  clear hv HV hc
  go_enter Tryz.func47, Tryz.ntmps47
  go_wp2
  go_ret
  exact ⟨⟨_, _, rfl, by simp⟩, Below.refl _ _⟩
 | some ad =>
  have B1 := (Below.refl w.heap.size w).alloc (Nat.le_refl _) (.cells #[] 97)
  have hN := dU HV _ B1
  have hnil : ∀ w, (binOp .eql 35 (.slice (some ad) 0 cap) (.slice none 0 0)).run Tryz.prog w = .ok (.bool false) w := fun w => Go.Lib.run_eql_slice_nil w 35 97 (some ad) _ _ 0 0 Tryz.underlying35
  clear hv HV hc
  go_enter Tryz.func47, Tryz.ntmps47
  go_wp2_with (at_builtin; refine wp_cpR elemSent rfl _ _ rfl _ rfl _ [] rfl hN (by simp) ?_; intro u w2 O2 b2)
  obtain ⟨-, b, d, rfl, hd, -⟩ := ApR.own elemSent O2
  go_ret
  exact ⟨⟨_, _, rfl, hd.2⟩, bT B1 b2⟩
theorem newWo_P {ds : List Int} {cop : Int} (h : cfgP ds cop) : woP ⟨(ds, cop), List.replicate ds.length ⟨[], [], 0⟩, [], ⟨[], 0⟩, [], [], [⟨1, 1, []⟩, ⟨1, 1, []⟩], [], false⟩ := by
 have h1 := h.2.1.1
 refine ⟨⟨h, by simp, ⟨h, fun i hi => by simp at hi⟩, fun hh => ?_, fun i hi => ?_⟩, ⟨⟨h, by simp, .inl rfl, fun i hi => by simp at hi⟩, by simp, by simp, fun i hi => by simp at hi, fun i hi => by simp at hi⟩, ⟨rfl, fun x hx => ?_⟩, by simp, fun i hi => by simp at hi⟩
 ·have := hh.2
  simp [spanN, domsOf] at this
  omega
 ·have e : (List.replicate ds.length (⟨[], [], 0⟩ : St))[i]'hi = ⟨[], [], 0⟩ := List.getElem_replicate _
  refine ⟨?_, fun hm => by simp at hm⟩
  show stP ((List.replicate ds.length (⟨[], [], 0⟩ : St))[i]'hi)
  rw [e]
  simp [stP, listP, ascE]
 ·simp at hx
  subst hx
  simp [rrP]
def fitAw (a : Aw) : Prop := (-9223372036854775808 ≤ a.node ∧ a.node ≤ 9223372036854775807) ∧ a.ent.fits
theorem CopyInvN.below {w wr wr' : World} {g k : Nat} {bs : List Int} (h : CopyInvN w wr g k bs) (hb : Below wr.heap.size wr wr') : CopyInvN w wr' g k bs := by
 obtain ⟨h1, h2, h3, h4, h5⟩ := h
 refine ⟨fun i hi => ?_, h2, bT h3 hb, h4, Nat.lt_of_lt_of_le h5 hb.size⟩
 obtain ⟨c, c1, c2, c3⟩ := h1 i hi
 exact ⟨c, (hb.cell (p := ⟨g, i, none⟩) h5).trans c1, c2, (hb.frozen (p := ⟨g, i, none⟩) h5).trans c3⟩
set_option maxHeartbeats 2000000 in
theorem answeringNodes_any (v : Value) (l : List Aw) (w : World) (hv : RdAnswerS v l w) (hl : l.length ≤ 1048576) :
  Calls Tryz.prog 222 #[v] w fun e w' => (∃ u, e = .returned u ∧ OwnN w' w.heap.size u (l.map Aw.node)) ∧ Below w.heap.size w w' := by
 have HV := dH fun W (hb : Below w.heap.size w W) => RdAnswerS.below hv hb
 obtain ⟨a, cap, rfl, -⟩ := formAnswerS hv
 have hmk := makeN l.length (by omega)
 have hlm : (l.map Aw.node).length = l.length := List.length_map ..
 have HLM := dH hlm
 have ST : Hid (CopyInvN w (w.alloc (.cells (zerosN l.length) 3)) w.heap.size 0 (l.map Aw.node)) := by
  have := CopyInvN.start (w := w) (bs := l.map Aw.node)
  rw [hlm] at this
  exact this
 clear hv hlm
 go_enter Tryz.func222, Tryz.ntmps222
 go_wp2
 go_loopw [11] (fun x wr => ∃ k : Nat, x = .int .i64 (k : Int) ∧ k ≤ l.length ∧ Hid (CopyInvN w wr w.heap.size k (l.map Aw.node))) (fun x _ => l.length - (intOf x).toNat)
 case atStart => exact ⟨0, rfl, Nat.zero_le _, ST⟩
 case round =>
  obtain ⟨k, rfl, hk, hinv⟩ := hrel
  by_cases hlt : (k : Int) < (l.length : Int)
  ·have hkl : k < l.length := by omega
   have hb := (dU hinv).2.2.1
   obtain ⟨b, off, rfl, hc⟩ := (dU HV wr hb).atAw hkl
   obtain ⟨c0, c1, c2, c3, c4, c5⟩ := hc k hkl
   have hkm : k < (l.map Aw.node).length := by rw [dU HLM]; exact hkl
   have ek : l[k].node = (l.map Aw.node)[k] := by rw [List.getElem_map]
   have EK := dH ek
   clear ek hc
   generalize hy : l[k] = y at *
   obtain ⟨y0, y1, ⟨y2, y3, y4, y5⟩⟩ := y
   simp only at c0 c1 c2 c3 c4 c5 EK
   clear hy
   have bA := (Below.refl wr.heap.size wr).alloc (Nat.le_refl _) (.cells #[.int .i64 y0, .bool y1, .int .i64 y2, .int .i64 y3, .bool y4, .string y5] 248)
   have I1 : Hid (CopyInvN w (wr.alloc (.cells #[.int .i64 y0, .bool y1, .int .i64 y2, .int .i64 y3, .bool y4, .string y5] 248)) w.heap.size k (l.map Aw.node)) := (dU hinv).below bA
   obtain ⟨⟨c, c9⟩, f9⟩ := CopyInvN.now I1 hkm
   have I2 := dH ((CopyInvN.step hinv hkm (dU EK)).below ((Below.refl _ _).alloc (Nat.le_refl _) (.cells #[.int .i64 y0, .bool y1, .int .i64 y2, .int .i64 y3, .bool y4, .string y5] 248)))
   have hlt0 := (dU hinv).2.2.2.2
   clear hinv I1 hb EK bA
   go_wp2
   go_roundw
   case rel => exact ⟨k + 1, by go_num, by omega, I2⟩
   case measure => simp [intOf]; omega
  ·have ek : k = (l.map Aw.node).length := by rw [dU HLM]; omega
   rw [ek] at hinv
   have O := CopyInvN.done hinv (by rw [dU HLM]; omega)
   have hb := (dU hinv).2.2.1
   rw [dU HLM] at O
   have HO := dH O
   clear hinv ek O
   go_wp2
   go_ret
   exact ⟨⟨_, rfl, dU HO⟩, hb⟩
theorem sizNew (ds : List Int) (cop : Int) (h : ds.length ≤ 8) : sizWorld (newW ds cop) ≤ 1048576 := by
 have e : ∀ n, sizStoreS (List.replicate n ⟨[], [], 0⟩) = n := fun n => by
  unfold sizStoreS
  have : ∀ n, sumS (List.replicate n ⟨[], [], 0⟩) = 0 := fun n => by
   induction n with
   | zero => rfl
   | succ n ih => rw [List.replicate_succ]; simp [sumS, sizStore, sizEntryS, sumD] at *
  simp [this]
 unfold sizWorld newW
 simp only [e]
 simp [sizConfig, sizIntS, sizRegister, sizEraS, sumN, sizWriterS, sizMendS, sizReaderS, sizD, sumPd, sizSentS, sizReader, sizEventS, newR, sumEv, sumSe]
 omega
theorem okNew (ds : List Int) (cop : Int) (h : okConfig (ds, cop)) : okWorld (newW ds cop) :=
 ⟨h, fun m hm => by
  obtain rfl := List.eq_of_mem_replicate hm
  exact ⟨by simp [fitE], by simp [fitE], by simp⟩, fun x hx => by simp [newW] at hx, ⟨fun e he => by simp [newW] at he, by simp [newW]⟩, fun x hx => by simp [newW] at hx, fun x hx => by simp [newW] at hx, fun x hx => by
  simp only [newW, List.mem_cons, List.not_mem_nil, or_false] at hx
  have e : x = newR := by rcases hx with h | h <;> exact h
  subst e
  exact ⟨by simp [okInt, newR], by simp [okInt, newR], fun e he => by simp [newR] at he⟩, fun x hx => by simp [newW] at hx⟩
theorem allNew (ds : List Int) (cop : Int) (h : cfgP ds cop) : allP (newW ds cop) := by
 have hw : woP (newW ds cop) := newWo_P h
 have he : ∀ r ∈ (newW ds cop).readers, r = newR := fun x hx => by
  simp only [newW, List.mem_cons, List.not_mem_nil, or_false] at hx
  rcases hx with h | h <;> exact h
 refine ⟨⟨hw, fun r hr => ?_⟩, ⟨hw, fun r hr => ?_⟩, ⟨hw, .inr fun r hr => ?_⟩, ⟨hw, .inr fun r hr => ?_⟩, ⟨hw, .inr ⟨newR, newR, rfl, ?_, ?_⟩⟩⟩
 ·rw [he r hr]
  simp [ordR, newR, evK, ascV]
 ·rw [he r hr]
  intro e h
  simp [newR, evK] at h
 ·intro s hs
  simp [newW] at hs
 ·rw [he r hr]
  intro e h
  simp [newR] at h
 ·intro e h
  simp [newR, evK] at h
 ·intro e h
  simp [newR, evK] at h
end Go.Proofs.YtodfgehicpejgaaGreatDoor
