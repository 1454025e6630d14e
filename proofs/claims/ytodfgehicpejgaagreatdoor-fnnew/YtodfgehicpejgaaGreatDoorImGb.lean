/- impl's: isOk, hasPlace, inOrder, RegOk. -/
import Derived.Test.YtodfgehicpejgaaGreatDoorGk149
import Derived.Test.YtodfgehicpejgaaGreatDoorGk175
import Derived.Test.YtodfgehicpejgaaGreatDoorGk178
import Derived.Test.YtodfgehicpejgaaGreatDoorGk185
import Derived.Deep.RegionHeld3
import Derived.Deep.DeepCutAuto
namespace Go.Proofs.YtodfgehicpejgaaGreatDoor
open Go.ChangeShapes Go.WideShapes Go.ChangeAt Go.RowKit
set_option linter.unusedVariables false
set_option linter.unusedSimpArgs false
set_option maxRecDepth 100000

def erO (ds : List Int) (cop : Int) (y : Er) : Prop := holdsP ds cop y.nodes ∧ (0 ≤ y.last ∧ y.last ≤ 60) ∧ (y.closed = false → y.last = 0)
set_option maxHeartbeats 4000000 in
theorem isOk_any (p : Nst Er) (sc : Value) (ds : List Int) (cop : Int) (w : World) (hc : Ns w sc ds) (hn : Ns w (Sv Er.nodes p) p.m.nodes) (had : allInt ds) (hld : ds.length ≤ 1048576) (c0 : -9223372036854775808 ≤ cop) (c1 : cop ≤ 9223372036854775807) (hf : fitEr p.m) (hlx : p.m.nodes.length ≤ 1048576) :
  Calls Tryz.prog 147 #[.agg #[.slice p.a p.m.nodes.length p.c, .bool p.m.closed, .int .i64 p.m.last], .agg #[sc, .int .i64 cop]] w fun e w' => RetB (erO ds cop p.m) e ∧ Below w.heap.size w w' := by
 have CH := dH fun W (hb : Below w.heap.size w W) => implHolds_any sc (Sv Er.nodes p) ds p.m.nodes cop W (hc.below hb) (hn.below hb) had hf.1 hld hlx c0 c1
 obtain ⟨pa, pc, yn, yb, yl⟩ := p
 obtain ⟨-, l0, l1⟩ := hf
 unfold Sv at CH
 simp only at *
 have PD : Hid (erO ds cop ⟨yn, yb, yl⟩ ↔ holdsP ds cop yn ∧ (0 ≤ yl ∧ yl ≤ 60) ∧ (yb = false → yl = 0)) := Iff.rfl
 generalize erO ds cop ⟨yn, yb, yl⟩ = P at *
 obtain ⟨-, ca, cc, rfl, -, -⟩ := hc
 clear hn
 have ba : ∀ (w : World) o, Below w.heap.size w (w.alloc o) := fun w o => (Below.refl _ _).alloc (Nat.le_refl _) o
 have B0 := bT (ba w (.cells #[.slice pa yn.length pc, .bool yb, .int .i64 yl] 137)) (ba _ (.cells #[.slice ca ds.length cc, .int .i64 cop] 26))
 have X0 := (Bx.new w [.slice pa yn.length pc, .bool yb, .int .i64 yl] 137).below (ba _ (.cells #[.slice ca ds.length cc, .int .i64 cop] 26))
 have x0 := X0 0 _ rfl
 have x1 := X0 1 _ rfl
 have x2 := X0 2 _ rfl
 clear X0
 by_cases h1 : yl < 0
 ·have R : RetB P (.returned (.bool false)) := RetB.no fun h => by have := ((dU PD).1 h).2.1; omega
  clear PD CH
  go_enter Tryz.func147, Tryz.ntmps147
  go_wp2
  go_ret
  exact ⟨R, B0⟩
 by_cases h2 : 60 < yl
 ·have R : RetB P (.returned (.bool false)) := RetB.no fun h => by have := ((dU PD).1 h).2.1; omega
  clear PD CH
  go_enter Tryz.func147, Tryz.ntmps147
  go_wp2
  go_ret
  exact ⟨R, B0⟩
 have FIN : (yb = false → yl = 0) → ∀ b : Bool, (b = true ↔ holdsP ds cop yn) → RetB P (.returned (.bool b)) := fun h3 b hb => ⟨b, rfl, fun h => (dU PD).2 ⟨hb.1 h, by omega, h3⟩, fun h => hb.2 ((dU PD).1 h).1⟩
 cases yb with
 | true =>
  replace FIN := dH (FIN fun h => by cases h)
  clear PD
  go_enter Tryz.func147, Tryz.ntmps147
  go_wp2_with fail
  refine (dU CH _ B0).mono ?_
  rintro e w1 ⟨⟨b1, rfl, hb1⟩, bl⟩
  have R := dH (dU FIN b1 hb1)
  have B1 := bT B0 bl
  clear CH FIN bl hb1 B0 x0 x1 x2 
  go_wp2
  go_ret
  exact ⟨dU R, B1⟩
 | false =>
  by_cases h3 : yl = 0
  ·replace FIN := dH (FIN fun _ => h3)
   subst h3
   clear PD
   go_enter Tryz.func147, Tryz.ntmps147
   go_wp2_with fail
   refine (dU CH _ B0).mono ?_
   rintro e w1 ⟨⟨b1, rfl, hb1⟩, bl⟩
   have R := dH (dU FIN b1 hb1)
   have B1 := bT B0 bl
   clear CH FIN bl hb1 B0 x0 x1 x2
   go_wp2
   go_ret
   exact ⟨dU R, B1⟩
  ·have R : RetB P (.returned (.bool false)) := RetB.no fun h => h3 (((dU PD).1 h).2.2 rfl)
   have hbn : (yl != 0) = true := by simp [h3]
   clear PD CH FIN
   go_enter Tryz.func147, Tryz.ntmps147
   go_wp2
   go_ret
   exact ⟨R, B0⟩
def epO (x : Int) : Int := if 0 < x ∧ 1 ≤ x / 4294967296 ∧ x / 4294967296 ≤ 30 ∧ 1 ≤ x % 4294967296 ∧ x % 4294967296 ≤ 60 then x / 4294967296 else 0
theorem implEpoch_any (x : Int) (ok : okInt x) (w : World) : Calls Tryz.prog 161 #[.int .i64 x] w fun e w' => e = .returned (.int .i64 (epO x)) ∧ Below w.heap.size w w' := by
 by_cases h : isPl x
 ·have e : epO x = x / 4294967296 := if_pos h
  rw [e]
  exact implEpoch_yes x h w
 ·have e : epO x = 0 := if_neg h
  rw [e]
  exact implEpoch_no x ok.1 ok.2 h w
theorem epO_in (n : Nat) (x : Int) : (1 ≤ epO x ∧ epO x ≤ (n : Int)) ↔ plIn n x := by
 unfold plIn
 by_cases h : isPl x
 ·have e : epO x = x / 4294967296 := if_pos h
  rw [e]
  exact ⟨fun q => ⟨h, q.2⟩, fun q => ⟨h.2.1, q.2⟩⟩
 ·have e : epO x = 0 := if_neg h
  rw [e]
  exact ⟨fun q => by omega, fun q => absurd q.1 h⟩
theorem epO_int (x : Int) : okInt (epO x) := by
 unfold epO okInt
 split <;> omega
set_option maxHeartbeats 2000000 in
theorem hasPlace_any (v : Value) (m : Rg) (x : Int) (w : World) (hv : RdRegister v m w) (ok : okInt x) (hs : m.eras.length ≤ 1048576) :
  Calls Tryz.prog 87 #[v, .int .i64 x] w fun e w' => RetB (plIn m.eras.length x) e ∧ Below w.heap.size w w' := by
 have CE := dH fun W => implEpoch_any x ok W
 have CH := dH fun W (hb : Below w.heap.size w W) => hasEpoch_any v m (epO x) W (hv.below hb) (epO_int x) hs
 have PD := dH (epO_in m.eras.length x)
 obtain ⟨a, cap, rfl, -⟩ := formRegister hv
 have ba : ∀ (w : World) o, Below w.heap.size w (w.alloc o) := fun w o => (Below.refl _ _).alloc (Nat.le_refl _) o
 generalize m.trim = tr at *
 generalize epO x = ep at *
 have B0 := ba w (.cells #[.slice a m.eras.length cap, .int .i64 tr] 31)
 have X0 := Bx.new w [.slice a m.eras.length cap, .int .i64 tr] 31
 clear hv
 go_enter Tryz.func87, Tryz.ntmps87
 go_wp2_with fail
 generalize w.alloc (.cells #[.slice a m.eras.length cap, .int .i64 tr] 31) = w0 at *
 have k0 := X0 0 _ rfl
 have k1 := X0 1 _ rfl
 have HX := dH X0
 have hbr := Below.refl w0.heap.size w0
 clear X0
 go_region_held3 (fun W => W.cell? ⟨w.heap.size, 0, none⟩ = some (.slice a m.eras.length cap) ∧ W.cell? ⟨w.heap.size, 1, none⟩ = some (.int .i64 tr)) (go_keep)
  (first
   | (go_at_call 161; refine (dU CE _).mono ?_; rintro e w1 ⟨rfl, b1⟩; have hb1 := bT hbr.drew b1; have q0 := (dU HX).below hb1 0 _ rfl; have q1 := (dU HX).below hb1 1 _ rfl)
   | (go_at_call 75; refine (dU CH _ (bT B0 hb1)).mono ?_; rintro e w2 ⟨⟨b2, rfl, hh⟩, bl2⟩; have hb2 := bT hb1 bl2; have q0 := (dU HX).below hb2 0 _ rfl; have q1 := (dU HX).below hb2 1 _ rfl; have R := dH (show RetB (plIn m.eras.length x) (.returned (.bool b2)) from ⟨b2, rfl, hh.trans (dU PD)⟩); clear hh))
 all_goals
  go_wp2
  go_ret
  exact ⟨dU R, bT B0 hb2⟩
theorem inOrderFn (p : Nst Er) (w : World) : Calls Tryz.prog 232 #[.agg #[.slice p.a p.m.nodes.length p.c, .bool p.m.closed, .int .i64 p.m.last]] w fun e w' => e = .returned (.bool p.m.closed) ∧ Below w.heap.size w w' := by
 obtain ⟨pa, pc, yn, yb, yl⟩ := p
 simp only at *
 go_enter Tryz.func232, Tryz.ntmps232
 go_wp2
 go_ret
 exact ⟨rfl, (Below.refl _ _).alloc (Nat.le_refl _) _⟩
theorem containsFunc_any (v : Value) (rs : List (Nst Er)) (F : Nat) (caps : Array Value) (q : Er → Bool) (w : World) (hF : ∀ args w, (callFunc F args).run Tryz.prog w = .ok (.enter F args) w) (hr : Rw 3 erCl w v rs) (hl : rs.length ≤ 1048576)
  (hq : ∀ W, Below w.heap.size w W → ∀ k (hk : k < rs.length), Calls Tryz.prog F (#[.agg #[.slice rs[k].a rs[k].m.nodes.length rs[k].c, .bool rs[k].m.closed, .int .i64 rs[k].m.last]] ++ caps) W fun e w' => e = .returned (.bool (q rs[k].m)) ∧ Below W.heap.size W w') :
  Calls Tryz.prog 145 #[v, .func (.func F) #[] caps] w fun e w' => RetB (∃ e ∈ rs.map Nst.m, q e = true) e ∧ Below w.heap.size w w' := by
 have C1 := dH (indexFunc_any v rs F caps q w hF hr hq)
 have hg := idxQ_ge q (rs.map Nst.m)
 have R : Hid (RetB (∃ e ∈ rs.map Nst.m, q e = true) (.returned (.bool (decide (0 ≤ idxQ q (rs.map Nst.m)))))) := ⟨_, rfl, by
  rw [decide_eq_true_iff]
  constructor
  ·intro h
   apply Classical.byContradiction
   intro hno
   have : idxQ q (rs.map Nst.m) = -1 := idxQ_neg.2 fun e he => by
    cases hqe : q e with
    | false => rfl
    | true => exact absurd ⟨e, he, hqe⟩ hno
   omega
  ·rintro ⟨e, he, hqe⟩
   apply Classical.byContradiction
   intro hno
   have h1 : idxQ q (rs.map Nst.m) = -1 := by omega
   have := idxQ_neg.1 h1 e he
   rw [hqe] at this
   cases this⟩
 have hl2 : (rs.map Nst.m).length ≤ 1048576 := by simpa using hl
 generalize (rs.map Nst.m).length = n at *
 generalize idxQ q (rs.map Nst.m) = M at *
 clear hF hr hq
 go_enter Tryz.func145, Tryz.ntmps145
 go_wp2_with fail
 refine (dU C1).mono ?_
 rintro e w1 ⟨rfl, b1⟩
 clear C1
 go_wp2
 go_ret
 exact ⟨dU R, b1⟩
def ordP (ms : List Er) : Prop := ∀ i (h : i < ms.length), ms[i].closed = true → i + 1 ≠ ms.length ∧ (0 < i → prevC ms i = true)
theorem prevC_at {ms : List Er} {i : Nat} (h : i < ms.length) : prevC ms (i + 1) = ms[i].closed := by
 unfold prevC
 rw [Nat.add_sub_cancel, getD_lt _ h]
theorem ord_after {ms : List Er} (h : ordP ms) {k : Nat} (hk : k < ms.length) (ho : ms[k].closed = false) : ∀ d (hd : k + d < ms.length), ms[k + d].closed = false
 | 0, hd => ho
 | d + 1, hd => by
  have ih := ord_after h hk ho d (by omega)
  cases hc : ms[k + (d + 1)].closed with
  | false => rfl
  | true =>
   have h1 := (h (k + (d + 1)) hd hc).2 (by omega)
   have e : prevC ms (k + d + 1) = ms[k + d].closed := prevC_at (by omega)
   have h2 : prevC ms (k + d + 1) = true := h1
   rw [e, ih] at h2
   cases h2
theorem ord_zero {ms : List Er} (h0 : firstO ms = 0) : ordP ms ↔ ms.length = 0 := by
 constructor
 ·intro h
  apply Classical.byContradiction
  intro hn
  have hl := firstO_zero h0 (ms.length - 1) (by omega)
  have := (h (ms.length - 1) (by omega) hl).1
  omega
 ·intro h i hi
  omega
theorem ord_pos {ms : List Er} (h0 : firstO ms ≠ 0) : ordP ms ↔ ¬ ∃ e ∈ ms.drop (firstO ms), e.closed = true := by
 obtain ⟨k, hk, e1, e2, e3⟩ := firstO_pos h0
 rw [e1]
 constructor
 ·rintro h ⟨e, he, hc⟩
  obtain ⟨d, hd, rfl⟩ := List.mem_iff_getElem.1 he
  rw [List.getElem_drop] at hc
  have := ord_after h hk e2 (1 + d) (by simp at hd; omega)
  have e4 : k + (1 + d) = k + 1 + d := by omega
  simp only [e4] at this
  rw [this] at hc
  cases hc
 ·intro h i hi hc
  have hik : i < k := by
   apply Classical.byContradiction
   intro hn
   by_cases e : i = k
   ·subst e; rw [e2] at hc; cases hc
   ·refine h ⟨ms[i], ?_, hc⟩
    refine List.mem_iff_getElem.2 ⟨i - (k + 1), by simp; omega, ?_⟩
    rw [List.getElem_drop]
    have e4 : k + 1 + (i - (k + 1)) = i := by omega
    simp only [e4]
  refine ⟨by omega, fun hp => ?_⟩
  obtain ⟨j, rfl⟩ : ∃ j, i = j + 1 := ⟨i - 1, by omega⟩
  rw [prevC_at (by omega)]
  exact e3 j (by omega) (by omega)
theorem Rw.dropR {w : World} {a : Option Addr} {n cap k : Nat} {rs : List (Nst Er)} (h : Rw 3 erCl w (.slice a n cap) rs) (hk : k ≤ rs.length) {b off : Nat} (ha : a = some ⟨b, off, none⟩) : Rw 3 erCl w (.slice (some ⟨b, off + k * 3, none⟩) (rs.length - k) (cap - k)) (rs.drop k) := by
 obtain ⟨h0, a', cap', e, hcap, h⟩ := h
 cases e
 subst ha
 refine ⟨by rw [List.length_drop]; omega, some ⟨b, off + k * 3, none⟩, cap - k, by rw [List.length_drop], by rw [List.length_drop]; omega, ?_⟩
 rcases h with h | ⟨b', off', e, hc⟩
 ·left; subst h; simp
 ·cases e
  refine .inr ⟨b, off + k * 3, rfl, fun i hi j u hu => ?_⟩
  rw [List.length_drop] at hi
  have := hc (k + i) (by omega) j u (by rw [List.getElem_drop] at hu; exact hu)
  have e1 : off + k * 3 + i * 3 + j = off + (k + i) * 3 + j := by omega
  rw [e1]
  exact this
set_option maxHeartbeats 2000000 in
theorem inOrder_any (v : Value) (m : Rg) (w : World) (hv : RdRegister v m w) (hs : m.eras.length ≤ 1048576) :
  Calls Tryz.prog 144 #[v] w fun e w' => RetB (ordP m.eras) e ∧ Below w.heap.size w w' := by
 have ba : ∀ (w : World) o, Below w.heap.size w (w.alloc o) := fun w o => (Below.refl _ _).alloc (Nat.le_refl _) o
 have CF := dH fun W (hb : Below w.heap.size w W) => implFirst_any v m W (hv.below hb) hs
 have CL := dH fun W (hb : Below w.heap.size w W) => lastEpoch_any v m W (hv.below hb)
 obtain ⟨sv, rfl, rs, hm, hr, -⟩ := hv
 have em : m.eras.length = rs.length := by rw [← hm, List.length_map]
 have hfl := firstO_le m.eras
 have HR := dH fun W (hb : Below w.heap.size w W) => hr.below hb
 obtain ⟨h00, a, cap, rfl, hcap, -⟩ := hr
 generalize m.trim = tr at *
 have X0 := Bx.new w [.slice a rs.length cap, .int .i64 tr] 31
 by_cases h0 : firstO m.eras = 0
 ·have R : Hid (RetB (ordP m.eras) (.returned (.bool (decide ((m.eras.length : Int) = 0))))) := ⟨_, rfl, by rw [decide_eq_true_iff, ord_zero h0]; omega⟩
  rw [h0] at CF
  generalize ordP m.eras = P at *
  rw [em] at R CL
  clear em hfl hm HR h0
  go_enter Tryz.func144, Tryz.ntmps144
  go_wp2_with fail
  refine (dU CF _ (ba _ _)).mono ?_
  rintro e w1 ⟨rfl, b1⟩
  have B1 := bT (ba _ _) b1
  have k0 := X0.below b1 0 _ rfl
  have k1 := X0.below b1 1 _ rfl
  clear CF b1 X0
  go_wp2_with fail
  refine (dU CL _ B1).mono ?_
  rintro e w2 ⟨rfl, b2⟩
  have B2 := bT B1 b2
  clear CL b2 k0 k1
  go_wp2
  go_ret
  exact ⟨by first | exact dU R | simpa [beq_iff_eq] using dU R, B2⟩
 ·obtain ⟨k, hk, e1, -, -⟩ := firstO_pos h0
  have PD := dH (ord_pos h0)
  rw [e1] at CF PD
  generalize ordP m.eras = P at *
  have hkl : k < rs.length := by omega
  rw [← hm] at PD
  clear h0 e1 hfl
  go_enter Tryz.func144, Tryz.ntmps144
  go_wp2_with fail
  refine (dU CF _ (ba _ _)).mono ?_
  rintro e w1 ⟨rfl, b1⟩
  have B1 := bT (ba _ _) b1
  have k0 := X0.below b1 0 _ rfl
  have R1 := dU HR _ B1
  obtain ⟨b, off, rfl, -⟩ := R1.era hkl
  clear CF b1 X0 HR CL
  have hk1 : k + 1 ≤ rs.length := by omega
  by_cases hcp : cap = k + 1
  ·have RN : Rw 3 erCl w1 (.slice (some ⟨b, off, none⟩) 0 0) (rs.drop (k + 1)) := by
    have q1 : rs.drop (k + 1) = [] := List.drop_eq_nil_iff.2 (by omega)
    rw [q1]
    exact Rw.nil _ _ _ (by omega)
   have C2 := dH (containsFunc_any _ (rs.drop (k + 1)) 232 #[] (fun e => e.closed) w1 Tryz.call232 RN (by rw [List.length_drop]; omega) (fun W' _ k hk => inOrderFn _ W'))
   rw [List.map_drop] at C2
   have ek : ((k + 1 : Nat) : Int) = (k : Int) + 1 := by omega
   subst hcp
   clear R1 RN
   go_wp2_with fail
   refine (dU C2).mono ?_
   rintro e w2 ⟨⟨bb, rfl, hb2⟩, b2⟩
   have B2 := bT B1 b2
   have R : Hid (RetB P (.returned (.bool (!bb)))) := ⟨_, rfl, by rw [dU PD, ← hb2]; cases bb <;> simp⟩
   clear hb2 PD C2
   go_wp2
   go_ret
   exact ⟨dU R, B2⟩
  ·have C2 := dH (containsFunc_any _ (rs.drop (k + 1)) 232 #[] (fun e => e.closed) w1 Tryz.call232 (R1.dropR (k := k + 1) (by omega) rfl) (by rw [List.length_drop]; omega) (fun W' _ k hk => inOrderFn _ W'))
   rw [List.map_drop] at C2
   have ek : ((k + 1 : Nat) : Int) = (k : Int) + 1 := by omega
   clear R1
   go_wp2_with fail
   refine (dU C2).mono ?_
   rintro e w2 ⟨⟨bb, rfl, hb2⟩, b2⟩
   have B2 := bT B1 b2
   have R : Hid (RetB P (.returned (.bool (!bb)))) := ⟨_, rfl, by rw [dU PD, ← hb2]; cases bb <;> simp⟩
   clear hb2 PD C2
   go_wp2
   go_ret
   exact ⟨dU R, B2⟩
theorem regP_iff (ds : List Int) (cop : Int) (m : Rg) : regP ds cop m ↔ cfgP ds cop ∧ m.eras.length ≤ 30 ∧ ordP m.eras ∧ (∀ e ∈ m.eras, erO ds cop e) ∧ (m.trim = 0 ∨ plIn m.eras.length m.trim) := by
 constructor
 ·rintro ⟨h1, h2, h3, h4⟩
  refine ⟨h1, h2, fun i hi hc => (h4 i hi).2.2.2 hc, fun e he => ?_, h3⟩
  obtain ⟨i, hi, rfl⟩ := List.mem_iff_getElem.1 he
  exact ⟨(h4 i hi).1, (h4 i hi).2.1, (h4 i hi).2.2.1⟩
 ·rintro ⟨h1, h2, h3, h4, h5⟩
  refine ⟨h1, h2, h5, fun i hi => ?_⟩
  have h6 := h4 _ (List.getElem_mem hi)
  exact ⟨h6.1, h6.2.1, h6.2.2, h3 i hi⟩
theorem regOkFn (q : Er → Bool) (p : Nst Er) (sc : Value) (ds : List Int) (cop : Int) (bc : Nat) (w : World) (hX : w.cell? ⟨bc, 0, none⟩ = some sc ∧ w.cell? ⟨bc, 1, none⟩ = some (.int .i64 cop)) (hc : Ns w sc ds) (hn : Ns w (Sv Er.nodes p) p.m.nodes) (had : allInt ds) (hld : ds.length ≤ 1048576) (c0 : -9223372036854775808 ≤ cop) (c1 : cop ≤ 9223372036854775807) (hf : fitEr p.m) (hlx : p.m.nodes.length ≤ 1048576) (hq : q p.m = true ↔ ¬ erO ds cop p.m) :
  Calls Tryz.prog 146 #[.agg #[.slice p.a p.m.nodes.length p.c, .bool p.m.closed, .int .i64 p.m.last], .pointer (some ⟨bc, 0, none⟩)] w fun e w' => e = .returned (.bool (q p.m)) ∧ Below w.heap.size w w' := by
 have ba : ∀ (w : World) o, Below w.heap.size w (w.alloc o) := fun w o => (Below.refl _ _).alloc (Nat.le_refl _) o
 have C1 := dH fun W (hb : Below w.heap.size w W) => isOk_any p sc ds cop W (hc.below hb) (hn.below hb) had hld c0 c1 hf hlx
 obtain ⟨pa, pc, yn, yb, yl⟩ := p
 simp only at *
 obtain ⟨-, ca, cc, rfl, -, -⟩ := hc
 obtain ⟨x0, x1⟩ := hX
 have bA := ba w (.cells #[.slice pa yn.length pc, .bool yb, .int .i64 yl] 137)
 have x0' := (bA.cell (p := ⟨bc, 0, none⟩) (dCell_lt x0)).trans x0
 have x1' := (bA.cell (p := ⟨bc, 1, none⟩) (dCell_lt x1)).trans x1
 generalize erO ds cop ⟨yn, yb, yl⟩ = P at *
 generalize q ⟨yn, yb, yl⟩ = qb at *
 clear hn
 have HQ := dH hq
 clear hq
 go_enter Tryz.func146, Tryz.ntmps146
 go_wp2_with fail
 refine (dU C1 _ bA).mono ?_
 rintro e w1 ⟨⟨b1, rfl, hb1⟩, bl⟩
 have B1 := bT bA bl
 have R : Hid ((!b1) = qb) := by
  rw [Hid]
  cases b1 with
  | true =>
   cases qb with
   | false => rfl
   | true => exact absurd (hb1.1 rfl) ((dU HQ).1 rfl)
  | false => exact ((dU HQ).2 fun h => by have := hb1.2 h; cases this).symm
 clear C1 bl hb1 bA x0 x1 x0' x1' HQ
 go_wp2
 go_ret
 exact ⟨by rw [← dU R]; rfl, B1⟩
set_option maxHeartbeats 8000000 in
theorem implRegOk_any (cv v : Value) (c : List Int × Int) (m : Rg) (w : World) (hc : RdConfig cv c w) (hv : RdRegister v m w) (okc : okConfig c) (ok : okRegister m) (hsc : sizConfig c ≤ 1048576) (hs : sizRegister m ≤ 1048576) :
  Calls Tryz.prog 71 #[cv, v] w fun e w' => RetB (regP c.1 c.2 m) e ∧ Below w.heap.size w w' := by
 have hle : m.eras.length ≤ 1048576 := by unfold sizRegister sizEraS at hs; omega
 have CO := dH fun W (hb : Below w.heap.size w W) => inOrder_any v m W (hv.below hb) hle
 have CP := dH fun W (hb : Below w.heap.size w W) => hasPlace_any v m m.trim W (hv.below hb) ok.2 hle
 obtain ⟨ds, cop⟩ := c
 obtain ⟨sc, rfl, hc⟩ := hc
 obtain ⟨sv, rfl, rs, hm, hr, hn⟩ := hv
 obtain ⟨had, c0, c1⟩ := okc
 unfold sizConfig at hsc
 simp only at *
 have em : m.eras.length = rs.length := by rw [← hm, List.length_map]
 have HL : Hid (∀ k (hk : k < rs.length), rs[k].m.nodes.length ≤ 1048576 ∧ fitEr rs[k].m) := fun k hk => by
  have h1 := sumN_mem (ms := rs.map Nst.m) (k := k) (by simpa using hk)
  rw [List.getElem_map] at h1
  unfold sizRegister sizEraS at hs
  rw [← hm] at hs
  exact ⟨by omega, ok.1 _ (by rw [← hm]; exact List.mem_map.2 ⟨rs[k], List.getElem_mem hk, rfl⟩)⟩
 obtain ⟨q, hq⟩ : ∃ q : Er → Bool, ∀ y, q y = true ↔ ¬ erO ds cop y := ⟨fun y => @decide (¬ erO ds cop y) (Classical.propDecidable _), fun y => @decide_eq_true_iff _ (Classical.propDecidable _)⟩
 have CC := dH fun W (hb : Below w.heap.size w W) => implCfg_any sc ds cop W (hc.below hb) had hsc c0 c1
 have CF := dH fun W (hb : Below w.heap.size w W) (hX : ∀ W', Below W.heap.size W W' → W'.cell? ⟨w.heap.size, 0, none⟩ = some sc ∧ W'.cell? ⟨w.heap.size, 1, none⟩ = some (.int .i64 cop)) => containsFunc_any sv rs 146 #[.pointer (some ⟨w.heap.size, 0, none⟩)] q W Tryz.call146 (hr.below hb) (by omega) (fun W' hb' k hk => regOkFn q rs[k] sc ds cop w.heap.size W' (hX W' hb') (hc.below (bT hb hb')) ((hn _ (List.getElem_mem hk)).below (bT hb hb')) had hsc c0 c1 (dU HL k hk).2 (dU HL k hk).1 (hq _))
 rw [hm] at CF
 have PD := dH (regP_iff ds cop m)
 have PE : Hid ((∃ e ∈ m.eras, q e = true) ↔ ¬ ∀ e ∈ m.eras, erO ds cop e) := by
  constructor
  ·rintro ⟨e, he, h⟩ ha
   exact (hq e).1 h (ha e he)
  ·intro h
   apply Classical.byContradiction
   intro hno
   refine h fun e he => Classical.byContradiction fun hne => hno ⟨e, he, (hq e).2 hne⟩
 generalize (∃ e ∈ m.eras, q e = true) = PX at *
 generalize (∀ e ∈ m.eras, erO ds cop e) = PY at *
 generalize regP ds cop m = P at *
 generalize ordP m.eras = PO at *
 generalize cfgP ds cop = PC at *
 obtain ⟨t0, t1⟩ := ok.2
 rw [em] at CP PD
 generalize m.trim = tr at *
 generalize plIn rs.length tr = PP at *
 obtain ⟨-, ca, cc, rfl, -, -⟩ := hc
 obtain ⟨-, a, cap, rfl, -, -⟩ := hr
 clear hn hm hs ok em HL hq
 have ba : ∀ (w : World) o, Below w.heap.size w (w.alloc o) := fun w o => (Below.refl _ _).alloc (Nat.le_refl _) o
 have B0 := bT (ba w (.cells #[.slice ca ds.length cc, .int .i64 cop] 26)) (ba _ (.cells #[.slice a rs.length cap, .int .i64 tr] 31))
 have X0 := dH ((Bx.new w [.slice ca ds.length cc, .int .i64 cop] 26).below (ba _ (.cells #[.slice a rs.length cap, .int .i64 tr] 31)))
 have Y0 := Bx.new (w.alloc (.cells #[.slice ca ds.length cc, .int .i64 cop] 26)) [.slice a rs.length cap, .int .i64 tr] 31
 have e1 : (w.alloc (.cells #[.slice ca ds.length cc, .int .i64 cop] 26)).heap.size = w.heap.size + 1 := by simp
 rw [e1] at Y0
 replace Y0 := dH Y0
 clear e1
 go_enter Tryz.func71, Tryz.ntmps71
 go_wp2_with fail
 generalize (w.alloc (.cells #[.slice ca ds.length cc, .int .i64 cop] 26)).alloc (.cells #[.slice a rs.length cap, .int .i64 tr] 31) = w0 at *
 refine (dU CC _ B0).mono ?_
 rintro e w1 ⟨⟨b1, rfl, h1⟩, bl1⟩
 have B1 := bT B0 bl1
 have X1 := dH ((dU X0).below bl1)
 have Y1 := dH ((dU Y0).below bl1)
 have k0 := dU Y1 0 _ rfl
 have k1 := dU Y1 1 _ rfl
 clear X0 Y0 B0 bl1 CC
 cases b1
 ·have R : RetB P (.returned (.bool false)) := RetB.no fun h => by have := h1.2 ((dU PD).1 h).1; cases this
  clear h1
  go_wp2
  go_ret
  exact ⟨R, B1⟩
 have H1 := dH (h1.1 rfl)
 clear h1
 by_cases h30 : 30 < (rs.length : Int)
 ·have R : RetB P (.returned (.bool false)) := RetB.no fun h => by have := ((dU PD).1 h).2.1; omega
  go_wp2
  go_ret
  exact ⟨R, B1⟩
 go_wp2_with fail
 refine (dU CO _ B1).mono ?_
 rintro e w2 ⟨⟨b2, rfl, h2⟩, bl2⟩
 have B2 := bT B1 bl2
 have X2 := dH ((dU X1).below bl2)
 have Y2 := dH ((dU Y1).below bl2)
 clear k0 k1
 have k0 := dU Y2 0 _ rfl
 have k1 := dU Y2 1 _ rfl
 clear X1 Y1 B1 bl2 CO
 cases b2
 ·have R : RetB P (.returned (.bool false)) := RetB.no fun h => by have := h2.2 ((dU PD).1 h).2.2.1; cases this
  clear h2
  go_wp2
  go_ret
  exact ⟨R, B2⟩
 have H2 := dH (h2.1 rfl)
 clear h2
 have C3 := dH (dU CF w2 B2 fun W' hb' => ⟨(dU X2).below hb' 0 _ rfl, (dU X2).below hb' 1 _ rfl⟩)
 clear CF
 go_wp2_with fail
 refine (dU C3).mono ?_
 rintro e w3 ⟨⟨b3, rfl, h3⟩, bl3⟩
 have B3 := bT B2 bl3
 have Y3 := dH ((dU Y2).below bl3)
 clear k0 k1
 have k0 := dU Y3 0 _ rfl
 have k1 := dU Y3 1 _ rfl
 clear X2 Y2 B2 bl3 C3
 cases b3
 case true =>
  have R : RetB P (.returned (.bool false)) := RetB.no fun h => (dU PE).1 (h3.1 rfl) ((dU PD).1 h).2.2.2.1
  clear h3
  go_wp2
  go_ret
  exact ⟨R, B3⟩
 have H3 : Hid PY := Classical.byContradiction fun hno => by have := h3.2 ((dU PE).2 hno); cases this
 clear h3 PE
 by_cases ht : tr = 0
 ·have R : RetB P (.returned (.bool true)) := RetB.yes ((dU PD).2 ⟨dU H1, by omega, dU H2, dU H3, .inl ht⟩)
  subst ht
  go_wp2
  go_ret
  exact ⟨R, B3⟩
 ·have FIN : Hid (∀ b, (b = true ↔ PP) → RetB P (.returned (.bool b))) := fun b hb => ⟨b, rfl, fun h => (dU PD).2 ⟨dU H1, by omega, dU H2, dU H3, .inr (hb.1 h)⟩, fun h => hb.2 (((dU PD).1 h).2.2.2.2.resolve_left ht)⟩
  have hbn : (tr == 0) = false := by simp [ht]
  go_wp2_with fail
  refine (dU CP _ B3).mono ?_
  rintro e w4 ⟨⟨b4, rfl, h4⟩, bl4⟩
  have R := dH (dU FIN b4 h4)
  have B4 := bT B3 bl4
  clear FIN h4 bl4 CP k0 k1 PD H1 H2 H3
  go_wp2
  go_ret
  exact ⟨dU R, B4⟩
end Go.Proofs.YtodfgehicpejgaaGreatDoor
