/- Several texts in one: ImFd, ImFe, ImFm. -/
import Derived.Test.YtodfgehicpejgaaGreatDoorGk181
import Derived.Test.YtodfgehicpejgaaGreatDoorGk177
import Derived.Deep.RegionHeld3
import Derived.Deep.DeepCutAuto
import Derived.Test.YtodfgehicpejgaaGreatDoorGk162
namespace Go.Proofs.YtodfgehicpejgaaGreatDoor
open Go.ChangeShapes Go.WideShapes Go.ChangeAt Go.RowKit
set_option linter.unusedSimpArgs false
set_option linter.unusedVariables false
set_option maxRecDepth 100000
theorem implEntOk_any (e : Ent) (hf : e.fits) (w : World) : Calls Tryz.prog 228 #[e.val] w fun r w' => RetB (entP e) r ∧ Below w.heap.size w w' := by
 by_cases h : entP e
 ·exact (implEntOk_yes e hf h w).mono fun r w' ⟨h1, h2⟩ => ⟨h1 ▸ RetB.yes h, h2⟩
 ·exact (implEntOk_no e hf h w).mono fun r w' ⟨h1, h2⟩ => ⟨h1 ▸ RetB.no h, h2⟩
set_option maxHeartbeats 2000000 in
theorem allOk_any (v : Value) (es : List Ent) (w : World) (hv : Rw 4 Ent.cl w v es) (hf : fitE es) :
  Calls Tryz.prog 137 #[v] w fun e w' => RetB (∀ e ∈ es, entP e) e ∧ Below w.heap.size w w' := by
 have HV := dH fun W (hb : Below w.heap.size w W) => hv.below hb
 have HF := dH hf
 obtain ⟨h0, a, cap, rfl, -, -⟩ := hv
 clear hf
 go_enter Tryz.func137, Tryz.ntmps137
 go_wp2
 go_loopw [7] (fun x wr => ∃ k : Nat, x = .int .i64 (k : Int) ∧ k ≤ es.length ∧ Hid (∀ i (h : i < es.length), i < k → entP es[i]) ∧ Below w.heap.size w wr) (fun x _ => es.length - (intOf x).toNat)
 case atStart => exact ⟨0, rfl, Nat.zero_le _, (fun i h h' => by omega), Below.refl _ _⟩
 case round =>
  obtain ⟨k, rfl, hk, hinv, hb⟩ := hrel
  by_cases hlt : (k : Int) < (es.length : Int)
  ·have hkl : k < es.length := by omega
   obtain ⟨b, off, rfl, hc⟩ := (dU HV wr hb).ent hkl
   obtain ⟨k0, k1, k2, k3⟩ := hc k hkl
   have CE := dH fun W => implEntOk_any es[k] (dU HF _ (List.getElem_mem hkl)) W
   have hst : Hid (entP es[k] → ∀ i (h : i < es.length), i < k + 1 → entP es[i]) := fun he i h h' => by
    rcases Nat.lt_or_ge i k with hlt' | hge
    ·exact dU hinv i h hlt'
    ·obtain rfl : i = k := by omega
     exact he
   have hno : Hid (¬ entP es[k] → ¬ ∀ e ∈ es, entP e) := fun he h => he (h _ (List.getElem_mem hkl))
   generalize es[k] = e at *
   obtain ⟨x, wv, ho, d⟩ := e
   unfold Ent.val at CE
   simp only at *
   clear hc hinv
   go_wp2_with fail
   refine (dU CE _).mono ?_
   rintro r w1 ⟨⟨bb, rfl, hbb⟩, b1⟩
   have hb1 := bT (hb.alloc hb.size (.cells #[.int .i64 x, .int .i64 wv, .bool ho, .string d] 156)) b1
   clear b1 CE k0 k1 k2 k3 hb
   cases bb
   ·have R := dH (dU hno fun h => by have := hbb.2 h; cases this)
    clear hbb
    go_wp2
    go_ret
    exact ⟨RetB.no (dU R), hb1⟩
   ·have R := dH (dU hst (hbb.1 rfl))
    clear hbb
    go_wp2
    go_roundw
    case rel => exact ⟨k + 1, by go_num, by omega, R, hb1⟩
    case measure => simp [intOf]; omega
  ·have hyes : Hid (∀ e ∈ es, entP e) := fun e he => by
    obtain ⟨i, hi, rfl⟩ := List.getElem_of_mem he
    exact dU hinv i hi (by omega)
   clear hinv HV HF
   go_wp2
   go_ret
   exact ⟨RetB.yes (dU hyes), hb⟩
set_option maxHeartbeats 4000000 in
theorem ascending_any (v : Value) (es : List Ent) (w : World) (hv : Rw 4 Ent.cl w v es) :
  Calls Tryz.prog 139 #[v] w fun e w' => RetB (ascE es) e ∧ Below w.heap.size w w' := by
 have HV := dH fun W (hb : Below w.heap.size w W) => hv.below hb
 obtain ⟨h0, a, cap, rfl, -, -⟩ := hv
 go_enter Tryz.func139, Tryz.ntmps139
 go_wp2
 go_loopw [3] (fun x wr => ∃ k : Nat, x = .int .i64 ((k + 1 : Nat) : Int) ∧ (k ≤ es.length) ∧ Hid (∀ i (h : i + 1 < es.length), i < k → es[i].pl < es[i + 1].pl) ∧ Below w.heap.size w wr) (fun x _ => es.length + 1 - (intOf x).toNat)
 case atStart => exact ⟨0, rfl, Nat.zero_le _, (fun i h h' => by omega), Below.refl _ _⟩
 case round =>
  obtain ⟨k, rfl, hk, hinv, hb⟩ := hrel
  by_cases hlt : ((k + 1 : Nat) : Int) < (es.length : Int)
  ·have hkl : k + 1 < es.length := by omega
   obtain ⟨b, off, rfl, hc⟩ := (dU HV wr hb).ent hkl
   have EA := hc k (by omega)
   have EB := hc (k + 1) hkl
   have hst : Hid (es[k].pl < es[k + 1].pl → ∀ i (h : i + 1 < es.length), i < k + 1 → es[i].pl < es[i + 1].pl) := fun he i h h' => by
    rcases Nat.lt_or_ge i k with hlt' | hge
    ·exact dU hinv i h hlt'
    ·obtain rfl : i = k := by omega
     exact he
   have hno : Hid (¬ es[k].pl < es[k + 1].pl → ¬ ascE es) := fun he h => he (h k hkl)
   have PA := dH fun W => place_any es[k] W
   have PB := dH fun W => place_any es[k + 1] W
   generalize es[k] = ea at *
   generalize es[k + 1] = eb at *
   obtain ⟨x, wv, ho, d⟩ := ea
   obtain ⟨y, wv', ho', d'⟩ := eb
   unfold Ent.val at PA PB
   simp only at *
   have HEA := dH EA
   have HEB := dH EB
   obtain ⟨k0, k1, k2, k3⟩ := EA
   obtain ⟨j0, j1, j2, j3⟩ := EB
   simp only at k0 k1 k2 k3 j0 j1 j2 j3
   generalize hm : k + 1 = m at *
   have HM := dH hm
   have t1 : (0 : Int) ≤ (k : Int) := by omega
   have t2 : (k : Int) < (es.length : Int) := by omega
   have t3 : IntKind.i64.wrap ((m : Int) - 1) = (k : Int) := by rw [IntKind.wrap_i64]; omega
   have t4 : (0 : Int) ≤ (m : Int) := by omega
   clear hc hinv HV hm
   go_wp2
   go_region_held3 (fun W => W.cell? ⟨b, off + k * 4, none⟩ = some (.int .i64 x) ∧ W.cell? ⟨b, off + k * 4 + 1, none⟩ = some (.int .i64 wv) ∧ W.cell? ⟨b, off + k * 4 + 2, none⟩ = some (.bool ho) ∧ W.cell? ⟨b, off + k * 4 + 3, none⟩ = some (.string d) ∧ W.cell? ⟨b, off + m * 4, none⟩ = some (.int .i64 y) ∧ W.cell? ⟨b, off + m * 4 + 1, none⟩ = some (.int .i64 wv') ∧ W.cell? ⟨b, off + m * 4 + 2, none⟩ = some (.bool ho') ∧ W.cell? ⟨b, off + m * 4 + 3, none⟩ = some (.string d')) (first | exact ⟨q0, q1, q2, q3, r0, r1, r2, r3⟩ | exact ⟨p0, p1, p2, p3, s0, s1, s2, s3⟩ | go_keep)
    (first
     | (go_at_call 369; refine (dU PA _).mono ?_; rintro e w2 ⟨rfl, b2⟩; have hb2 := bT hb1 b2; obtain ⟨q0, q1, q2, q3⟩ := (dU HEA).below hb2; obtain ⟨r0, r1, r2, r3⟩ := (dU HEB).below hb2)
     | (go_at_call 369; refine (dU PB _).mono ?_; rintro e w2 ⟨rfl, b2⟩; have hb2 := bT hb1 b2; obtain ⟨q0, q1, q2, q3⟩ := (dU HEA).below hb2; obtain ⟨r0, r1, r2, r3⟩ := (dU HEB).below hb2)
     | (go_at_call 369; refine (dU PA _).mono ?_; rintro e w1 ⟨rfl, b1⟩; have hb1 := bT (Below.refl wr.heap.size wr).drew b1; obtain ⟨p0, p1, p2, p3⟩ := (dU HEA).below hb1; obtain ⟨s0, s1, s2, s3⟩ := (dU HEB).below hb1)
     | (go_at_call 369; refine (dU PB _).mono ?_; rintro e w1 ⟨rfl, b1⟩; have hb1 := bT (Below.refl wr.heap.size wr).drew b1; obtain ⟨p0, p1, p2, p3⟩ := (dU HEA).below hb1; obtain ⟨s0, s1, s2, s3⟩ := (dU HEB).below hb1))
   all_goals
    have BB := bT hb hb2
    clear hb1 b2 b1 q0 q1 q2 q3 r0 r1 r2 r3 p0 p1 p2 p3 s0 s1 s2 s3 k0 k1 k2 k3 j0 j1 j2 j3 HEA HEB PA PB hb hb2
    by_cases hxy : y ≤ x
    ·have hd : decide (y ≤ x) = true := decide_eq_true hxy
     have R := dH (dU hno (by omega))
     go_wp2
     go_ret
     exact ⟨RetB.no (dU R), BB⟩
    ·have hd : decide (y ≤ x) = false := decide_eq_false hxy
     have R := dH (dU hst (by omega))
     go_wp2
     go_roundw
     case rel => have := dU HM; subst this; exact ⟨k + 1, by go_num, by omega, R, BB⟩
     case measure => have := dU HM; subst this; simp [intOf]; omega
  ·have hyes : Hid (ascE es) := fun i h => dU hinv i h (by omega)
   clear hinv HV
   go_wp2
   go_ret
   exact ⟨RetB.yes (dU hyes), hb⟩
theorem sorted_any (kv lv : Value) (sl : Int) (w : World) (ka la : Option Addr) (kn kc ln lc : Nat) (hk : kv = .slice ka kn kc) (hl : lv = .slice la ln lc) : Calls Tryz.prog 138 #[.agg #[kv, lv, .int .i64 sl]] w fun r w' => r = .returned kv ∧ Below w.heap.size w w' := by
 subst hk hl
 go_enter Tryz.func138, Tryz.ntmps138
 go_wp2
 go_ret
 exact ⟨rfl, (Below.refl _ _).alloc (Nat.le_refl _) _⟩
set_option maxHeartbeats 4000000 in
theorem implStoreOk_any (v : Value) (s : St) (w : World) (hv : Rs w v s) (hf : fitS s) :
  Calls Tryz.prog 65 #[v] w fun e w' => RetB (stP s) e ∧ Below w.heap.size w w' := by
 obtain ⟨kv, lv, rfl, hk, hl⟩ := hv
 obtain ⟨f1, f2, f3, f4⟩ := hf
 have C1 := dH fun W (hb : Below w.heap.size w W) => allOk_any kv s.kept W (hk.below hb) f1
 have C2 := dH fun W (hb : Below w.heap.size w W) => allOk_any lv s.late W (hl.below hb) f2
 have C3 := dH fun W (hb : Below w.heap.size w W) => ascending_any kv s.kept W (hk.below hb)
 obtain ⟨hk0, ka, kc, rfl, -, -⟩ := hk
 obtain ⟨hl0, la, lc, rfl, -, -⟩ := hl
 have C4 := dH fun W => sorted_any _ _ s.lock W ka la s.kept.length kc s.late.length lc rfl rfl
 have SD : Hid (stP s ↔ (s.kept.length ≤ 200 ∧ ∀ e ∈ s.kept, entP e) ∧ (s.late.length ≤ 20 ∧ ∀ e ∈ s.late, entP e) ∧ ascE s.kept ∧ 0 ≤ s.lock ∧ s.lock ≤ 30) := Iff.rfl
 generalize stP s = P at *
 generalize s.lock = sl at *
 have X0 := Bx.new w [.slice ka s.kept.length kc, .slice la s.late.length lc, .int .i64 sl] 80
 have B0 : Below w.heap.size w (w.alloc (.cells #[.slice ka s.kept.length kc, .slice la s.late.length lc, .int .i64 sl] 80)) := (Below.refl _ _).alloc (Nat.le_refl _) _
 have HX0 := dH X0
 clear X0
 by_cases h1 : (200 : Int) < (s.kept.length : Int)
 ·have R : RetB P (.returned (.bool false)) := RetB.no fun h => by have := ((dU SD).1 h).1.1; omega
  have hd : decide ((200 : Int) < (s.kept.length : Int)) = true := decide_eq_true h1
  go_enter Tryz.func65, Tryz.ntmps65
  go_wp2
  go_ret
  exact ⟨R, B0⟩
 by_cases h2 : (20 : Int) < (s.late.length : Int)
 ·have R : RetB P (.returned (.bool false)) := RetB.no fun h => by have := ((dU SD).1 h).2.1.1; omega
  have hd1 : decide ((200 : Int) < (s.kept.length : Int)) = false := decide_eq_false h1
  have hd : decide ((20 : Int) < (s.late.length : Int)) = true := decide_eq_true h2
  go_enter Tryz.func65, Tryz.ntmps65
  go_wp2
  go_ret
  exact ⟨R, B0⟩
 have hd1 : decide ((200 : Int) < (s.kept.length : Int)) = false := decide_eq_false h1
 have hd2 : decide ((20 : Int) < (s.late.length : Int)) = false := decide_eq_false h2
 by_cases h3 : sl < 0
 ·have R : RetB P (.returned (.bool false)) := RetB.no fun h => by have := ((dU SD).1 h).2.2.2.1; omega
  have hd : decide (sl < 0) = true := decide_eq_true h3
  go_enter Tryz.func65, Tryz.ntmps65
  go_wp2
  go_ret
  exact ⟨R, B0⟩
 have hd3 : decide (sl < 0) = false := decide_eq_false h3
 by_cases h4 : 30 < sl
 ·have R : RetB P (.returned (.bool false)) := RetB.no fun h => by have := ((dU SD).1 h).2.2.2.2; omega
  have hd : decide (30 < sl) = true := decide_eq_true h4
  go_enter Tryz.func65, Tryz.ntmps65
  go_wp2
  go_ret
  exact ⟨R, B0⟩
 have hd4 : decide (30 < sl) = false := decide_eq_false h4
 have HL := dH (show s.kept.length ≤ 200 ∧ s.late.length ≤ 20 ∧ 0 ≤ sl ∧ sl ≤ 30 by omega)
 go_enter Tryz.func65, Tryz.ntmps65
 go_wp2_with fail
 refine (dU C1 _ B0).mono ?_
 rintro e w1 ⟨⟨b1, rfl, k1⟩, bl1⟩
 have B1 := bT B0 bl1
 have HX1 := dH ((dU HX0).below bl1)
 clear B0 bl1 HX0 C1
 have p0 := dU HX1 0 _ rfl
 have p1 := dU HX1 1 _ rfl
 have p2 := dU HX1 2 _ rfl
 cases b1
 ·have R : RetB P (.returned (.bool false)) := RetB.no fun h => by have := k1.2 ((dU SD).1 h).1.2; cases this
  clear k1
  go_wp2
  go_ret
  exact ⟨R, B1⟩
 have H1 := dH (k1.1 rfl)
 clear k1
 go_wp2_with fail
 refine (dU C2 _ B1).mono ?_
 rintro e w2 ⟨⟨b2, rfl, k2⟩, bl2⟩
 have B2 := bT B1 bl2
 have HX2 := dH ((dU HX1).below bl2)
 clear B1 bl2 HX1 C2 p0 p1 p2
 have p0 := dU HX2 0 _ rfl
 have p1 := dU HX2 1 _ rfl
 have p2 := dU HX2 2 _ rfl
 cases b2
 ·have R : RetB P (.returned (.bool false)) := RetB.no fun h => by have := k2.2 ((dU SD).1 h).2.1.2; cases this
  clear k2
  go_wp2
  go_ret
  exact ⟨R, B2⟩
 have H2 := dH (k2.1 rfl)
 clear k2
 go_wp2_with fail
 refine (dU C4 _).mono ?_
 rintro e w3 ⟨rfl, bl3⟩
 have B3 := bT B2 bl3
 clear B2 bl3 HX2 C4 p0 p1 p2
 go_wp2_with fail
 refine (dU C3 _ B3).mono ?_
 rintro e w4 ⟨⟨b3, rfl, k3⟩, bl4⟩
 have B4 := bT B3 bl4
 clear B3 bl4 C3
 have R : RetB P (.returned (.bool b3)) := ⟨b3, rfl, fun h => (dU SD).2 ⟨⟨(dU HL).1, dU H1⟩, ⟨(dU HL).2.1, dU H2⟩, k3.1 h, (dU HL).2.2⟩, fun h => k3.2 ((dU SD).1 h).2.2.1⟩
 clear k3
 go_wp2
 go_ret
 exact ⟨R, B4⟩
theorem getM_bad {s : St} {x : Int} (h : ¬ stP s) : getM s x = none := if_neg h
theorem getM_ok {s : St} {x : Int} (h : stP s) : getM s x = getL s.kept x := if_pos h
set_option maxHeartbeats 4000000 in
theorem implGet_any (v : Value) (s : St) (x : Int) (w : World) (hv : Rs w v s) (hf : fitS s) :
  Calls Tryz.prog 197 #[v, .int .i64 x] w fun r w' => r = .returned (findT (getM s x)) ∧ Below w.heap.size w w' := by
 have ba : ∀ (w : World) o, Below w.heap.size w (w.alloc o) := fun w o => (Below.refl _ _).alloc (Nat.le_refl _) o
 have C1 := dH fun W (hb : Below w.heap.size w W) => implStoreOk_any v s W (hv.below hb) hf
 obtain ⟨kv, lv, rfl, rk, rl⟩ := hv
 have C5 := dH fun W (hb : Below w.heap.size w W) (hs : stP s) => find_any kv s.kept x W (rk.below hb) hs.2.2.1 (by have := hs.1.1; omega)
 have HK := dH fun W (hb : Below w.heap.size w W) => rk.below hb
 obtain ⟨-, ka, kc, rfl, -, -⟩ := rk
 obtain ⟨-, la, lc, rfl, -, -⟩ := rl
 have GB : Hid (¬ stP s → findT (getM s x) = .tuple #[noEnt.val, .bool false]) := fun h => by rw [getM_bad h]; rfl
 have GN : Hid (stP s → ∀ i, posP s.kept x i → ¬ foundP s.kept x i → findT (getM s x) = .tuple #[noEnt.val, .bool false]) := fun h i hp hn => by rw [getM_ok h, getL_no hp h.2.2.1 (fun hi he => hn ⟨hi, he⟩)]; rfl
 have GY : Hid (stP s → ∀ i, posP s.kept x i → ∀ hi : i < s.kept.length, s.kept[i].pl = x → findT (getM s x) = .tuple #[s.kept[i].val, .bool true]) := fun h i hp hi he => by rw [getM_ok h, getL_yes hp hi he]; rfl
 generalize findT (getM s x) = M at *
 have X0 := (Bx.new w [.slice ka s.kept.length kc, .slice la s.late.length lc, .int .i64 s.lock] 80).below (ba _ (.cells #[.int .i64 0, .int .i64 0, .bool false, .string ⟨#[]⟩] 156))
 have Z0 := BxZ.new (B := w.heap.size) (w.alloc (.cells #[.slice ka s.kept.length kc, .slice la s.late.length lc, .int .i64 s.lock] 80)) [.int .i64 0, .int .i64 0, .bool false, .string ⟨#[]⟩] 156 (by simp)
 have B0 := bT (ba w (.cells #[.slice ka s.kept.length kc, .slice la s.late.length lc, .int .i64 s.lock] 80)) (ba _ (.cells #[.int .i64 0, .int .i64 0, .bool false, .string ⟨#[]⟩] 156))
 have e1 : (w.alloc (.cells #[.slice ka s.kept.length kc, .slice la s.late.length lc, .int .i64 s.lock] 80)).heap.size = w.heap.size + 1 := by simp
 rw [e1] at Z0
 clear e1 hf
 unfold noEnt Ent.val at *
 simp only at *
 go_enter Tryz.func197, Tryz.ntmps197
 go_wp2_with fail
 generalize (w.alloc (.cells #[.slice ka s.kept.length kc, .slice la s.late.length lc, .int .i64 s.lock] 80)).alloc (.cells #[.int .i64 0, .int .i64 0, .bool false, .string ⟨#[]⟩] 156) = w0 at *
 refine (dU C1 _ B0).mono ?_
 rintro r w1 ⟨hr, b1⟩
 have B1 := bT B0 b1
 have X1 := X0.below b1
 have Z1 := Z0.below b1
 clear B0 b1 X0 Z0 C1
 have p0 := X1 0 _ rfl
 have p1 := X1 1 _ rfl
 have p2 := X1 2 _ rfl
 have ZW : Hid (∀ W, BxZ W w.heap.size (w.heap.size + 1) [.int .i64 0, .int .i64 0, .bool false, .string ⟨#[]⟩] → Below w.heap.size w W → ∀ (a b : Int) (c : Bool) (d : ByteArray), Bx ((((W.setCell ⟨w.heap.size + 1, 0, none⟩ (.int .i64 a)).setCell ⟨w.heap.size + 1, 1, none⟩ (.int .i64 b)).setCell ⟨w.heap.size + 1, 2, none⟩ (.bool c)).setCell ⟨w.heap.size + 1, 3, none⟩ (.string d)) (w.heap.size + 1) [.int .i64 a, .int .i64 b, .bool c, .string d] ∧ Below w.heap.size w ((((W.setCell ⟨w.heap.size + 1, 0, none⟩ (.int .i64 a)).setCell ⟨w.heap.size + 1, 1, none⟩ (.int .i64 b)).setCell ⟨w.heap.size + 1, 2, none⟩ (.bool c)).setCell ⟨w.heap.size + 1, 3, none⟩ (.string d))) := fun W hZ hB a b c d =>
  ⟨((((hZ.put 0 (.int .i64 a)).put 1 (.int .i64 b)).put 2 (.bool c)).put 3 (.string d)).bx, (((hB.setCell (p := ⟨w.heap.size + 1, 0, none⟩) (Nat.le_succ _) _).setCell (p := ⟨w.heap.size + 1, 1, none⟩) (Nat.le_succ _) _).setCell (p := ⟨w.heap.size + 1, 2, none⟩) (Nat.le_succ _) _).setCell (p := ⟨w.heap.size + 1, 3, none⟩) (Nat.le_succ _) _⟩
 by_cases hs : stP s
 ·obtain rfl := hr.of_yes hs
  have GN := dH (dU GN hs)
  have GY := dH (dU GY hs)
  have C5 := dH fun W hb => dU C5 W hb hs
  clear hs hr GB
  go_wp2_with fail
  refine (sorted_any _ _ s.lock _ ka la s.kept.length kc s.late.length lc rfl rfl).mono ?_
  rintro r w2 ⟨rfl, b2⟩
  have B2 := bT B1 b2
  have X2 := X1.below b2
  have Z2 := Z1.below b2
  clear B1 X1 Z1 p0 p1 p2 b2
  go_wp2_with fail
  refine (dU C5 _ B2).mono ?_
  rintro r w3 ⟨⟨i, fb, rfl, hp, hfb⟩, b3⟩
  have B3 := bT B2 b3
  have X3 := X2.below b3
  have Z3 := Z2.below b3
  clear B2 X2 Z2 b3 C5
  have p0 := X3 0 _ rfl
  have p1 := X3 1 _ rfl
  have p2 := X3 2 _ rfl
  obtain ⟨z0, f0⟩ := Z3.2 0 _ rfl
  obtain ⟨z1, f1⟩ := Z3.2 1 _ rfl
  obtain ⟨z2, f2⟩ := Z3.2 2 _ rfl
  obtain ⟨z3, f3⟩ := Z3.2 3 _ rfl
  cases fb
  ·have eM := dU GN i hp (fun h => by have := hfb.2 h; cases this)
   obtain ⟨hx, hb⟩ := dU ZW _ Z3 B3 0 0 false ⟨#[]⟩
   have HX := dH hx
   have HB := dH hb
   clear hx hb GN GY hfb hp ZW X3 Z3 B3 HK
   subst eM
   go_wp2
   generalize (((w3.setCell ⟨w.heap.size + 1, 0, none⟩ (.int .i64 0)).setCell ⟨w.heap.size + 1, 1, none⟩ (.int .i64 0)).setCell ⟨w.heap.size + 1, 2, none⟩ (.bool false)).setCell ⟨w.heap.size + 1, 3, none⟩ (.string ⟨#[]⟩) = V at *
   have q0 := dU HX 0 _ rfl
   have q1 := dU HX 1 _ rfl
   have q2 := dU HX 2 _ rfl
   have q3 := dU HX 3 _ rfl
   clear z0 z1 z2 z3 f0 f1 f2 f3 p0 p1 p2
   refine bodyPost_ret (v := .tuple #[.agg #[.int .i64 0, .int .i64 0, .bool false, .string ⟨#[]⟩], .bool false]) (by simp [results, Tryz.results197, go_sem, q0, q1, q2, q3]) rfl ⟨rfl, dU HB⟩
  ·obtain ⟨hi, hfe⟩ := hfb.1 rfl
   have eM := dU GY i hp hi hfe
   obtain ⟨b, off, rfl, hc⟩ := (dU HK _ B3).ent hi
   obtain ⟨c0, c1, c2, c3⟩ := hc i hi
   generalize s.kept[i] = y at *
   obtain ⟨yx, yw, yh, yd⟩ := y
   obtain ⟨hx, hb⟩ := dU ZW _ Z3 B3 yx yw yh yd
   have HX := dH hx
   have HB := dH hb
   have hi2 : (i : Int) < (s.kept.length : Int) := by omega
   simp only at *
   clear hx hb GN GY hfb hp ZW X3 Z3 B3 HK hc hfe
   subst eM
   go_wp2
   generalize (((w3.setCell ⟨w.heap.size + 1, 0, none⟩ (.int .i64 yx)).setCell ⟨w.heap.size + 1, 1, none⟩ (.int .i64 yw)).setCell ⟨w.heap.size + 1, 2, none⟩ (.bool yh)).setCell ⟨w.heap.size + 1, 3, none⟩ (.string yd) = V at *
   have q0 := dU HX 0 _ rfl
   have q1 := dU HX 1 _ rfl
   have q2 := dU HX 2 _ rfl
   have q3 := dU HX 3 _ rfl
   clear z0 z1 z2 z3 f0 f1 f2 f3 p0 p1 p2 c0 c1 c2 c3
   refine bodyPost_ret (v := .tuple #[.agg #[.int .i64 yx, .int .i64 yw, .bool yh, .string yd], .bool true]) (by simp [results, Tryz.results197, go_sem, q0, q1, q2, q3]) rfl ⟨rfl, dU HB⟩
 ·obtain rfl := hr.of_no hs
  have eM := dU GB hs
  obtain ⟨z0, f0⟩ := Z1.2 0 _ rfl
  obtain ⟨z1, f1⟩ := Z1.2 1 _ rfl
  obtain ⟨z2, f2⟩ := Z1.2 2 _ rfl
  obtain ⟨z3, f3⟩ := Z1.2 3 _ rfl
  obtain ⟨hx, hb⟩ := dU ZW _ Z1 B1 0 0 false ⟨#[]⟩
  have HX := dH hx
  have HB := dH hb
  clear hx hb GB GN GY hr ZW X1 Z1 B1 HK C5 hs
  subst eM
  go_wp2
  generalize (((w1.setCell ⟨w.heap.size + 1, 0, none⟩ (.int .i64 0)).setCell ⟨w.heap.size + 1, 1, none⟩ (.int .i64 0)).setCell ⟨w.heap.size + 1, 2, none⟩ (.bool false)).setCell ⟨w.heap.size + 1, 3, none⟩ (.string ⟨#[]⟩) = V at *
  have q0 := dU HX 0 _ rfl
  have q1 := dU HX 1 _ rfl
  have q2 := dU HX 2 _ rfl
  have q3 := dU HX 3 _ rfl
  clear z0 z1 z2 z3 f0 f1 f2 f3 p0 p1 p2
  refine bodyPost_ret (v := .tuple #[.agg #[.int .i64 0, .int .i64 0, .bool false, .string ⟨#[]⟩], .bool false]) (by simp [results, Tryz.results197, go_sem, q0, q1, q2, q3]) rfl ⟨rfl, dU HB⟩
end Go.Proofs.YtodfgehicpejgaaGreatDoor
