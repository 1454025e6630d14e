/- Several texts in one: ImFe, Q9O, StE, StH, StI, ImFm. -/
import Derived.Test.YtnogallomdckiaaGreatGbI
import Derived.Test.YtnogallomdckiaaGreatGaT
import Derived.Test.YtnogallomdckiaaGreatMnB
import Derived.Test.YtnogallomdckiaaGreatMnG
import Derived.Test.YtnogallomdckiaaGreatGbG
namespace Go.Proofs.YtnogallomdckiaaGreat
open Go.ChangeShapes Go.WideShapes Go.ChangeAt Go.RowKit
set_option linter.unusedSimpArgs false
set_option linter.unusedVariables false
set_option maxRecDepth 100000
theorem sorted_any (kv lv : Value) (sl : Int) (w : World) (ka la : Option Addr) (kn kc ln lc : Nat) (hk : kv = .slice ka kn kc) (hl : lv = .slice la ln lc) : Calls Tryz.prog 115 #[.agg #[kv, lv, .int .i64 sl]] w fun r w' => r = .returned kv ∧ Below w.heap.size w w' := by
 subst hk hl
 go_enter Tryz.func115, Tryz.ntmps115
 go_wp2
 go_ret
 exact ⟨rfl, (Below.refl _ _).alloc (Nat.le_refl _) _⟩
set_option maxHeartbeats 4000000 in
theorem implStoreOk_any (v : Value) (s : St) (w : World) (hv : Rs w v s) (hf : fitS s) :
  Calls Tryz.prog 114 #[v] w fun e w' => RetB (stP s) e ∧ Below w.heap.size w w' := by
 obtain ⟨kv, lv, rfl, hk, hl⟩ := hv
 obtain ⟨f1, f2, f3, f4⟩ := hf
 have C1 := dH fun W (hb : Below w.heap.size w W) => allOk_any kv s.kept W (hk.below hb) f1
 have C2 := dH fun W (hb : Below w.heap.size w W) => allOk_any lv s.late W (hl.below hb) f2
 have C3 := dH fun W (hb : Below w.heap.size w W) => ascending_any kv s.kept W (hk.below hb)
 obtain ⟨hk0, ka, kc, rfl, -, -⟩ := hk
 obtain ⟨hl0, la, lc, rfl, -, -⟩ := hl
 have C4 := dH fun W => sorted_any _ _ s.lock W ka la s.kept.length kc s.late.length lc rfl rfl
 have SD : Hid (stP s ↔ (s.kept.length ≤ 200 ∧ ∀ e ∈ s.kept, entP e) ∧ (s.late.length ≤ 20 ∧ ∀ e ∈ s.late, entP e) ∧ ascE s.kept ∧ 0 ≤ s.lock ∧ s.lock ≤ 30) := Iff.rfl
 generalize stP s = P at *
 generalize s.lock = sl at *
 have X0 := Bx.new w [.slice ka s.kept.length kc, .slice la s.late.length lc, .int .i64 sl] 79
 have B0 : Below w.heap.size w (w.alloc (.cells #[.slice ka s.kept.length kc, .slice la s.late.length lc, .int .i64 sl] 79)) := (Below.refl _ _).alloc (Nat.le_refl _) _
 have HX0 := dH X0
 clear X0
 by_cases h1 : (200 : Int) < (s.kept.length : Int)
 ·have R : RetB P (.returned (.bool false)) := RetB.no fun h => by have := ((dU SD).1 h).1.1; omega
  have hd : decide ((200 : Int) < (s.kept.length : Int)) = true := decide_eq_true h1
  go_enter Tryz.func114, Tryz.ntmps114
  go_wp2
  go_ret
  exact ⟨R, B0⟩
 by_cases h2 : (20 : Int) < (s.late.length : Int)
 ·have R : RetB P (.returned (.bool false)) := RetB.no fun h => by have := ((dU SD).1 h).2.1.1; omega
  have hd1 : decide ((200 : Int) < (s.kept.length : Int)) = false := decide_eq_false h1
  have hd : decide ((20 : Int) < (s.late.length : Int)) = true := decide_eq_true h2
  go_enter Tryz.func114, Tryz.ntmps114
  go_wp2
  go_ret
  exact ⟨R, B0⟩
 have hd1 : decide ((200 : Int) < (s.kept.length : Int)) = false := decide_eq_false h1
 have hd2 : decide ((20 : Int) < (s.late.length : Int)) = false := decide_eq_false h2
 by_cases h3 : sl < 0
 ·have R : RetB P (.returned (.bool false)) := RetB.no fun h => by have := ((dU SD).1 h).2.2.2.1; omega
  have hd : decide (sl < 0) = true := decide_eq_true h3
  go_enter Tryz.func114, Tryz.ntmps114
  go_wp2
  go_ret
  exact ⟨R, B0⟩
 have hd3 : decide (sl < 0) = false := decide_eq_false h3
 by_cases h4 : 30 < sl
 ·have R : RetB P (.returned (.bool false)) := RetB.no fun h => by have := ((dU SD).1 h).2.2.2.2; omega
  have hd : decide (30 < sl) = true := decide_eq_true h4
  go_enter Tryz.func114, Tryz.ntmps114
  go_wp2
  go_ret
  exact ⟨R, B0⟩
 have hd4 : decide (30 < sl) = false := decide_eq_false h4
 have HL := dH (show s.kept.length ≤ 200 ∧ s.late.length ≤ 20 ∧ 0 ≤ sl ∧ sl ≤ 30 by omega)
 go_enter Tryz.func114, Tryz.ntmps114
 go_wp2_with fail
 refine (dU C1 _ B0).mono ?_
 rintro e w1 ⟨⟨b1, rfl, k1⟩, bl1⟩
 have B1 := bT B0 bl1
 have HX1 := dH ((dU HX0).below bl1)
 clear B0 bl1 HX0 C1
 have p0 := dU HX1 0 _ rfl
 have p1 := dU HX1 1 _ rfl
 have p2 := dU HX1 2 _ rfl
 cases b1
 ·have R : RetB P (.returned (.bool false)) := RetB.no fun h => by have := k1.2 ((dU SD).1 h).1.2; cases this
  clear k1
  go_wp2
  go_ret
  exact ⟨R, B1⟩
 have H1 := dH (k1.1 rfl)
 clear k1
 go_wp2_with fail
 refine (dU C2 _ B1).mono ?_
 rintro e w2 ⟨⟨b2, rfl, k2⟩, bl2⟩
 have B2 := bT B1 bl2
 have HX2 := dH ((dU HX1).below bl2)
 clear B1 bl2 HX1 C2 p0 p1 p2
 have p0 := dU HX2 0 _ rfl
 have p1 := dU HX2 1 _ rfl
 have p2 := dU HX2 2 _ rfl
 cases b2
 ·have R : RetB P (.returned (.bool false)) := RetB.no fun h => by have := k2.2 ((dU SD).1 h).2.1.2; cases this
  clear k2
  go_wp2
  go_ret
  exact ⟨R, B2⟩
 have H2 := dH (k2.1 rfl)
 clear k2
 go_wp2_with fail
 refine (dU C4 _).mono ?_
 rintro e w3 ⟨rfl, bl3⟩
 have B3 := bT B2 bl3
 clear B2 bl3 HX2 C4 p0 p1 p2
 go_wp2_with fail
 refine (dU C3 _ B3).mono ?_
 rintro e w4 ⟨⟨b3, rfl, k3⟩, bl4⟩
 have B4 := bT B3 bl4
 clear B3 bl4 C3
 have R : RetB P (.returned (.bool b3)) := ⟨b3, rfl, fun h => (dU SD).2 ⟨⟨(dU HL).1, dU H1⟩, ⟨(dU HL).2.1, dU H2⟩, k3.1 h, (dU HL).2.2⟩, fun h => k3.2 ((dU SD).1 h).2.2.1⟩
 clear k3
 go_wp2
 go_ret
 exact ⟨R, B4⟩
theorem mn_at (ds : List Int) (cop : Int) (m : Mn) : mnP ds cop m ↔ atP ds cop m (if m.planned then 1 else 0) := by
 have hw : (∀ i (h : i < m.wrote.length), nodesP ds cop m.wrote[i]) ↔ ∀ l ∈ m.wrote, nodesP ds cop l := ⟨fun h l hl => by obtain ⟨i, hi, rfl⟩ := List.getElem_of_mem hl; exact h i hi, fun h i hi => h _ (List.getElem_mem hi)⟩
 unfold mnP mnH wroteP atP
 rw [hw]
 cases hp : m.planned with
 | true =>
  simp only [if_pos]
  constructor
  ·rintro ⟨⟨h1, h2, h3, h4, h5⟩, h6, h7, h8⟩
   exact ⟨by omega, by simp, by simpa using h8, ⟨h2, h3⟩, ⟨h4, h7⟩, h6, h5⟩
  ·rintro ⟨-, -, h8, ⟨h2, h3⟩, ⟨h4, h7⟩, h6, h5⟩
   exact ⟨⟨h4.1, h2, h3, h4, h5⟩, h6, h7, by simpa using h8⟩
 | false =>
  constructor
  ·rintro ⟨⟨h1, h2, h3, h4, h5⟩, h6, h7, h8⟩
   exact ⟨by intro h; simp at h, by intro h; simp at h, by simpa using h8, ⟨h2, h3⟩, ⟨h4, h7⟩, h6, h5⟩
  ·rintro ⟨-, -, h8, ⟨h2, h3⟩, ⟨h4, h7⟩, h6, h5⟩
   exact ⟨⟨h4.1, h2, h3, h4, h5⟩, h6, h7, by simpa using h8⟩
set_option maxHeartbeats 4000000 in
theorem implMendOk_any (cv v : Value) (c : List Int × Int) (m : Mn) (w : World) (hc : RdConfig cv c w) (hv : RdMend v m w) (okc : okConfig c) (ok : okMend m) (hsc : sizConfig c ≤ 1048576) (hs : sizMend m ≤ 1048576) :
  Calls Tryz.prog 16 #[cv, v] w fun e w' => RetB (mnP c.1 c.2 m) e ∧ Below w.heap.size w w' := by
 have ba : ∀ (w : World) o, Below w.heap.size w (w.alloc o) := fun w o => (Below.refl _ _).alloc (Nat.le_refl _) o
 have CS := dH fun W (hb : Below w.heap.size w W) => implStep_any v m W (hv.below hb)
 have CA : Hid (∀ W, Below w.heap.size w W → Calls Tryz.prog 64 #[v, cv, .int .i64 (if m.planned then 1 else 0)] W fun e w' => RetB (mnP c.1 c.2 m) e ∧ Below W.heap.size W w') := fun W hb => by
  rw [mn_at]
  cases hp : m.planned with
  | true => exact implAt1_any cv v c m W (hc.below hb) (hv.below hb) okc ok hsc (smlM_of hs)
  | false => exact implAt0_any cv v c m W (hc.below hb) (hv.below hb) okc ok hsc (smlM_of hs)
 obtain ⟨ds, cop⟩ := c
 obtain ⟨ca, cc, rfl, -⟩ := formConfig hc
 obtain ⟨sa, sc, ea, ec, wa, wc, rfl, hl1, hl2, hl3⟩ := formMend hv
 simp only at *
 generalize mnP ds cop m = P at *
 generalize (if m.planned = true then (1 : Int) else 0) = sp at *
 generalize m.bye = f0 at *
 generalize m.epoch = f1 at *
 generalize m.planned = f4 at *
 generalize m.sealed.length = l2 at *
 generalize m.seen.length = l3 at *
 generalize m.wrote.length = l5 at *
 clear hc hv okc ok hs
 have bA := bT (ba w (.cells #[.slice ca ds.length cc, .int .i64 cop] 26)) (ba _ (.cells #[.int .i64 f0, .int .i64 f1, .slice sa l2 sc, .slice ea l3 ec, .bool f4, .slice wa l5 wc] 30))
 have X0 := (Bx.new w [.slice ca ds.length cc, .int .i64 cop] 26).below (ba _ (.cells #[.int .i64 f0, .int .i64 f1, .slice sa l2 sc, .slice ea l3 ec, .bool f4, .slice wa l5 wc] 30))
 have Y0 := Bx.new (w.alloc (.cells #[.slice ca ds.length cc, .int .i64 cop] 26)) [.int .i64 f0, .int .i64 f1, .slice sa l2 sc, .slice ea l3 ec, .bool f4, .slice wa l5 wc] 30
 have e1 : (w.alloc (.cells #[.slice ca ds.length cc, .int .i64 cop] 26)).heap.size = w.heap.size + 1 := by simp
 rw [e1] at Y0
 clear e1
 go_enter Tryz.func16, Tryz.ntmps16
 go_wp2_with fail
 generalize (w.alloc (.cells #[.slice ca ds.length cc, .int .i64 cop] 26)).alloc (.cells #[.int .i64 f0, .int .i64 f1, .slice sa l2 sc, .slice ea l3 ec, .bool f4, .slice wa l5 wc] 30) = w0 at *
 have PP : Hid (∀ W, Below w0.heap.size w0 W → (W.cell? ⟨w.heap.size, 0, none⟩ = some (.slice ca ds.length cc) ∧ W.cell? ⟨w.heap.size, 1, none⟩ = some (.int .i64 cop)) ∧ W.cell? ⟨w.heap.size + 1, 0, none⟩ = some (.int .i64 f0) ∧ W.cell? ⟨w.heap.size + 1, 1, none⟩ = some (.int .i64 f1) ∧ W.cell? ⟨w.heap.size + 1, 2, none⟩ = some (.slice sa l2 sc) ∧ W.cell? ⟨w.heap.size + 1, 3, none⟩ = some (.slice ea l3 ec) ∧ W.cell? ⟨w.heap.size + 1, 4, none⟩ = some (.bool f4) ∧ W.cell? ⟨w.heap.size + 1, 5, none⟩ = some (.slice wa l5 wc)) := fun W hW => ⟨⟨X0.below hW 0 _ rfl, X0.below hW 1 _ rfl⟩, Y0.below hW 0 _ rfl, Y0.below hW 1 _ rfl, Y0.below hW 2 _ rfl, Y0.below hW 3 _ rfl, Y0.below hW 4 _ rfl, Y0.below hW 5 _ rfl⟩
 have bd : Below w0.heap.size w0 w0.drew := (Below.refl _ _).drew
 clear X0 Y0
 go_region_held3 (fun W => (W.cell? ⟨w.heap.size, 0, none⟩ = some (.slice ca ds.length cc) ∧ W.cell? ⟨w.heap.size, 1, none⟩ = some (.int .i64 cop)) ∧ W.cell? ⟨w.heap.size + 1, 0, none⟩ = some (.int .i64 f0) ∧ W.cell? ⟨w.heap.size + 1, 1, none⟩ = some (.int .i64 f1) ∧ W.cell? ⟨w.heap.size + 1, 2, none⟩ = some (.slice sa l2 sc) ∧ W.cell? ⟨w.heap.size + 1, 3, none⟩ = some (.slice ea l3 ec) ∧ W.cell? ⟨w.heap.size + 1, 4, none⟩ = some (.bool f4) ∧ W.cell? ⟨w.heap.size + 1, 5, none⟩ = some (.slice wa l5 wc)) (first | exact dU PP _ hb6 | exact dU PP _ hb5 | exact dU PP _ (Below.refl _ _) | exact dU PP _ bd | go_keep)
  (first
   | (go_at_call 65; refine (dU CS _ (bT bA bd)).mono ?_; rintro e w5 ⟨rfl, b5⟩; have hb5 := bT bd b5)
   | (go_at_call 64; refine (dU CA _ (bT bA hb5)).mono ?_; rintro e w6 ⟨⟨b6, rfl, h6⟩, bl6⟩; have hb6 := bT hb5 bl6))
 all_goals
  have R : Hid (RetB P (.returned (.bool b6))) := ⟨_, rfl, h6⟩
  clear h6 CS CA
  go_wp2
  go_ret
  exact ⟨dU R, bT bA hb6⟩
def zeroSt : St := ⟨[], [], 0⟩
theorem OwS.zero (w : World) (base : Nat) : OwS w base (.agg #[.slice none 0 0, .slice none 0 0, .int .i64 0]) zeroSt := ⟨_, _, rfl, .inl ⟨rfl, none, rfl⟩, .inl ⟨rfl, none, rfl⟩, .inl rfl⟩
theorem OwS.far {w : World} {base : Nat} {v : Value} {s : St} (h : OwS w base v s) {b o : Nat} (hb : b < base) (u : Value) : OwS (w.setCell ⟨b, o, none⟩ u) base v s := by
 obtain ⟨kv, lv, h1, h2, h3, h4⟩ := h
 exact ⟨kv, lv, h1, ApR.far elemE h2 hb u, ApR.far elemE h3 hb u, h4⟩
def noEnt : Ent := ⟨0, 0, false, ⟨#[]⟩⟩
def findT (o : Option Ent) : Value := match o with
 | some e => .tuple #[e.val, .bool true]
 | none => .tuple #[noEnt.val, .bool false]
theorem getL_some {es : List Ent} {x : Int} {k : Nat} (hk : k < es.length) (he : es[k].pl = x) (hn : ∀ i (h : i < es.length), i < k → es[i].pl ≠ x) : getL es x = some es[k] := by
 unfold getL
 rw [List.find?_eq_some_iff_getElem]
 refine ⟨by simp [he], k, hk, rfl, fun j hj => ?_⟩
 have := hn j (by omega) hj
 simp [this]
theorem getL_none {es : List Ent} {x : Int} (hn : ∀ i (h : i < es.length), es[i].pl ≠ x) : getL es x = none := by
 unfold getL
 rw [List.find?_eq_none]
 intro e he
 obtain ⟨i, hi, rfl⟩ := List.getElem_of_mem he
 simp [hn i hi]
set_option maxHeartbeats 2000000 in
theorem l6Get_any (v : Value) (es : List Ent) (x : Int) (w : World) (hv : Rw 4 Ent.cl w v es) :
  Calls Tryz.prog 113 #[v, .int .i64 x] w fun r w' => r = .returned (findT (getL es x)) ∧ Below w.heap.size w w' := by
 have ba : ∀ (w : World) o, Below w.heap.size w (w.alloc o) := fun w o => (Below.refl _ _).alloc (Nat.le_refl _) o
 have HV := dH (hv.below (ba w (.cells #[.int .i64 0, .int .i64 0, .bool false, .string ⟨#[]⟩] 36)))
 obtain ⟨h0, a, cap, rfl, -, -⟩ := hv
 have Z0 := BxZ.new w [.int .i64 0, .int .i64 0, .bool false, .string ⟨#[]⟩] 36 (Nat.le_refl _)
 have B0 := ba w (.cells #[.int .i64 0, .int .i64 0, .bool false, .string ⟨#[]⟩] 36)
 clear ba
 go_enter Tryz.func113, Tryz.ntmps113
 go_wp2
 generalize w.alloc (.cells #[.int .i64 0, .int .i64 0, .bool false, .string ⟨#[]⟩] 36) = w0 at *
 obtain ⟨z0, f0⟩ := Z0.2 0 _ rfl
 obtain ⟨z1, f1⟩ := Z0.2 1 _ rfl
 obtain ⟨z2, f2⟩ := Z0.2 2 _ rfl
 obtain ⟨z3, f3⟩ := Z0.2 3 _ rfl
 go_loop [6] (fun i => ∃ k : Nat, i = .int .i64 (k : Int) ∧ k ≤ es.length ∧ Hid (∀ i (h : i < es.length), i < k → es[i].pl ≠ x)) (fun i => es.length - (intOf i).toNat)
 case atStart => exact ⟨0, rfl, Nat.zero_le _, fun i h h' => by omega⟩
 case round =>
  obtain ⟨k, rfl, hk, hinv⟩ := hrel
  by_cases hlt : (k : Int) < (es.length : Int)
  ·have hkl : k < es.length := by omega
   obtain ⟨b, off, rfl, hc⟩ := (dU HV).ent hkl
   obtain ⟨c0, c1, c2, c3⟩ := hc k hkl
   have hf := dH fun h => getL_some (es := es) (x := x) hkl h (dU hinv)
   have hst : Hid (es[k].pl ≠ x → ∀ i (h : i < es.length), i < k + 1 → es[i].pl ≠ x) := fun he i h h' => by
    rcases Nat.lt_or_ge i k with h1 | h1
    ·exact dU hinv i h h1
    ·obtain rfl : i = k := by omega
     exact he
   generalize es[k] = e at *
   obtain ⟨yx, yw, yh, yd⟩ := e
   simp only at *
   clear hc HV hinv
   by_cases hx : yx = x
   ·have eG := dH (dU hf hx)
    have d1 : (yx == x) = true := by simp [hx]
    have ZZ := dH ((((Z0.put 0 (.int .i64 yx)).put 1 (.int .i64 yw)).put 2 (.bool yh)).put 3 (.string yd))
    have BB := dH ((((B0.setCell (p := ⟨w.heap.size, 0, none⟩) (Nat.le_refl _) (.int .i64 yx)).setCell (p := ⟨w.heap.size, 1, none⟩) (Nat.le_refl _) (.int .i64 yw)).setCell (p := ⟨w.heap.size, 2, none⟩) (Nat.le_refl _) (.bool yh)).setCell (p := ⟨w.heap.size, 3, none⟩) (Nat.le_refl _) (.string yd))
    clear hx hf hst Z0 B0
    go_wp2
    have q0 := ((dU ZZ).2 0 _ rfl).1
    have q1 := ((dU ZZ).2 1 _ rfl).1
    have q2 := ((dU ZZ).2 2 _ rfl).1
    have q3 := ((dU ZZ).2 3 _ rfl).1
    have hB := dU BB
    clear ZZ BB z0 z1 z2 z3 f0 f1 f2 f3 c0 c1 c2 c3
    generalize (((w0.setCell ⟨w.heap.size, 0, none⟩ (.int .i64 yx)).setCell ⟨w.heap.size, 1, none⟩ (.int .i64 yw)).setCell ⟨w.heap.size, 2, none⟩ (.bool yh)).setCell ⟨w.heap.size, 3, none⟩ (.string yd) = V at *
    refine bodyPost_ret (v := .tuple #[.agg #[.int .i64 yx, .int .i64 yw, .bool yh, .string yd], .bool true]) (by simp [results, Tryz.results113, go_sem, q0, q1, q2, q3]) rfl ⟨by rw [dU eG]; rfl, hB⟩
   ·have R := dH (dU hst hx)
    have d1 : (yx == x) = false := by simp [hx]
    clear hx hf hst
    go_wp2
    go_round
    case rel => exact ⟨k + 1, by go_num, by omega, R⟩
    case measure => simp [intOf]; omega
  ·have eG := dH (getL_none (es := es) (x := x) fun i h => dU hinv i h (by omega))
   have ZZ := dH ((((Z0.put 0 (.int .i64 0)).put 1 (.int .i64 0)).put 2 (.bool false)).put 3 (.string ⟨#[]⟩))
   have BB := dH ((((B0.setCell (p := ⟨w.heap.size, 0, none⟩) (Nat.le_refl _) (.int .i64 0)).setCell (p := ⟨w.heap.size, 1, none⟩) (Nat.le_refl _) (.int .i64 0)).setCell (p := ⟨w.heap.size, 2, none⟩) (Nat.le_refl _) (.bool false)).setCell (p := ⟨w.heap.size, 3, none⟩) (Nat.le_refl _) (.string ⟨#[]⟩))
   clear hinv HV Z0 B0
   go_wp2
   have q0 := ((dU ZZ).2 0 _ rfl).1
   have q1 := ((dU ZZ).2 1 _ rfl).1
   have q2 := ((dU ZZ).2 2 _ rfl).1
   have q3 := ((dU ZZ).2 3 _ rfl).1
   have hB := dU BB
   clear ZZ BB z0 z1 z2 z3 f0 f1 f2 f3
   generalize (((w0.setCell ⟨w.heap.size, 0, none⟩ (.int .i64 0)).setCell ⟨w.heap.size, 1, none⟩ (.int .i64 0)).setCell ⟨w.heap.size, 2, none⟩ (.bool false)).setCell ⟨w.heap.size, 3, none⟩ (.string ⟨#[]⟩) = V at *
   refine bodyPost_ret (v := .tuple #[.agg #[.int .i64 0, .int .i64 0, .bool false, .string ⟨#[]⟩], .bool false]) (by simp [results, Tryz.results113, go_sem, q0, q1, q2, q3]) rfl ⟨by rw [dU eG]; rfl, hB⟩
open Classical in
noncomputable def getM (s : St) (x : Int) : Option Ent := if stP s then getL s.kept x else none
theorem getM_bad {s : St} {x : Int} (h : ¬ stP s) : getM s x = none := if_neg h
theorem getM_ok {s : St} {x : Int} (h : stP s) : getM s x = getL s.kept x := if_pos h
set_option maxHeartbeats 4000000 in
theorem implGet_any (v : Value) (s : St) (x : Int) (w : World) (hv : Rs w v s) (hf : fitS s) :
  Calls Tryz.prog 37 #[v, .int .i64 x] w fun r w' => r = .returned (findT (getM s x)) ∧ Below w.heap.size w w' := by
 have ba : ∀ (w : World) o, Below w.heap.size w (w.alloc o) := fun w o => (Below.refl _ _).alloc (Nat.le_refl _) o
 have C1 := dH fun W (hb : Below w.heap.size w W) => implStoreOk_any v s W (hv.below hb) hf
 obtain ⟨kv, lv, rfl, rk, rl⟩ := hv
 have C5 := dH fun W (hb : Below w.heap.size w W) (hs : stP s) => find_any kv s.kept x W (rk.below hb) hs.2.2.1 (by have := hs.1.1; omega)
 have HK := dH fun W (hb : Below w.heap.size w W) => rk.below hb
 obtain ⟨-, ka, kc, rfl, -, -⟩ := rk
 obtain ⟨-, la, lc, rfl, -, -⟩ := rl
 have GB : Hid (¬ stP s → findT (getM s x) = .tuple #[noEnt.val, .bool false]) := fun h => by rw [getM_bad h]; rfl
 have GN : Hid (stP s → ∀ i, posP s.kept x i → ¬ foundP s.kept x i → findT (getM s x) = .tuple #[noEnt.val, .bool false]) := fun h i hp hn => by rw [getM_ok h, getL_no hp h.2.2.1 (fun hi he => hn ⟨hi, he⟩)]; rfl
 have GY : Hid (stP s → ∀ i, posP s.kept x i → ∀ hi : i < s.kept.length, s.kept[i].pl = x → findT (getM s x) = .tuple #[s.kept[i].val, .bool true]) := fun h i hp hi he => by rw [getM_ok h, getL_yes hp hi he]; rfl
 generalize findT (getM s x) = M at *
 have X0 := (Bx.new w [.slice ka s.kept.length kc, .slice la s.late.length lc, .int .i64 s.lock] 79).below (ba _ (.cells #[.int .i64 0, .int .i64 0, .bool false, .string ⟨#[]⟩] 36))
 have Z0 := BxZ.new (B := w.heap.size) (w.alloc (.cells #[.slice ka s.kept.length kc, .slice la s.late.length lc, .int .i64 s.lock] 79)) [.int .i64 0, .int .i64 0, .bool false, .string ⟨#[]⟩] 36 (by simp)
 have B0 := bT (ba w (.cells #[.slice ka s.kept.length kc, .slice la s.late.length lc, .int .i64 s.lock] 79)) (ba _ (.cells #[.int .i64 0, .int .i64 0, .bool false, .string ⟨#[]⟩] 36))
 have e1 : (w.alloc (.cells #[.slice ka s.kept.length kc, .slice la s.late.length lc, .int .i64 s.lock] 79)).heap.size = w.heap.size + 1 := by simp
 rw [e1] at Z0
 clear e1 hf
 unfold noEnt Ent.val at *
 simp only at *
 go_enter Tryz.func37, Tryz.ntmps37
 go_wp2_with fail
 generalize (w.alloc (.cells #[.slice ka s.kept.length kc, .slice la s.late.length lc, .int .i64 s.lock] 79)).alloc (.cells #[.int .i64 0, .int .i64 0, .bool false, .string ⟨#[]⟩] 36) = w0 at *
 refine (dU C1 _ B0).mono ?_
 rintro r w1 ⟨hr, b1⟩
 have B1 := bT B0 b1
 have X1 := X0.below b1
 have Z1 := Z0.below b1
 clear B0 b1 X0 Z0 C1
 have p0 := X1 0 _ rfl
 have p1 := X1 1 _ rfl
 have p2 := X1 2 _ rfl
 have ZW : Hid (∀ W, BxZ W w.heap.size (w.heap.size + 1) [.int .i64 0, .int .i64 0, .bool false, .string ⟨#[]⟩] → Below w.heap.size w W → ∀ (a b : Int) (c : Bool) (d : ByteArray), Bx ((((W.setCell ⟨w.heap.size + 1, 0, none⟩ (.int .i64 a)).setCell ⟨w.heap.size + 1, 1, none⟩ (.int .i64 b)).setCell ⟨w.heap.size + 1, 2, none⟩ (.bool c)).setCell ⟨w.heap.size + 1, 3, none⟩ (.string d)) (w.heap.size + 1) [.int .i64 a, .int .i64 b, .bool c, .string d] ∧ Below w.heap.size w ((((W.setCell ⟨w.heap.size + 1, 0, none⟩ (.int .i64 a)).setCell ⟨w.heap.size + 1, 1, none⟩ (.int .i64 b)).setCell ⟨w.heap.size + 1, 2, none⟩ (.bool c)).setCell ⟨w.heap.size + 1, 3, none⟩ (.string d))) := fun W hZ hB a b c d =>
  ⟨((((hZ.put 0 (.int .i64 a)).put 1 (.int .i64 b)).put 2 (.bool c)).put 3 (.string d)).bx, (((hB.setCell (p := ⟨w.heap.size + 1, 0, none⟩) (Nat.le_succ _) _).setCell (p := ⟨w.heap.size + 1, 1, none⟩) (Nat.le_succ _) _).setCell (p := ⟨w.heap.size + 1, 2, none⟩) (Nat.le_succ _) _).setCell (p := ⟨w.heap.size + 1, 3, none⟩) (Nat.le_succ _) _⟩
 by_cases hs : stP s
 ·obtain rfl := hr.of_yes hs
  have GN := dH (dU GN hs)
  have GY := dH (dU GY hs)
  have C5 := dH fun W hb => dU C5 W hb hs
  clear hs hr GB
  go_wp2_with fail
  refine (sorted_any _ _ s.lock _ ka la s.kept.length kc s.late.length lc rfl rfl).mono ?_
  rintro r w2 ⟨rfl, b2⟩
  have B2 := bT B1 b2
  have X2 := X1.below b2
  have Z2 := Z1.below b2
  clear B1 X1 Z1 p0 p1 p2 b2
  go_wp2_with fail
  refine (dU C5 _ B2).mono ?_
  rintro r w3 ⟨⟨i, fb, rfl, hp, hfb⟩, b3⟩
  have B3 := bT B2 b3
  have X3 := X2.below b3
  have Z3 := Z2.below b3
  clear B2 X2 Z2 b3 C5
  have p0 := X3 0 _ rfl
  have p1 := X3 1 _ rfl
  have p2 := X3 2 _ rfl
  obtain ⟨z0, f0⟩ := Z3.2 0 _ rfl
  obtain ⟨z1, f1⟩ := Z3.2 1 _ rfl
  obtain ⟨z2, f2⟩ := Z3.2 2 _ rfl
  obtain ⟨z3, f3⟩ := Z3.2 3 _ rfl
  cases fb
  ·have eM := dU GN i hp (fun h => by have := hfb.2 h; cases this)
   obtain ⟨hx, hb⟩ := dU ZW _ Z3 B3 0 0 false ⟨#[]⟩
   have HX := dH hx
   have HB := dH hb
   clear hx hb GN GY hfb hp ZW X3 Z3 B3 HK
   subst eM
   go_wp2
   generalize (((w3.setCell ⟨w.heap.size + 1, 0, none⟩ (.int .i64 0)).setCell ⟨w.heap.size + 1, 1, none⟩ (.int .i64 0)).setCell ⟨w.heap.size + 1, 2, none⟩ (.bool false)).setCell ⟨w.heap.size + 1, 3, none⟩ (.string ⟨#[]⟩) = V at *
   have q0 := dU HX 0 _ rfl
   have q1 := dU HX 1 _ rfl
   have q2 := dU HX 2 _ rfl
   have q3 := dU HX 3 _ rfl
   clear z0 z1 z2 z3 f0 f1 f2 f3 p0 p1 p2
   refine bodyPost_ret (v := .tuple #[.agg #[.int .i64 0, .int .i64 0, .bool false, .string ⟨#[]⟩], .bool false]) (by simp [results, Tryz.results37, go_sem, q0, q1, q2, q3]) rfl ⟨rfl, dU HB⟩
  ·obtain ⟨hi, hfe⟩ := hfb.1 rfl
   have eM := dU GY i hp hi hfe
   obtain ⟨b, off, rfl, hc⟩ := (dU HK _ B3).ent hi
   obtain ⟨c0, c1, c2, c3⟩ := hc i hi
   generalize s.kept[i] = y at *
   obtain ⟨yx, yw, yh, yd⟩ := y
   obtain ⟨hx, hb⟩ := dU ZW _ Z3 B3 yx yw yh yd
   have HX := dH hx
   have HB := dH hb
   have hi2 : (i : Int) < (s.kept.length : Int) := by omega
   simp only at *
   clear hx hb GN GY hfb hp ZW X3 Z3 B3 HK hc hfe
   subst eM
   go_wp2
   generalize (((w3.setCell ⟨w.heap.size + 1, 0, none⟩ (.int .i64 yx)).setCell ⟨w.heap.size + 1, 1, none⟩ (.int .i64 yw)).setCell ⟨w.heap.size + 1, 2, none⟩ (.bool yh)).setCell ⟨w.heap.size + 1, 3, none⟩ (.string yd) = V at *
   have q0 := dU HX 0 _ rfl
   have q1 := dU HX 1 _ rfl
   have q2 := dU HX 2 _ rfl
   have q3 := dU HX 3 _ rfl
   clear z0 z1 z2 z3 f0 f1 f2 f3 p0 p1 p2 c0 c1 c2 c3
   refine bodyPost_ret (v := .tuple #[.agg #[.int .i64 yx, .int .i64 yw, .bool yh, .string yd], .bool true]) (by simp [results, Tryz.results37, go_sem, q0, q1, q2, q3]) rfl ⟨rfl, dU HB⟩
 ·obtain rfl := hr.of_no hs
  have eM := dU GB hs
  obtain ⟨z0, f0⟩ := Z1.2 0 _ rfl
  obtain ⟨z1, f1⟩ := Z1.2 1 _ rfl
  obtain ⟨z2, f2⟩ := Z1.2 2 _ rfl
  obtain ⟨z3, f3⟩ := Z1.2 3 _ rfl
  obtain ⟨hx, hb⟩ := dU ZW _ Z1 B1 0 0 false ⟨#[]⟩
  have HX := dH hx
  have HB := dH hb
  clear hx hb GB GN GY hr ZW X1 Z1 B1 HK C5 hs
  subst eM
  go_wp2
  generalize (((w1.setCell ⟨w.heap.size + 1, 0, none⟩ (.int .i64 0)).setCell ⟨w.heap.size + 1, 1, none⟩ (.int .i64 0)).setCell ⟨w.heap.size + 1, 2, none⟩ (.bool false)).setCell ⟨w.heap.size + 1, 3, none⟩ (.string ⟨#[]⟩) = V at *
  have q0 := dU HX 0 _ rfl
  have q1 := dU HX 1 _ rfl
  have q2 := dU HX 2 _ rfl
  have q3 := dU HX 3 _ rfl
  clear z0 z1 z2 z3 f0 f1 f2 f3 p0 p1 p2
  refine bodyPost_ret (v := .tuple #[.agg #[.int .i64 0, .int .i64 0, .bool false, .string ⟨#[]⟩], .bool false]) (by simp [results, Tryz.results37, go_sem, q0, q1, q2, q3]) rfl ⟨rfl, dU HB⟩
end Go.Proofs.YtnogallomdckiaaGreat
