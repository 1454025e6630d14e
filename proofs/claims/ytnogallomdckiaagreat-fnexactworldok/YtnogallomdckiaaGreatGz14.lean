/- Several texts in one: ImFe, Q9O. -/
import Derived.Test.YtnogallomdckiaaGreatGbI
import Derived.Test.YtnogallomdckiaaGreatGaT
import Derived.Test.YtnogallomdckiaaGreatMnB
import Derived.Test.YtnogallomdckiaaGreatMnG
namespace Go.Proofs.YtnogallomdckiaaGreat
open Go.ChangeShapes Go.WideShapes Go.ChangeAt Go.RowKit
set_option linter.unusedSimpArgs false
set_option linter.unusedVariables false
set_option maxRecDepth 100000
theorem sorted_any (kv lv : Value) (sl : Int) (w : World) (ka la : Option Addr) (kn kc ln lc : Nat) (hk : kv = .slice ka kn kc) (hl : lv = .slice la ln lc) : Calls Tryz.prog 115 #[.agg #[kv, lv, .int .i64 sl]] w fun r w' => r = .returned kv ∧ Below w.heap.size w w' := by
 subst hk hl
 go_enter Tryz.func115, Tryz.ntmps115
 go_wp2
 go_ret
 exact ⟨rfl, (Below.refl _ _).alloc (Nat.le_refl _) _⟩
set_option maxHeartbeats 4000000 in
theorem implStoreOk_any (v : Value) (s : St) (w : World) (hv : Rs w v s) (hf : fitS s) :
  Calls Tryz.prog 114 #[v] w fun e w' => RetB (stP s) e ∧ Below w.heap.size w w' := by
 obtain ⟨kv, lv, rfl, hk, hl⟩ := hv
 obtain ⟨f1, f2, f3, f4⟩ := hf
 have C1 := dH fun W (hb : Below w.heap.size w W) => allOk_any kv s.kept W (hk.below hb) f1
 have C2 := dH fun W (hb : Below w.heap.size w W) => allOk_any lv s.late W (hl.below hb) f2
 have C3 := dH fun W (hb : Below w.heap.size w W) => ascending_any kv s.kept W (hk.below hb)
 obtain ⟨hk0, ka, kc, rfl, -, -⟩ := hk
 obtain ⟨hl0, la, lc, rfl, -, -⟩ := hl
 have C4 := dH fun W => sorted_any _ _ s.lock W ka la s.kept.length kc s.late.length lc rfl rfl
 have SD : Hid (stP s ↔ (s.kept.length ≤ 200 ∧ ∀ e ∈ s.kept, entP e) ∧ (s.late.length ≤ 20 ∧ ∀ e ∈ s.late, entP e) ∧ ascE s.kept ∧ 0 ≤ s.lock ∧ s.lock ≤ 30) := Iff.rfl
 generalize stP s = P at *
 generalize s.lock = sl at *
 have X0 := Bx.new w [.slice ka s.kept.length kc, .slice la s.late.length lc, .int .i64 sl] 79
 have B0 : Below w.heap.size w (w.alloc (.cells #[.slice ka s.kept.length kc, .slice la s.late.length lc, .int .i64 sl] 79)) := (Below.refl _ _).alloc (Nat.le_refl _) _
 have HX0 := dH X0
 clear X0
 by_cases h1 : (200 : Int) < (s.kept.length : Int)
 ·have R : RetB P (.returned (.bool false)) := RetB.no fun h => by have := ((dU SD).1 h).1.1; omega
  have hd : decide ((200 : Int) < (s.kept.length : Int)) = true := decide_eq_true h1
  go_enter Tryz.func114, Tryz.ntmps114
  go_wp2
  go_ret
  exact ⟨R, B0⟩
 by_cases h2 : (20 : Int) < (s.late.length : Int)
 ·have R : RetB P (.returned (.bool false)) := RetB.no fun h => by have := ((dU SD).1 h).2.1.1; omega
  have hd1 : decide ((200 : Int) < (s.kept.length : Int)) = false := decide_eq_false h1
  have hd : decide ((20 : Int) < (s.late.length : Int)) = true := decide_eq_true h2
  go_enter Tryz.func114, Tryz.ntmps114
  go_wp2
  go_ret
  exact ⟨R, B0⟩
 have hd1 : decide ((200 : Int) < (s.kept.length : Int)) = false := decide_eq_false h1
 have hd2 : decide ((20 : Int) < (s.late.length : Int)) = false := decide_eq_false h2
 by_cases h3 : sl < 0
 ·have R : RetB P (.returned (.bool false)) := RetB.no fun h => by have := ((dU SD).1 h).2.2.2.1; omega
  have hd : decide (sl < 0) = true := decide_eq_true h3
  go_enter Tryz.func114, Tryz.ntmps114
  go_wp2
  go_ret
  exact ⟨R, B0⟩
 have hd3 : decide (sl < 0) = false := decide_eq_false h3
 by_cases h4 : 30 < sl
 ·have R : RetB P (.returned (.bool false)) := RetB.no fun h => by have := ((dU SD).1 h).2.2.2.2; omega
  have hd : decide (30 < sl) = true := decide_eq_true h4
  go_enter Tryz.func114, Tryz.ntmps114
  go_wp2
  go_ret
  exact ⟨R, B0⟩
 have hd4 : decide (30 < sl) = false := decide_eq_false h4
 have HL := dH (show s.kept.length ≤ 200 ∧ s.late.length ≤ 20 ∧ 0 ≤ sl ∧ sl ≤ 30 by omega)
 go_enter Tryz.func114, Tryz.ntmps114
 go_wp2_with fail
 refine (dU C1 _ B0).mono ?_
 rintro e w1 ⟨⟨b1, rfl, k1⟩, bl1⟩
 have B1 := bT B0 bl1
 have HX1 := dH ((dU HX0).below bl1)
 clear B0 bl1 HX0 C1
 have p0 := dU HX1 0 _ rfl
 have p1 := dU HX1 1 _ rfl
 have p2 := dU HX1 2 _ rfl
 cases b1
 ·have R : RetB P (.returned (.bool false)) := RetB.no fun h => by have := k1.2 ((dU SD).1 h).1.2; cases this
  clear k1
  go_wp2
  go_ret
  exact ⟨R, B1⟩
 have H1 := dH (k1.1 rfl)
 clear k1
 go_wp2_with fail
 refine (dU C2 _ B1).mono ?_
 rintro e w2 ⟨⟨b2, rfl, k2⟩, bl2⟩
 have B2 := bT B1 bl2
 have HX2 := dH ((dU HX1).below bl2)
 clear B1 bl2 HX1 C2 p0 p1 p2
 have p0 := dU HX2 0 _ rfl
 have p1 := dU HX2 1 _ rfl
 have p2 := dU HX2 2 _ rfl
 cases b2
 ·have R : RetB P (.returned (.bool false)) := RetB.no fun h => by have := k2.2 ((dU SD).1 h).2.1.2; cases this
  clear k2
  go_wp2
  go_ret
  exact ⟨R, B2⟩
 have H2 := dH (k2.1 rfl)
 clear k2
 go_wp2_with fail
 refine (dU C4 _).mono ?_
 rintro e w3 ⟨rfl, bl3⟩
 have B3 := bT B2 bl3
 clear B2 bl3 HX2 C4 p0 p1 p2
 go_wp2_with fail
 refine (dU C3 _ B3).mono ?_
 rintro e w4 ⟨⟨b3, rfl, k3⟩, bl4⟩
 have B4 := bT B3 bl4
 clear B3 bl4 C3
 have R : RetB P (.returned (.bool b3)) := ⟨b3, rfl, fun h => (dU SD).2 ⟨⟨(dU HL).1, dU H1⟩, ⟨(dU HL).2.1, dU H2⟩, k3.1 h, (dU HL).2.2⟩, fun h => k3.2 ((dU SD).1 h).2.2.1⟩
 clear k3
 go_wp2
 go_ret
 exact ⟨R, B4⟩
theorem mn_at (ds : List Int) (cop : Int) (m : Mn) : mnP ds cop m ↔ atP ds cop m (if m.planned then 1 else 0) := by
 have hw : (∀ i (h : i < m.wrote.length), nodesP ds cop m.wrote[i]) ↔ ∀ l ∈ m.wrote, nodesP ds cop l := ⟨fun h l hl => by obtain ⟨i, hi, rfl⟩ := List.getElem_of_mem hl; exact h i hi, fun h i hi => h _ (List.getElem_mem hi)⟩
 unfold mnP mnH wroteP atP
 rw [hw]
 cases hp : m.planned with
 | true =>
  simp only [if_pos]
  constructor
  ·rintro ⟨⟨h1, h2, h3, h4, h5⟩, h6, h7, h8⟩
   exact ⟨by omega, by simp, by simpa using h8, ⟨h2, h3⟩, ⟨h4, h7⟩, h6, h5⟩
  ·rintro ⟨-, -, h8, ⟨h2, h3⟩, ⟨h4, h7⟩, h6, h5⟩
   exact ⟨⟨h4.1, h2, h3, h4, h5⟩, h6, h7, by simpa using h8⟩
 | false =>
  constructor
  ·rintro ⟨⟨h1, h2, h3, h4, h5⟩, h6, h7, h8⟩
   exact ⟨by intro h; simp at h, by intro h; simp at h, by simpa using h8, ⟨h2, h3⟩, ⟨h4, h7⟩, h6, h5⟩
  ·rintro ⟨-, -, h8, ⟨h2, h3⟩, ⟨h4, h7⟩, h6, h5⟩
   exact ⟨⟨h4.1, h2, h3, h4, h5⟩, h6, h7, by simpa using h8⟩
set_option maxHeartbeats 4000000 in
theorem implMendOk_any (cv v : Value) (c : List Int × Int) (m : Mn) (w : World) (hc : RdConfig cv c w) (hv : RdMend v m w) (okc : okConfig c) (ok : okMend m) (hsc : sizConfig c ≤ 1048576) (hs : sizMend m ≤ 1048576) :
  Calls Tryz.prog 16 #[cv, v] w fun e w' => RetB (mnP c.1 c.2 m) e ∧ Below w.heap.size w w' := by
 have ba : ∀ (w : World) o, Below w.heap.size w (w.alloc o) := fun w o => (Below.refl _ _).alloc (Nat.le_refl _) o
 have CS := dH fun W (hb : Below w.heap.size w W) => implStep_any v m W (hv.below hb)
 have CA : Hid (∀ W, Below w.heap.size w W → Calls Tryz.prog 64 #[v, cv, .int .i64 (if m.planned then 1 else 0)] W fun e w' => RetB (mnP c.1 c.2 m) e ∧ Below W.heap.size W w') := fun W hb => by
  rw [mn_at]
  cases hp : m.planned with
  | true => exact implAt1_any cv v c m W (hc.below hb) (hv.below hb) okc ok hsc (smlM_of hs)
  | false => exact implAt0_any cv v c m W (hc.below hb) (hv.below hb) okc ok hsc (smlM_of hs)
 obtain ⟨ds, cop⟩ := c
 obtain ⟨ca, cc, rfl, -⟩ := formConfig hc
 obtain ⟨sa, sc, ea, ec, wa, wc, rfl, hl1, hl2, hl3⟩ := formMend hv
 simp only at *
 generalize mnP ds cop m = P at *
 generalize (if m.planned = true then (1 : Int) else 0) = sp at *
 generalize m.bye = f0 at *
 generalize m.epoch = f1 at *
 generalize m.planned = f4 at *
 generalize m.sealed.length = l2 at *
 generalize m.seen.length = l3 at *
 generalize m.wrote.length = l5 at *
 clear hc hv okc ok hs
 have bA := bT (ba w (.cells #[.slice ca ds.length cc, .int .i64 cop] 26)) (ba _ (.cells #[.int .i64 f0, .int .i64 f1, .slice sa l2 sc, .slice ea l3 ec, .bool f4, .slice wa l5 wc] 30))
 have X0 := (Bx.new w [.slice ca ds.length cc, .int .i64 cop] 26).below (ba _ (.cells #[.int .i64 f0, .int .i64 f1, .slice sa l2 sc, .slice ea l3 ec, .bool f4, .slice wa l5 wc] 30))
 have Y0 := Bx.new (w.alloc (.cells #[.slice ca ds.length cc, .int .i64 cop] 26)) [.int .i64 f0, .int .i64 f1, .slice sa l2 sc, .slice ea l3 ec, .bool f4, .slice wa l5 wc] 30
 have e1 : (w.alloc (.cells #[.slice ca ds.length cc, .int .i64 cop] 26)).heap.size = w.heap.size + 1 := by simp
 rw [e1] at Y0
 clear e1
 go_enter Tryz.func16, Tryz.ntmps16
 go_wp2_with fail
 generalize (w.alloc (.cells #[.slice ca ds.length cc, .int .i64 cop] 26)).alloc (.cells #[.int .i64 f0, .int .i64 f1, .slice sa l2 sc, .slice ea l3 ec, .bool f4, .slice wa l5 wc] 30) = w0 at *
 have PP : Hid (∀ W, Below w0.heap.size w0 W → (W.cell? ⟨w.heap.size, 0, none⟩ = some (.slice ca ds.length cc) ∧ W.cell? ⟨w.heap.size, 1, none⟩ = some (.int .i64 cop)) ∧ W.cell? ⟨w.heap.size + 1, 0, none⟩ = some (.int .i64 f0) ∧ W.cell? ⟨w.heap.size + 1, 1, none⟩ = some (.int .i64 f1) ∧ W.cell? ⟨w.heap.size + 1, 2, none⟩ = some (.slice sa l2 sc) ∧ W.cell? ⟨w.heap.size + 1, 3, none⟩ = some (.slice ea l3 ec) ∧ W.cell? ⟨w.heap.size + 1, 4, none⟩ = some (.bool f4) ∧ W.cell? ⟨w.heap.size + 1, 5, none⟩ = some (.slice wa l5 wc)) := fun W hW => ⟨⟨X0.below hW 0 _ rfl, X0.below hW 1 _ rfl⟩, Y0.below hW 0 _ rfl, Y0.below hW 1 _ rfl, Y0.below hW 2 _ rfl, Y0.below hW 3 _ rfl, Y0.below hW 4 _ rfl, Y0.below hW 5 _ rfl⟩
 have bd : Below w0.heap.size w0 w0.drew := (Below.refl _ _).drew
 clear X0 Y0
 go_region_held3 (fun W => (W.cell? ⟨w.heap.size, 0, none⟩ = some (.slice ca ds.length cc) ∧ W.cell? ⟨w.heap.size, 1, none⟩ = some (.int .i64 cop)) ∧ W.cell? ⟨w.heap.size + 1, 0, none⟩ = some (.int .i64 f0) ∧ W.cell? ⟨w.heap.size + 1, 1, none⟩ = some (.int .i64 f1) ∧ W.cell? ⟨w.heap.size + 1, 2, none⟩ = some (.slice sa l2 sc) ∧ W.cell? ⟨w.heap.size + 1, 3, none⟩ = some (.slice ea l3 ec) ∧ W.cell? ⟨w.heap.size + 1, 4, none⟩ = some (.bool f4) ∧ W.cell? ⟨w.heap.size + 1, 5, none⟩ = some (.slice wa l5 wc)) (first | exact dU PP _ hb6 | exact dU PP _ hb5 | exact dU PP _ (Below.refl _ _) | exact dU PP _ bd | go_keep)
  (first
   | (go_at_call 65; refine (dU CS _ (bT bA bd)).mono ?_; rintro e w5 ⟨rfl, b5⟩; have hb5 := bT bd b5)
   | (go_at_call 64; refine (dU CA _ (bT bA hb5)).mono ?_; rintro e w6 ⟨⟨b6, rfl, h6⟩, bl6⟩; have hb6 := bT hb5 bl6))
 all_goals
  have R : Hid (RetB P (.returned (.bool b6))) := ⟨_, rfl, h6⟩
  clear h6 CS CA
  go_wp2
  go_ret
  exact ⟨dU R, bT bA hb6⟩
end Go.Proofs.YtnogallomdckiaaGreat
