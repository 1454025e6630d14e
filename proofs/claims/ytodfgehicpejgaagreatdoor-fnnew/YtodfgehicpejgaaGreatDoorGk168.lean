/- Several texts in one: JgS, JgNa, JgN, JgF, JgI, Q14T, Q14W, JgU, GoS. -/
import Derived.Test.YtodfgehicpejgaaGreatDoorGk180
import Derived.Test.YtodfgehicpejgaaGreatDoorGk149
import Derived.Deep.RegionHeld3
import Derived.Deep.DeepCutAuto
import Derived.Test.YtodfgehicpejgaaGreatDoorGk184
import Derived.Test.YtodfgehicpejgaaGreatDoorEvyA
import Derived.Test.YtodfgehicpejgaaGreatDoorWkF
import Derived.Test.YtodfgehicpejgaaGreatDoorRows
import Derived.SevenTiedAt
namespace Go.Proofs.YtodfgehicpejgaaGreatDoor
open Go
open Go.ChangeShapes Go.WideShapes Go.ChangeAt Go.RowKit
set_option linter.unusedSimpArgs false
set_option linter.unusedVariables false
set_option maxRecDepth 100000
def trueP (m : Wo) : Prop := woP m ∧ ∀ r ∈ m.readers, trueR m.sent r
def keptE (r : Rr) (tr : Int) (s : Se) : Prop := s.sure = true → tr < s.pl → s.pl < plN r → (evAt (talesR r) s.pl).isSome = true
set_option maxHeartbeats 8000000 in
theorem kept1_any (s : Se) (bt bi br mb : Nat) (tr : Int) (r : Rr) (ra : Option Addr) (rc : Nat) (w : World) (hs : -9223372036854775808 ≤ s.pl ∧ s.pl ≤ 9223372036854775807) (XT : Bx w bt [.map (some mb)]) (XI : Bx w bi [.int .i64 tr]) (XR : Bx w br [.int .i64 r.epoch, .int .i64 r.off, .slice ra r.out.length rc]) (HT : TaleN w mb (talesR r)) (hr : RdReader (.agg #[.int .i64 r.epoch, .int .i64 r.off, .slice ra r.out.length rc]) r w) (sm : smallR r) :
  Calls Tryz.prog 247 (#[s.val] ++ #[.pointer (some ⟨bt, 0, none⟩), .pointer (some ⟨bi, 0, none⟩), .pointer (some ⟨br, 0, none⟩)]) w fun e w' => RetB (keptE r tr s) e ∧ Below w.heap.size w w' := by
 have ba : ∀ (w : World) o, Below w.heap.size w (w.alloc o) := fun w o => (Below.refl _ _).alloc (Nat.le_refl _) o
 obtain ⟨y0, y1, y2⟩ := s
 have CP := dH fun W (hW : Below w.heap.size w W) => implPassed_any _ r y0 W (hr.below hW) sm
 have b1 := ba w (.cells #[.int .i64 y0, .string y1, .bool y2] 97)
 have XS := Bx.new w [.int .i64 y0, .string y1, .bool y2] 97
 replace XT := XT.below b1
 replace XI := XI.below b1
 replace XR := XR.below b1
 have HT1 := HT.below b1
 have KE : Hid (keptE r tr ⟨y0, y1, y2⟩ ↔ (y2 = true → tr < y0 → y0 < plN r → (evAt (talesR r) y0).isSome = true)) := Iff.rfl
 simp only at hs
 have HS := dH hs
 clear hr sm HT hs
 generalize keptE r tr ⟨y0, y1, y2⟩ = PQ at *
 generalize talesR r = L at *
 generalize plN r = N at *
 generalize r.epoch = ep at *
 generalize r.off = of at *
 generalize r.out.length = ol at *
 show Calls Tryz.prog 247 #[.agg #[.int .i64 y0, .string y1, .bool y2], .pointer (some ⟨bt, 0, none⟩), .pointer (some ⟨bi, 0, none⟩), .pointer (some ⟨br, 0, none⟩)] w _
 have t0 := XT 0 _ rfl
 have s0 := XS 0 _ rfl
 have s2 := XS 2 _ rfl
 cases hq : evAt L y0 with
 | some q =>
  obtain ⟨q0, q1, q2⟩ := q
  have HQ := dH hq
  have b2 := bT b1 (ba _ (.cells #[.int .i64 q0, .int .i64 q1, .string q2] 143))
  have R := dH (show RetB PQ (.returned (.bool true)) from RetB.yes ((dU KE).2 fun _ _ _ => by rw [hq]; rfl))
  clear hq XT XI XR XS CP KE b1
  go_enter Tryz.func247, Tryz.ntmps247
  go_wp2_with (first
   | (at_lookup; refine wp_taleYes _ rfl _ _ rfl mb L y0 rfl HT1 rfl (dU HS) q0 q1 q2 (dU HQ) ?_)
   | go_in)
  go_ret
  exact ⟨dU R, b2⟩
 | none =>
  have HQ := dH hq
  have b2 := bT b1 (ba _ (.cells #[.int .i64 0, .int .i64 0, .string ⟨#[]⟩] 143))
  have b2' := ba (w.alloc (.cells #[.int .i64 y0, .string y1, .bool y2] 97)) (.cells #[.int .i64 0, .int .i64 0, .string ⟨#[]⟩] 143)
  replace XS := XS.below b2'
  replace XI := XI.below b2'
  replace XR := XR.below b2'
  have s0' := XS 0 _ rfl
  have s2' := XS 2 _ rfl
  have i0 := XI 0 _ rfl
  have r0 := XR 0 _ rfl
  have r1 := XR 1 _ rfl
  have r2 := XR 2 _ rfl
  have NE : ¬ (evAt L y0).isSome = true := by rw [hq]; simp
  cases y2 with
  | false =>
   have R := dH (show RetB PQ (.returned (.bool true)) from RetB.yes ((dU KE).2 fun h => by cases h))
   clear hq XT XI XR XS CP KE b1 NE
   go_enter Tryz.func247, Tryz.ntmps247
   go_wp2_with (first
    | (at_lookup; refine wp_taleNo _ rfl _ _ rfl mb L y0 rfl HT1 rfl (dU HS) (dU HQ) ?_)
    | go_in)
   go_ret
   exact ⟨dU R, b2⟩
  | true =>
   by_cases hle : y0 ≤ tr
   ·have R := dH (show RetB PQ (.returned (.bool true)) from RetB.yes ((dU KE).2 fun _ h => by omega))
    have hd : decide (y0 ≤ tr) = true := decide_eq_true hle
    clear hq XT XI XR XS CP KE b1 NE
    go_enter Tryz.func247, Tryz.ntmps247
    go_wp2_with (first
     | (at_lookup; refine wp_taleNo _ rfl _ _ rfl mb L y0 rfl HT1 rfl (dU HS) (dU HQ) ?_)
     | go_in)
    go_ret
    exact ⟨dU R, b2⟩
   ·have hd : decide (y0 ≤ tr) = false := decide_eq_false hle
    have CP2 := dH (dU CP _ b2)
    have RY : Hid (∀ q : Bool, (q = true ↔ y0 < N) → RetB PQ (.returned (.bool (!q)))) := fun q hq' => ⟨!q, rfl, by
     rw [dU KE]
     cases q
     ·exact ⟨fun _ _ _ h => (by have := hq'.2 h; cases this), fun _ => rfl⟩
     ·exact ⟨fun h => (by cases h), fun h => absurd (h rfl (by omega) (hq'.1 rfl)) NE⟩⟩
    clear hq XT XI XR XS CP KE b1 NE b2'
    go_enter Tryz.func247, Tryz.ntmps247
    go_wp2_with (first
     | (at_lookup; refine wp_taleNo _ rfl _ _ rfl mb L y0 rfl HT1 rfl (dU HS) (dU HQ) ?_)
     | (go_at_call 248; refine (dU CP2).mono ?_; rintro e w3 ⟨⟨q, rfl, h⟩, b3⟩)
     | go_in)
    have R := dH (dU RY q h)
    have B3 := bT b2 b3
    clear h RY b3 CP2
    cases q
    all_goals
     go_wp2
     go_ret
     exact ⟨dU R, B3⟩
def keptR (sent : List Se) (tr : Int) (r : Rr) : Prop := ∀ s ∈ sent, keptE r tr s
set_option maxHeartbeats 8000000 in
theorem tellsSure_any (v tv : Value) (m : Rr) (sent : List Se) (tr : Int) (w : World) (hv : RdReader v m w) (ht : RdSentS tv sent w) (hl : m.out.length ≤ 1048576) (hp : plsR m) (sm : smallR m) (hs : ∀ s ∈ sent, -9223372036854775808 ≤ s.pl ∧ s.pl ≤ 9223372036854775807) :
  Calls Tryz.prog 169 #[v, tv, .int .i64 tr] w fun e w' => RetB (keptR sent tr m) e ∧ Below w.heap.size w w' := by
 have ba : ∀ (w : World) o, Below w.heap.size w (w.alloc o) := fun w o => (Below.refl _ _).alloc (Nat.le_refl _) o
 have C := dH fun W (hb : Below w.heap.size w W) => tales_any v m W (hv.below hb) hl hp
 have HV := dH fun W (hb : Below w.heap.size w W) => hv.below hb
 have HT := dH fun W (hb : Below w.heap.size w W) => RdSentS.below ht hb
 obtain ⟨sv, rfl, hes⟩ := hv
 obtain ⟨sa, sc, rfl, -⟩ := formEventS hes
 obtain ⟨ta, tc, rfl, -⟩ := formSentS ht
 have b1 := ba w (.cells #[.int .i64 m.epoch, .int .i64 m.off, .slice sa m.out.length sc] 54)
 have b2 := ba (w.alloc (.cells #[.int .i64 m.epoch, .int .i64 m.off, .slice sa m.out.length sc] 54)) (.cells #[.int .i64 tr] 3)
 have B0 := bT b1 b2
 have XR := (Bx.new w [.int .i64 m.epoch, .int .i64 m.off, .slice sa m.out.length sc] 54).below b2
 have XI := Bx.new (w.alloc (.cells #[.int .i64 m.epoch, .int .i64 m.off, .slice sa m.out.length sc] 54)) [.int .i64 tr] 3
 rw [show (w.alloc (.cells #[.int .i64 m.epoch, .int .i64 m.off, .slice sa m.out.length sc] 54)).heap.size = w.heap.size + 1 from by simp] at XI
 have PQ : Hid (keptR sent tr m ↔ ∀ s ∈ sent, keptE m tr s) := Iff.rfl
 generalize keptR sent tr m = PK at *
 clear hes ht b1 b2
 go_enter Tryz.func169, Tryz.ntmps169
 go_wp2_with fail
 generalize (w.alloc (.cells #[.int .i64 m.epoch, .int .i64 m.off, .slice sa m.out.length sc] 54)).alloc (.cells #[.int .i64 tr] 3) = w0 at *
 refine (dU C _ B0).mono ?_
 rintro e w1 ⟨⟨mb, rfl, hT⟩, b1⟩
 have bTm := ba w1 (.cells #[.map (some mb)] 264)
 have XT := Bx.new w1 [.map (some mb)] 264
 have B1 := bT (bT B0 b1) bTm
 replace XR := (XR.below b1).below bTm
 replace XI := (XI.below b1).below bTm
 replace hT := hT.below bTm
 have CE := dH (everySent_any (.slice ta sent.length tc) sent (fun v m _ => v = m.val) 247 #[.pointer (some ⟨w1.heap.size, 0, none⟩), .pointer (some ⟨w.heap.size + 1, 0, none⟩), .pointer (some ⟨w.heap.size, 0, none⟩)] (keptE m tr) _ (by intro args w; rfl) (RdSentS.rdD (dU HT _ B1)) (fun h _ => h) fun W hW u' x hx hu' => by
  subst hu'
  exact kept1_any x w1.heap.size (w.heap.size + 1) w.heap.size mb tr m sa sc W (hs x hx) (XT.below hW) (XI.below hW) (XR.below hW) (hT.below hW) (dU HV W (bT B1 hW)) sm)
 clear b1 bTm XT XR XI hT C HV HT hl hp sm hs B0
 go_wp2_with fail
 refine (dU CE).mono ?_
 rintro e w2 ⟨⟨q, rfl, h⟩, b2⟩
 have R := dH (show RetB PK (.returned (.bool q)) from ⟨q, rfl, h.trans (dU PQ).symm⟩)
 have B2 := bT B1 b2
 clear CE h PQ b2
 cases q
 all_goals
  go_wp2
  go_ret
  exact ⟨dU R, B2⟩
theorem true2_any (v tv : Value) (bx : Nat) (m : Rr) (sent : List Se) (w : World) (hc : w.cell? ⟨bx, 9, none⟩ = some tv) (hv : RdReader v m w) (ht : RdSentS tv sent w) (hl : m.out.length ≤ 1048576) (ha : ascBy Se.pl sent) (hs : sent.length ≤ 1048576) :
  Calls Tryz.prog 165 (#[v] ++ #[.pointer (some ⟨bx, 0, none⟩)]) w fun e w' => RetB (trueR sent m) e ∧ Below w.heap.size w w' := by
 have C := dH fun W (hb : Below w.heap.size w W) => tellsOnly_any v tv m sent W (hv.below hb) (RdSentS.below ht hb) hl ha hs
 obtain ⟨sv, rfl, hes⟩ := hv
 obtain ⟨sa, sc, rfl, -⟩ := formEventS hes
 obtain ⟨ta, tc, rfl, -⟩ := formSentS ht
 have b1 : Below w.heap.size w (w.alloc (.cells #[.int .i64 m.epoch, .int .i64 m.off, .slice sa m.out.length sc] 54)) := (Below.refl _ _).alloc (Nat.le_refl _) _
 have c9 := (b1.cell (p := ⟨bx, 9, none⟩) (dCell_lt hc)).trans hc
 generalize trueR sent m = PK at *
 clear hes ht hl ha hs hc
 show Calls Tryz.prog 165 #[.agg #[.int .i64 m.epoch, .int .i64 m.off, .slice sa m.out.length sc], .pointer (some ⟨bx, 0, none⟩)] w _
 go_enter Tryz.func165, Tryz.ntmps165
 go_wp2_with fail
 refine (dU C _ b1).mono ?_
 rintro e w1 ⟨⟨q, rfl, h⟩, b2⟩
 have R := dH (show RetB PK (.returned (.bool q)) from ⟨q, rfl, h⟩)
 have B2 := bT b1 b2
 clear C h b2 c9
 cases q
 all_goals
  go_wp2
  go_ret
  exact ⟨dU R, B2⟩
theorem trueC_any (bx : Nat) (rv tv : Value) (l : List Rr) (sent : List Se) (w : World) (hc : w.cell? ⟨bx, 8, none⟩ = some rv) (hc9 : w.cell? ⟨bx, 9, none⟩ = some tv) (hr : RdReaderS rv l w) (ht : RdSentS tv sent w) (hl : ∀ r ∈ l, r.out.length ≤ 1048576) (ha : ascBy Se.pl sent) (hs : sent.length ≤ 1048576) :
  Calls Tryz.prog 164 #[.pointer (some ⟨bx, 0, none⟩)] w fun e w' => RetB (∀ r ∈ l, trueR sent r) e ∧ Below w.heap.size w w' := by
 have C1 := dH (everyReader_any _ l RdReader 165 #[.pointer (some ⟨bx, 0, none⟩)] (trueR sent) w (by intro args w; rfl) hr (fun h b => h.below b) fun W' hb' u x hx hu => true2_any u tv bx x sent W' ((hb'.cell (p := ⟨bx, 9, none⟩) (dCell_lt hc9)).trans hc9) hu (RdSentS.below ht hb') (hl x hx) ha hs)
 obtain ⟨ra, rc, rfl, -⟩ := formD hr
 clear hr hl ht ha hs hc9
 generalize l.length = n at *
 go_enter Tryz.func164, Tryz.ntmps164
 go_wp2_with fail
 refine (dU C1).mono ?_
 rintro e w1 ⟨⟨q, rfl, h⟩, b1⟩
 have R := dH (show RetB (∀ r ∈ l, trueR sent r) (.returned (.bool q)) from ⟨q, rfl, h⟩)
 clear C1 h
 cases q
 all_goals
  go_wp2
  go_ret
  exact ⟨dU R, b1⟩
theorem kept2_any (v tv : Value) (bx : Nat) (m : Rr) (sent : List Se) (tr : Int) (w : World) (hc : w.cell? ⟨bx, 9, none⟩ = some tv) (hc5 : w.cell? ⟨bx, 5, none⟩ = some (.int .i64 tr)) (hv : RdReader v m w) (ht : RdSentS tv sent w) (hl : m.out.length ≤ 1048576) (hp : plsR m) (sm : smallR m) (hs : ∀ s ∈ sent, -9223372036854775808 ≤ s.pl ∧ s.pl ≤ 9223372036854775807) :
  Calls Tryz.prog 168 (#[v] ++ #[.pointer (some ⟨bx, 0, none⟩)]) w fun e w' => RetB (keptR sent tr m) e ∧ Below w.heap.size w w' := by
 have C := dH fun W (hb : Below w.heap.size w W) => tellsSure_any v tv m sent tr W (hv.below hb) (RdSentS.below ht hb) hl hp sm hs
 obtain ⟨sv, rfl, hes⟩ := hv
 obtain ⟨sa, sc, rfl, -⟩ := formEventS hes
 obtain ⟨ta, tc, rfl, -⟩ := formSentS ht
 have b1 : Below w.heap.size w (w.alloc (.cells #[.int .i64 m.epoch, .int .i64 m.off, .slice sa m.out.length sc] 54)) := (Below.refl _ _).alloc (Nat.le_refl _) _
 have c9 := (b1.cell (p := ⟨bx, 9, none⟩) (dCell_lt hc)).trans hc
 have c5 := (b1.cell (p := ⟨bx, 5, none⟩) (dCell_lt hc5)).trans hc5
 generalize keptR sent tr m = PK at *
 clear hes ht hl hp sm hs hc hc5
 show Calls Tryz.prog 168 #[.agg #[.int .i64 m.epoch, .int .i64 m.off, .slice sa m.out.length sc], .pointer (some ⟨bx, 0, none⟩)] w _
 go_enter Tryz.func168, Tryz.ntmps168
 go_wp2_with fail
 refine (dU C _ b1).mono ?_
 rintro e w1 ⟨⟨q, rfl, h⟩, b2⟩
 have R := dH (show RetB PK (.returned (.bool q)) from ⟨q, rfl, h⟩)
 have B2 := bT b1 b2
 clear C h b2 c9 c5
 cases q
 all_goals
  go_wp2
  go_ret
  exact ⟨dU R, B2⟩
theorem keptC_any (bx : Nat) (rv tv : Value) (l : List Rr) (sent : List Se) (tr : Int) (w : World) (hc : w.cell? ⟨bx, 8, none⟩ = some rv) (hc9 : w.cell? ⟨bx, 9, none⟩ = some tv) (hc5 : w.cell? ⟨bx, 5, none⟩ = some (.int .i64 tr)) (hr : RdReaderS rv l w) (ht : RdSentS tv sent w) (hl : ∀ r ∈ l, r.out.length ≤ 1048576 ∧ plsR r ∧ smallR r) (hs : ∀ s ∈ sent, -9223372036854775808 ≤ s.pl ∧ s.pl ≤ 9223372036854775807) :
  Calls Tryz.prog 167 #[.pointer (some ⟨bx, 0, none⟩)] w fun e w' => RetB (∀ r ∈ l, keptR sent tr r) e ∧ Below w.heap.size w w' := by
 have C1 := dH (everyReader_any _ l RdReader 168 #[.pointer (some ⟨bx, 0, none⟩)] (keptR sent tr) w (by intro args w; rfl) hr (fun h b => h.below b) fun W' hb' u x hx hu => kept2_any u tv bx x sent tr W' ((hb'.cell (p := ⟨bx, 9, none⟩) (dCell_lt hc9)).trans hc9) ((hb'.cell (p := ⟨bx, 5, none⟩) (dCell_lt hc5)).trans hc5) hu (RdSentS.below ht hb') (hl x hx).1 (hl x hx).2.1 (hl x hx).2.2 hs)
 obtain ⟨ra, rc, rfl, -⟩ := formD hr
 clear hr hl ht hs hc9 hc5
 generalize l.length = n at *
 go_enter Tryz.func167, Tryz.ntmps167
 go_wp2_with fail
 refine (dU C1).mono ?_
 rintro e w1 ⟨⟨q, rfl, h⟩, b1⟩
 have R := dH (show RetB (∀ r ∈ l, keptR sent tr r) (.returned (.bool q)) from ⟨q, rfl, h⟩)
 clear C1 h
 cases q
 all_goals
  go_wp2
  go_ret
  exact ⟨dU R, b1⟩
theorem sentAsc {m : Wo} (h : woP m) : ascBy Se.pl m.sent := fun i hi => (h.2.2.2.2 (i + 1) hi).2.2 (by omega)
theorem judgeTrue1 (w : World) (m : Wo) (hs : sizWorld m ≤ 1048576) (h : woP m) : Judge1 w m ⟨#[116, 114, 117, 101]⟩ (∀ r ∈ m.readers, trueR m.sent r) := fun W bx b mb hb hc hm ⟨_, rv, tv, c8, c9, hr, ht⟩ => by
 have hl : m.sent.length ≤ 1048576 := by unfold sizWorld sizSentS at hs; omega
 have hrl : ∀ r ∈ m.readers, r.out.length ≤ 1048576 := fun r hr => rrOut_le (by unfold sizWorld at hs; omega) hr
 have C := trueC_any bx rv tv m.readers m.sent W c8 c9 hr ht hrl (sentAsc h) hl
 cases ht' : m.torn with
 | false =>
  rw [ht'] at hm
  exact judged1_found ⟨#[116, 114, 117, 101]⟩ mb b 5 1 164 _ _ _ W (by intro args w; rfl) hc hm (by kernel_rfl) C
 | true =>
  rw [ht'] at hm
  exact judged1_found ⟨#[116, 114, 117, 101]⟩ mb b 5 1 164 _ _ _ W (by intro args w; rfl) hc hm (by kernel_rfl) C
def orderP (m : Wo) : Prop := woP m ∧ ∀ r ∈ m.readers, ordR r
theorem orderC_any (bx : Nat) (rv : Value) (l : List Rr) (w : World) (hc : w.cell? ⟨bx, 8, none⟩ = some rv) (hr : RdReaderS rv l w) (hl : ∀ r ∈ l, r.out.length ≤ 1048576) :
  Calls Tryz.prog 162 #[.pointer (some ⟨bx, 0, none⟩)] w fun e w' => RetB (∀ r ∈ l, ordR r) e ∧ Below w.heap.size w w' := by
 have C1 := dH (everyReader_any _ l RdReader 163 #[] ordR w (by intro args w; rfl) hr (fun h b => h.below b) fun W' hb' u x hx hu => rInOrder_any u x W' hu (hl x hx))
 obtain ⟨ra, rc, rfl, -⟩ := formD hr
 clear hr hl
 generalize l.length = n at *
 go_enter Tryz.func162, Tryz.ntmps162
 go_wp2_with fail
 refine (dU C1).mono ?_
 rintro e w1 ⟨⟨q, rfl, h⟩, b1⟩
 have R := dH (show RetB (∀ r ∈ l, ordR r) (.returned (.bool q)) from ⟨q, rfl, h⟩)
 clear C1 h
 cases q
 all_goals
  go_wp2
  go_ret
  exact ⟨dU R, b1⟩
theorem readerIn {W : World} {a : Option Addr} {n cap : Nat} {l : List Rr} (h : RdReaderS (.slice a n cap) l W) {k : Nat} (hk : k < l.length) : ∃ b off sv, a = some ⟨b, off, none⟩ ∧ W.cell? ⟨b, off + k * 3, none⟩ = some (.int .i64 l[k].epoch) ∧ W.cell? ⟨b, off + k * 3 + 1, none⟩ = some (.int .i64 l[k].off) ∧ W.cell? ⟨b, off + k * 3 + 2, none⟩ = some sv ∧ RdReader (.agg #[.int .i64 l[k].epoch, .int .i64 l[k].off, sv]) l[k] W := by
 obtain ⟨rs, rfl, hr, hn⟩ := h
 have hk' : k < rs.length := by simpa using hk
 obtain ⟨b, off, rfl, hc⟩ := hr.pd hk'
 have hR := hn rs[k] (List.getElem_mem hk')
 obtain ⟨sv, e, hs⟩ := id hR
 rw [List.getElem_map]
 have ec : rs[k].c = [.int .i64 rs[k].m.epoch, .int .i64 rs[k].m.off, sv] := by
  unfold Pd.val at e
  simp only [Value.agg.injEq] at e
  have := congrArg Array.toList e
  simpa using this
 refine ⟨b, off, sv, rfl, hc k hk' 0 _ (by rw [ec]; rfl), hc k hk' 1 _ (by rw [ec]; rfl), hc k hk' 2 _ (by rw [ec]; rfl), ?_⟩
 rw [← e]
 exact hR
set_option maxHeartbeats 8000000
theorem noGo : Tryz.prog.funcs.any Func.goes = false := by kernel_rfl
theorem goes0 (f : FuncId) : Tryz.prog.goes f = false := by
 have h1 : ∀ g : Nat, (Tryz.prog.funcs[g]?).any Func.goes = false := fun g => by
  cases hq : Tryz.prog.funcs[g]? with
  | none => rfl
  | some fn =>
   obtain ⟨hl, rfl⟩ := Array.getElem?_eq_some_iff.1 hq
   have := Array.any_eq_false.1 noGo g hl
   simpa using this
 unfold Program.goes
 rw [noGo, Bool.and_false, Bool.or_false]
 exact List.any_eq_false.2 fun g _ => by rw [h1 g]; simp
theorem goesBy0 (c : OpenClaim) (h : c.start = .entering) : false = c.goesBy Tryz.prog := by
 unfold OpenClaim.goesBy Program.goesAt Program.goesFrom
 rw [h]
 cases Tryz.prog.funcNamed c.func with
 | none => rfl
 | some f => simp [goes0]
theorem looksS : true = Tryz.prog.looks [] := by kernel_rfl
end Go.Proofs.YtodfgehicpejgaaGreatDoor
