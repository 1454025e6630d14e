/- Several texts in one: JgP, Q14K, JgM, JgL, JgQ, Q14M, Q14A. -/
import Derived.Test.YtodfgehicpejgaaGreatDoorGk168
import Derived.Deep.RegionHeld3
import Derived.Deep.DeepCutAuto
import Derived.Test.YtodfgehicpejgaaGreatDoorGk180
import Derived.Test.YtodfgehicpejgaaGreatDoorGk184
namespace Go.Proofs.YtodfgehicpejgaaGreatDoor
open Go.ChangeShapes Go.WideShapes Go.ChangeAt Go.RowKit
set_option linter.unusedSimpArgs false
set_option linter.unusedVariables false
set_option maxRecDepth 100000
def keptP (m : Wo) : Prop := woP m ∧ (m.torn = true ∨ ∀ r ∈ m.readers, keptR m.sent m.reg.trim r)
theorem smallOf {m : Wo} (h : woP m) : ∀ r ∈ m.readers, smallR r := fun r hr => by
 have := h.2.2.1.2 r hr
 unfold rrP at this
 unfold smallR
 omega
theorem plsOf {m : Wo} (h : okWorld m) : ∀ r ∈ m.readers, plsR r := fun r hr e he => ((h.2.2.2.2.2.2.1 r hr).2.2 e he).2.1
theorem judgeKept1 (w : World) (m : Wo) (ok : okWorld m) (hs : sizWorld m ≤ 1048576) (h : woP m) : Judge1 w m ⟨#[107, 101, 112, 116]⟩ (m.torn = true ∨ ∀ r ∈ m.readers, keptR m.sent m.reg.trim r) := fun W bx b mb hb hc hm ⟨c5, rv, tv, c8, c9, hr, ht⟩ => by
 have hrl : ∀ r ∈ m.readers, r.out.length ≤ 1048576 := fun r hr => rrOut_le (by unfold sizWorld at hs; omega) hr
 have C := keptC_any bx rv tv m.readers m.sent m.reg.trim W c8 c9 c5 hr ht (fun r hr => ⟨hrl r hr, plsOf ok r hr, smallOf h r hr⟩) (fun s hs => (ok.2.2.2.2.2.2.2 s hs).1)
 cases ht' : m.torn with
 | false =>
  rw [ht'] at hm
  exact (judged1_found ⟨#[107, 101, 112, 116]⟩ mb b 5 2 167 _ _ _ W (by intro args w; rfl) hc hm (by kernel_rfl) C).mono fun e w' ⟨h1, h2⟩ => ⟨h1.to_iff ⟨.inr, fun q => q.resolve_left (by simp)⟩, h2⟩
 | true =>
  rw [ht'] at hm
  exact (judged1_none ⟨#[107, 101, 112, 116]⟩ mb b 5 _ W hc hm (by kernel_rfl)).mono fun e w' ⟨h1, h2⟩ => ⟨h1.to_iff ⟨fun _ => .inl rfl, fun _ => trivial⟩, h2⟩
theorem dCell_lt' {w : World} {p : Addr} {v : Value} (h : w.cell? p = some v) : p.block < w.heap.size := by
 rcases Nat.lt_or_ge p.block w.heap.size with q | q
 ·exact q
 ·have : w.heap[p.block]? = none := Array.getElem?_eq_none q
  simp [World.cell?, this] at h
def samR (l : List Rr) (tr : Int) : Prop := ∃ a b, l = [a, b] ∧ agreeP a b tr ∧ agreeP b a tr
set_option maxHeartbeats 16000000 in
theorem sameC_any (bx : Nat) (rv : Value) (a b : Rr) (tr : Int) (w : World) (hc : w.cell? ⟨bx, 8, none⟩ = some rv) (hc5 : w.cell? ⟨bx, 5, none⟩ = some (.int .i64 tr)) (hr : RdReaderS rv [a, b] w) (ha : smallR a) (hb : smallR b) (la : a.out.length ≤ 1048576) (lb : b.out.length ≤ 1048576) (hpa : plsR a) (hpb : plsR b) :
  Calls Tryz.prog 173 #[.pointer (some ⟨bx, 0, none⟩)] w fun e w' => RetB (agreeP a b tr ∧ agreeP b a tr) e ∧ Below w.heap.size w w' := by
 have ba' : ∀ (w : World) o, Below w.heap.size w (w.alloc o) := fun w o => (Below.refl _ _).alloc (Nat.le_refl _) o
 obtain ⟨ra, rc, rfl, -⟩ := formD hr
 have q0 := readerIn hr (k := 0) (by simp)
 have q1 := readerIn hr (k := 1) (by simp)
 obtain ⟨rb, ro, sv, rfl, c0, c1, c2, hA⟩ := q0
 obtain ⟨rb', ro', sv', e', d0, d1, d2, hB⟩ := q1
 simp only [Option.some.injEq, Addr.mk.injEq, and_true] at e'
 obtain ⟨rfl, rfl⟩ := e'
 simp only [List.getElem_cons_zero, List.getElem_cons_succ, Nat.zero_mul, Nat.add_zero, Nat.one_mul, List.length_cons, List.length_nil] at c0 c1 c2 d0 d1 d2 hA hB hc
 have CAB := dH fun W (hW : Below w.heap.size w W) => agrees_any _ _ a b tr W (hA.below hW) (hB.below hW) ha hb la lb hpa hpb
 have CBA := dH fun W (hW : Below w.heap.size w W) => agrees_any _ _ b a tr W (hB.below hW) (hA.below hW) hb ha lb la hpb hpa
 obtain ⟨sv1, esv, hes⟩ := hA
 simp only [Value.agg.injEq] at esv
 obtain rfl : sv = sv1 := by simpa using esv
 obtain ⟨s0a, s0c, rfl, -⟩ := formEventS hes
 clear esv hes
 obtain ⟨sv1, esv, hes⟩ := hB
 simp only [Value.agg.injEq] at esv
 obtain rfl : sv' = sv1 := by simpa using esv
 obtain ⟨s1a, s1c, rfl, -⟩ := formEventS hes
 clear esv hes hr ha hb la lb hpa hpb
 generalize agreeP a b tr = P1 at *
 generalize agreeP b a tr = P2 at *
 generalize a.epoch = aep at *
 generalize a.off = aof at *
 generalize a.out.length = al at *
 generalize b.epoch = bep at *
 generalize b.off = bof at *
 generalize b.out.length = bl at *
 replace hc : w.cell? ⟨bx, 8, none⟩ = some (.slice (some ⟨rb, ro, none⟩) 2 rc) := hc
 have up : ∀ (p : Addr) v, w.cell? p = some v → ∀ o, (w.alloc o).cell? p = some v := fun p v h o => ((ba' w o).cell (p := p) (dCell_lt' h)).trans h
 have hc_ := up _ _ hc
 have c0_ := up _ _ c0
 have c1_ := up _ _ c1
 have c2_ := up _ _ c2
 have d0_ := up _ _ d0
 have d1_ := up _ _ d1
 have d2_ := up _ _ d2
 have up2 : ∀ (p : Addr) v, w.cell? p = some v → ∀ o o', ((w.alloc o).alloc o').cell? p = some v := fun p v h o o' => ((ba' (w.alloc o) o').cell (p := p) (dCell_lt' (up p v h o))).trans (up p v h o)
 have hc__ := up2 _ _ hc
 have c0__ := up2 _ _ c0
 have c1__ := up2 _ _ c1
 have c2__ := up2 _ _ c2
 have d0__ := up2 _ _ d0
 have d1__ := up2 _ _ d1
 have d2__ := up2 _ _ d2
 clear up up2
 go_enter Tryz.func173, Tryz.ntmps173
 go_wp2_with fail
 go_region
 ·clear hc_ c0_ c1_ c2_ d0_ d1_ d2_ hc__ c0__ c1__ c2__ d0__ d1__ d2__ hc c0 c1 c2 d0 d1 d2
  have b1 := ba' w (.cells #[.int .i64 aep, .int .i64 aof, .slice s0a al s0c] 54)
  have b2 := ba' (w.alloc (.cells #[.int .i64 aep, .int .i64 aof, .slice s0a al s0c] 54)) (.cells #[.int .i64 bep, .int .i64 bof, .slice s1a bl s1c] 54)
  have b3 : Below ((w.alloc (.cells #[.int .i64 aep, .int .i64 aof, .slice s0a al s0c] 54)).alloc (.cells #[.int .i64 bep, .int .i64 bof, .slice s1a bl s1c] 54)).heap.size ((w.alloc (.cells #[.int .i64 aep, .int .i64 aof, .slice s0a al s0c] 54)).alloc (.cells #[.int .i64 bep, .int .i64 bof, .slice s1a bl s1c] 54)) ((w.alloc (.cells #[.int .i64 aep, .int .i64 aof, .slice s0a al s0c] 54)).alloc (.cells #[.int .i64 bep, .int .i64 bof, .slice s1a bl s1c] 54)).drew := below_drewN (Below.refl _ _) 1
  have e1 : (w.alloc (.cells #[.int .i64 aep, .int .i64 aof, .slice s0a al s0c] 54)).heap.size = w.heap.size + 1 := by simp
  have XA := ((Bx.new w [.int .i64 aep, .int .i64 aof, .slice s0a al s0c] 54).below b2).below b3
  have XB := (Bx.new (w.alloc (.cells #[.int .i64 aep, .int .i64 aof, .slice s0a al s0c] 54)) [.int .i64 bep, .int .i64 bof, .slice s1a bl s1c] 54).below b3
  rw [e1] at XB
  have B0 := bT (bT b1 b2) b3
  clear b1 b2 b3 e1
  generalize ((w.alloc (.cells #[.int .i64 aep, .int .i64 aof, .slice s0a al s0c] 54)).alloc (.cells #[.int .i64 bep, .int .i64 bof, .slice s1a bl s1c] 54)).drew = w0 at *
  have t0 := (B0.cell (p := ⟨bx, 5, none⟩) (dCell_lt hc5)).trans hc5
  have a0 := XA 0 _ rfl
  have a1 := XA 1 _ rfl
  have a2 := XA 2 _ rfl
  have f0 := XB 0 _ rfl
  have f1 := XB 1 _ rfl
  have f2 := XB 2 _ rfl
  go_wp2_with fail
  refine (dU CAB _ B0).mono ?_
  rintro e w1 ⟨⟨q1, rfl, h1⟩, b1⟩
  replace XA := XA.below b1
  replace XB := XB.below b1
  replace B0 := bT B0 b1
  clear b1 t0 a0 a1 a2 f0 f1 f2 CAB
  cases q1
  ·have R := dH (show RetB (P1 ∧ P2) (.returned (.bool false)) from RetB.no fun h => by have := h1.2 h.1; cases this)
   clear h1 CBA XA XB hc5
   go_wp2
   go_ret
   exact ⟨dU R, B0⟩
  have t0 := (B0.cell (p := ⟨bx, 5, none⟩) (dCell_lt hc5)).trans hc5
  have a0 := XA 0 _ rfl
  have a1 := XA 1 _ rfl
  have a2 := XA 2 _ rfl
  have f0 := XB 0 _ rfl
  have f1 := XB 1 _ rfl
  have f2 := XB 2 _ rfl
  go_wp2_with fail
  rename_i fX hfX
  simp only [List.getElem?_cons_zero, Option.some.injEq] at hfX
  subst hfX
  go_wp2_with fail
  rename_i fY hfY
  simp only [List.getElem?_cons_zero, Option.some.injEq] at hfY
  subst hfY
  go_wp2_with fail
  refine (dU CBA _ B0).mono ?_
  rintro e w2 ⟨⟨q2, rfl, h2⟩, b1⟩
  replace B0 := bT B0 b1
  have R := dH (show RetB (P1 ∧ P2) (.returned (.bool q2)) from ⟨q2, rfl, h2.trans ⟨fun h => ⟨h1.1 (by first | trivial | rfl), h⟩, fun h => h.2⟩⟩)
  clear b1 t0 a0 a1 a2 f0 f1 f2 CBA h1 h2 XA XB hc5
  cases q2
  all_goals
   go_wp2
   go_ret
   exact ⟨dU R, B0⟩
 ·clear hc_ c0_ c1_ c2_ d0_ d1_ d2_ hc__ c0__ c1__ c2__ d0__ d1__ d2__ hc c0 c1 c2 d0 d1 d2
  have b1 := ba' w (.cells #[.int .i64 bep, .int .i64 bof, .slice s1a bl s1c] 54)
  have b2 := ba' (w.alloc (.cells #[.int .i64 bep, .int .i64 bof, .slice s1a bl s1c] 54)) (.cells #[.int .i64 aep, .int .i64 aof, .slice s0a al s0c] 54)
  have b3 : Below ((w.alloc (.cells #[.int .i64 bep, .int .i64 bof, .slice s1a bl s1c] 54)).alloc (.cells #[.int .i64 aep, .int .i64 aof, .slice s0a al s0c] 54)).heap.size ((w.alloc (.cells #[.int .i64 bep, .int .i64 bof, .slice s1a bl s1c] 54)).alloc (.cells #[.int .i64 aep, .int .i64 aof, .slice s0a al s0c] 54)) ((w.alloc (.cells #[.int .i64 bep, .int .i64 bof, .slice s1a bl s1c] 54)).alloc (.cells #[.int .i64 aep, .int .i64 aof, .slice s0a al s0c] 54)).drew := below_drewN (Below.refl _ _) 1
  have e1 : (w.alloc (.cells #[.int .i64 bep, .int .i64 bof, .slice s1a bl s1c] 54)).heap.size = w.heap.size + 1 := by simp
  have XB := ((Bx.new w [.int .i64 bep, .int .i64 bof, .slice s1a bl s1c] 54).below b2).below b3
  have XA := (Bx.new (w.alloc (.cells #[.int .i64 bep, .int .i64 bof, .slice s1a bl s1c] 54)) [.int .i64 aep, .int .i64 aof, .slice s0a al s0c] 54).below b3
  rw [e1] at XA
  have B0 := bT (bT b1 b2) b3
  clear b1 b2 b3 e1
  generalize ((w.alloc (.cells #[.int .i64 bep, .int .i64 bof, .slice s1a bl s1c] 54)).alloc (.cells #[.int .i64 aep, .int .i64 aof, .slice s0a al s0c] 54)).drew = w0 at *
  have t0 := (B0.cell (p := ⟨bx, 5, none⟩) (dCell_lt hc5)).trans hc5
  have a0 := XA 0 _ rfl
  have a1 := XA 1 _ rfl
  have a2 := XA 2 _ rfl
  have f0 := XB 0 _ rfl
  have f1 := XB 1 _ rfl
  have f2 := XB 2 _ rfl
  go_wp2_with fail
  refine (dU CAB _ B0).mono ?_
  rintro e w1 ⟨⟨q1, rfl, h1⟩, b1⟩
  replace XA := XA.below b1
  replace XB := XB.below b1
  replace B0 := bT B0 b1
  clear b1 t0 a0 a1 a2 f0 f1 f2 CAB
  cases q1
  ·have R := dH (show RetB (P1 ∧ P2) (.returned (.bool false)) from RetB.no fun h => by have := h1.2 h.1; cases this)
   clear h1 CBA XA XB hc5
   go_wp2
   go_ret
   exact ⟨dU R, B0⟩
  have t0 := (B0.cell (p := ⟨bx, 5, none⟩) (dCell_lt hc5)).trans hc5
  have a0 := XA 0 _ rfl
  have a1 := XA 1 _ rfl
  have a2 := XA 2 _ rfl
  have f0 := XB 0 _ rfl
  have f1 := XB 1 _ rfl
  have f2 := XB 2 _ rfl
  go_wp2_with fail
  rename_i fX hfX
  simp only [List.getElem?_cons_zero, Option.some.injEq] at hfX
  subst hfX
  go_wp2_with fail
  rename_i fY hfY
  simp only [List.getElem?_cons_zero, Option.some.injEq] at hfY
  subst hfY
  go_wp2_with fail
  refine (dU CBA _ B0).mono ?_
  rintro e w2 ⟨⟨q2, rfl, h2⟩, b1⟩
  replace B0 := bT B0 b1
  have R := dH (show RetB (P1 ∧ P2) (.returned (.bool q2)) from ⟨q2, rfl, h2.trans ⟨fun h => ⟨h1.1 (by first | trivial | rfl), h⟩, fun h => h.2⟩⟩)
  clear b1 t0 a0 a1 a2 f0 f1 f2 CBA h1 h2 XA XB hc5
  cases q2
  all_goals
   go_wp2
   go_ret
   exact ⟨dU R, B0⟩
def sameP (m : Wo) : Prop := woP m ∧ (m.torn = true ∨ samR m.readers m.reg.trim)
theorem sameL_any (bx : Nat) (rv : Value) (l : List Rr) (tr : Int) (w : World) (hc : w.cell? ⟨bx, 8, none⟩ = some rv) (hc5 : w.cell? ⟨bx, 5, none⟩ = some (.int .i64 tr)) (hr : RdReaderS rv l w) (h2 : l.length = 2) (hs : ∀ r ∈ l, r.out.length ≤ 1048576 ∧ plsR r ∧ smallR r) :
  Calls Tryz.prog 173 #[.pointer (some ⟨bx, 0, none⟩)] w fun e w' => RetB (samR l tr) e ∧ Below w.heap.size w w' := by
 match l, h2, hr, hs with
 | [a, b], _, hr, hs =>
  have ha := hs a (by simp)
  have hb := hs b (by simp)
  exact (sameC_any bx rv a b tr w hc hc5 hr ha.2.2 hb.2.2 ha.1 hb.1 ha.2.1 hb.2.1).mono fun e w' ⟨h1, h2⟩ => ⟨h1.to_iff ⟨fun q => ⟨a, b, rfl, q⟩, fun ⟨a', b', e, q⟩ => by cases e; exact q⟩, h2⟩
theorem judgeSame1 (w : World) (m : Wo) (ok : okWorld m) (hs : sizWorld m ≤ 1048576) (h : woP m) : Judge1 w m ⟨#[115, 97, 109, 101]⟩ (m.torn = true ∨ samR m.readers m.reg.trim) := fun W bx b mb hb hc hm ⟨c5, rv, tv, c8, c9, hr, ht⟩ => by
 have hrl : ∀ r ∈ m.readers, r.out.length ≤ 1048576 := fun r hr => rrOut_le (by unfold sizWorld at hs; omega) hr
 have C := sameL_any bx rv m.readers m.reg.trim W c8 c5 hr h.2.2.1.1 (fun r hr => ⟨hrl r hr, plsOf ok r hr, smallOf h r hr⟩)
 cases ht' : m.torn with
 | false =>
  rw [ht'] at hm
  exact (judged1_found ⟨#[115, 97, 109, 101]⟩ mb b 5 4 173 _ _ _ W (by intro args w; rfl) hc hm (by kernel_rfl) C).mono fun e w' ⟨h1, h2⟩ => ⟨h1.to_iff ⟨.inr, fun q => q.resolve_left (by simp)⟩, h2⟩
 | true =>
  rw [ht'] at hm
  exact (judged1_none ⟨#[115, 97, 109, 101]⟩ mb b 5 _ W hc hm (by kernel_rfl)).mono fun e w' ⟨h1, h2⟩ => ⟨h1.to_iff ⟨fun _ => .inl rfl, fun _ => trivial⟩, h2⟩
def allP (m : Wo) : Prop := orderP m ∧ trueP m ∧ keptP m ∧ wholeP m ∧ sameP m
theorem judgeWhole1 (w : World) (m : Wo) (ok : okWorld m) (hs : sizWorld m ≤ 1048576) (h : woP m) : Judge1 w m ⟨#[119, 104, 111, 108, 101]⟩ (m.torn = true ∨ ∀ r ∈ m.readers, noLoss r) := fun W bx b mb hb hc hm ⟨c5, rv, tv, c8, c9, hr, ht⟩ => by
 have hrl : ∀ r ∈ m.readers, r.out.length ≤ 1048576 := fun r hr => rrOut_le (by unfold sizWorld at hs; omega) hr
 have C := wholeC_any bx rv m.readers W c8 hr hrl
 cases ht' : m.torn with
 | false =>
  rw [ht'] at hm
  exact (judged1_found ⟨#[119, 104, 111, 108, 101]⟩ mb b 5 3 170 _ _ _ W (by intro args w; rfl) hc hm (by kernel_rfl) C).mono fun e w' ⟨h1, h2⟩ => ⟨h1.to_iff ⟨.inr, fun q => q.resolve_left (by simp)⟩, h2⟩
 | true =>
  rw [ht'] at hm
  exact (judged1_none ⟨#[119, 104, 111, 108, 101]⟩ mb b 5 _ W hc hm (by kernel_rfl)).mono fun e w' ⟨h1, h2⟩ => ⟨h1.to_iff ⟨fun _ => .inl rfl, fun _ => trivial⟩, h2⟩
theorem judgeOrder1 (w : World) (m : Wo) (ok : okWorld m) (hs : sizWorld m ≤ 1048576) (h : woP m) : Judge1 w m ⟨#[111, 114, 100, 101, 114]⟩ (∀ r ∈ m.readers, ordR r) := fun W bx b mb hb hc hm ⟨c5, rv, tv, c8, c9, hr, ht⟩ => by
 have hrl : ∀ r ∈ m.readers, r.out.length ≤ 1048576 := fun r hr => rrOut_le (by unfold sizWorld at hs; omega) hr
 have C := orderC_any bx rv m.readers W c8 hr hrl
 cases ht' : m.torn with
 | false =>
  rw [ht'] at hm
  exact judged1_found ⟨#[111, 114, 100, 101, 114]⟩ mb b 5 0 162 _ _ _ W (by intro args w; rfl) hc hm (by kernel_rfl) C
 | true =>
  rw [ht'] at hm
  exact judged1_found ⟨#[111, 114, 100, 101, 114]⟩ mb b 5 0 162 _ _ _ W (by intro args w; rfl) hc hm (by kernel_rfl) C
theorem Judge1.to_iff {w : World} {m : Wo} {z : ByteArray} {P Q : Prop} (h : Judge1 w m z P) (hq : P ↔ Q) : Judge1 w m z Q := fun W bx b mb h1 h2 h3 h4 => (h W bx b mb h1 h2 h3 h4).mono fun e w' ⟨q1, q2⟩ => ⟨q1.to_iff hq, q2⟩
def nameP (m : Wo) (z : ByteArray) : Prop := (z = ⟨#[111, 114, 100, 101, 114]⟩ → ∀ r ∈ m.readers, ordR r) ∧ (z = ⟨#[116, 114, 117, 101]⟩ → ∀ r ∈ m.readers, trueR m.sent r) ∧ (z = ⟨#[107, 101, 112, 116]⟩ → m.torn = true ∨ ∀ r ∈ m.readers, keptR m.sent m.reg.trim r) ∧ (z = ⟨#[119, 104, 111, 108, 101]⟩ → m.torn = true ∨ ∀ r ∈ m.readers, noLoss r) ∧ (z = ⟨#[115, 97, 109, 101]⟩ → m.torn = true ∨ samR m.readers m.reg.trim)
theorem nameP_order (m : Wo) : (∀ r ∈ m.readers, ordR r) ↔ nameP m ⟨#[111, 114, 100, 101, 114]⟩ := ⟨fun h => ⟨fun _ => h, fun e => absurd e (by decide), fun e => absurd e (by decide), fun e => absurd e (by decide), fun e => absurd e (by decide)⟩, fun h => h.1 rfl⟩
theorem nameP_true (m : Wo) : (∀ r ∈ m.readers, trueR m.sent r) ↔ nameP m ⟨#[116, 114, 117, 101]⟩ := ⟨fun h => ⟨fun e => absurd e (by decide), fun _ => h, fun e => absurd e (by decide), fun e => absurd e (by decide), fun e => absurd e (by decide)⟩, fun h => h.2.1 rfl⟩
theorem nameP_kept (m : Wo) : (m.torn = true ∨ ∀ r ∈ m.readers, keptR m.sent m.reg.trim r) ↔ nameP m ⟨#[107, 101, 112, 116]⟩ := ⟨fun h => ⟨fun e => absurd e (by decide), fun e => absurd e (by decide), fun _ => h, fun e => absurd e (by decide), fun e => absurd e (by decide)⟩, fun h => h.2.2.1 rfl⟩
theorem nameP_whole (m : Wo) : (m.torn = true ∨ ∀ r ∈ m.readers, noLoss r) ↔ nameP m ⟨#[119, 104, 111, 108, 101]⟩ := ⟨fun h => ⟨fun e => absurd e (by decide), fun e => absurd e (by decide), fun e => absurd e (by decide), fun _ => h, fun e => absurd e (by decide)⟩, fun h => h.2.2.2.1 rfl⟩
theorem nameP_same (m : Wo) : (m.torn = true ∨ samR m.readers m.reg.trim) ↔ nameP m ⟨#[115, 97, 109, 101]⟩ := ⟨fun h => ⟨fun e => absurd e (by decide), fun e => absurd e (by decide), fun e => absurd e (by decide), fun e => absurd e (by decide), fun _ => h⟩, fun h => h.2.2.2.2 rfl⟩
theorem judgedAll_any (v nv' : Value) (m : Wo) (w : World) (ok : okWorld m) (hs : sizWorld m ≤ 1048576) (hv : RdWorld v m w) (hn : Txs w nv' [⟨#[111, 114, 100, 101, 114]⟩, ⟨#[116, 114, 117, 101]⟩, ⟨#[107, 101, 112, 116]⟩, ⟨#[119, 104, 111, 108, 101]⟩, ⟨#[115, 97, 109, 101]⟩]) :
  Calls Tryz.prog 32 #[v, nv'] w fun e w' => RetB (allP m) e ∧ Below w.heap.size w w' :=
 (judgedG_any v nv' m [⟨#[111, 114, 100, 101, 114]⟩, ⟨#[116, 114, 117, 101]⟩, ⟨#[107, 101, 112, 116]⟩, ⟨#[119, 104, 111, 108, 101]⟩, ⟨#[115, 97, 109, 101]⟩] (nameP m) w ok hs hv hn fun h z hz => by
  simp only [List.mem_cons, List.not_mem_nil, or_false] at hz
  rcases hz with rfl | rfl | rfl | rfl | rfl
  ·exact (judgeOrder1 w m ok hs h).to_iff (nameP_order m)
  ·exact (judgeTrue1 w m hs h).to_iff (nameP_true m)
  ·exact (judgeKept1 w m ok hs h).to_iff (nameP_kept m)
  ·exact (judgeWhole1 w m ok hs h).to_iff (nameP_whole m)
  ·exact (judgeSame1 w m ok hs h).to_iff (nameP_same m)).mono fun e w' ⟨h1, h2⟩ => ⟨h1.to_iff ⟨fun h => ⟨⟨h.1, (nameP_order m).2 (h.2 _ (by simp))⟩, ⟨h.1, (nameP_true m).2 (h.2 _ (by simp))⟩, ⟨h.1, (nameP_kept m).2 (h.2 _ (by simp))⟩, ⟨h.1, (nameP_whole m).2 (h.2 _ (by simp))⟩, ⟨h.1, (nameP_same m).2 (h.2 _ (by simp))⟩⟩, fun h => ⟨h.1.1, fun z hz => by
  simp only [List.mem_cons, List.not_mem_nil, or_false] at hz
  rcases hz with rfl | rfl | rfl | rfl | rfl
  ·exact (nameP_order m).1 h.1.2
  ·exact (nameP_true m).1 h.2.1.2
  ·exact (nameP_kept m).1 h.2.2.1.2
  ·exact (nameP_whole m).1 h.2.2.2.1.2
  ·exact (nameP_same m).1 h.2.2.2.2.2⟩⟩, h2⟩
theorem names5 (w : World) (s0 s1 s2 s3 s4 : ByteArray) : Txs (w.alloc (.cells #[.string s0, .string s1, .string s2, .string s3, .string s4] 9)) (.slice (some ⟨w.heap.size, 0, none⟩) 5 5) [s0, s1, s2, s3, s4] :=
 ⟨by simp, _, 5, rfl, ⟨by simp, by omega⟩, .inr ⟨w.heap.size, 0, rfl, fun i hi => by
  have X := Bx.new w [.string s0, .string s1, .string s2, .string s3, .string s4] 9
  have : i = 0 ∨ i = 1 ∨ i = 2 ∨ i = 3 ∨ i = 4 := by simp at hi; omega
  rcases this with rfl | rfl | rfl | rfl | rfl
  ·exact X 0 _ rfl
  ·exact X 1 _ rfl
  ·exact X 2 _ rfl
  ·exact X 3 _ rfl
  ·exact X 4 _ rfl⟩⟩
set_option maxHeartbeats 4000000 in
theorem implAll_any (v : Value) (m : Wo) (w : World) (ok : okWorld m) (hs : sizWorld m ≤ 1048576) (hv : RdWorld v m w) :
  Calls Tryz.prog 12 #[v] w fun e w' => RetB (allP m) e ∧ Below w.heap.size w w' := by
 have CJ := dH fun W (hb : Below w.heap.size w W) nv' (hn : Txs W nv' [⟨#[111, 114, 100, 101, 114]⟩, ⟨#[116, 114, 117, 101]⟩, ⟨#[107, 101, 112, 116]⟩, ⟨#[119, 104, 111, 108, 101]⟩, ⟨#[115, 97, 109, 101]⟩]) => judgedAll_any v nv' m W ok hs (hv.below hb) hn
 obtain ⟨da, dc, sa, sc, la, lc, ea, ec, wa, wc, na, nc, ra, rc', ta, tc, rfl, hd, hst, hlo, hre, hwr, hme, hrd, hse⟩ := partsWorld hv
 clear hd hst hlo hre hwr hme hse hs ok hrd hv
 generalize allP m = PQ at *
 obtain ⟨⟨ds, cop⟩, stores, lost, ⟨eras, trim⟩, writers, mends, readers, sent, torn⟩ := m
 simp only at *
 have B0 : Below w.heap.size w (w.alloc (.cells #[.slice da ds.length dc, .int .i64 cop, .slice sa stores.length sc, .slice la lost.length lc, .slice ea eras.length ec, .int .i64 trim, .slice wa writers.length wc, .slice na mends.length nc, .slice ra readers.length rc', .slice ta sent.length tc, .bool torn] 37)) := (Below.refl _ _).alloc (Nat.le_refl _) _
 have es : (w.alloc (.cells #[.slice da ds.length dc, .int .i64 cop, .slice sa stores.length sc, .slice la lost.length lc, .slice ea eras.length ec, .int .i64 trim, .slice wa writers.length wc, .slice na mends.length nc, .slice ra readers.length rc', .slice ta sent.length tc, .bool torn] 37)).heap.size = w.heap.size + 1 := by simp
 have N1 := names5 (w.alloc (.cells #[.slice da ds.length dc, .int .i64 cop, .slice sa stores.length sc, .slice la lost.length lc, .slice ea eras.length ec, .int .i64 trim, .slice wa writers.length wc, .slice na mends.length nc, .slice ra readers.length rc', .slice ta sent.length tc, .bool torn] 37)) ⟨#[111, 114, 100, 101, 114]⟩ ⟨#[116, 114, 117, 101]⟩ ⟨#[107, 101, 112, 116]⟩ ⟨#[119, 104, 111, 108, 101]⟩ ⟨#[115, 97, 109, 101]⟩
 rw [es] at N1
 replace N1 := dH N1
 have B1 := dH (bT B0 ((Below.refl _ _).alloc (Nat.le_refl _) (.cells #[.string ⟨#[111, 114, 100, 101, 114]⟩, .string ⟨#[116, 114, 117, 101]⟩, .string ⟨#[107, 101, 112, 116]⟩, .string ⟨#[119, 104, 111, 108, 101]⟩, .string ⟨#[115, 97, 109, 101]⟩] 9)))
 clear es B0
 go_enter Tryz.func12, Tryz.ntmps12
 go_wp2_with fail
 refine (dU CJ _ (dU B1) _ (dU N1)).mono ?_
 rintro e w1 ⟨⟨q, rfl, h⟩, b1⟩
 have R := dH (show RetB PQ (.returned (.bool q)) from ⟨q, rfl, h⟩)
 have B2 := bT (dU B1) b1
 clear CJ h b1 B1 N1
 cases q
 all_goals
  go_wp2
  go_ret
  exact ⟨dU R, B2⟩
end Go.Proofs.YtodfgehicpejgaaGreatDoor
