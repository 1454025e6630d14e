/- impl's MendOk and MendReady (printed by tools/mkmng.py). -/
import Derived.Test.YtodfgehicpejgaaGreatDoorGk169
import Derived.Test.YtodfgehicpejgaaGreatDoorGk170
import Derived.Test.YtodfgehicpejgaaGreatDoorGk164
import Derived.Test.YtodfgehicpejgaaGreatDoorGk158
import Derived.Test.YtodfgehicpejgaaGreatDoorGk178
import Derived.Test.YtodfgehicpejgaaGreatDoorGk149
import Derived.Deep.RegionHeld3
import Derived.Deep.DeepCutAuto
namespace Go.Proofs.YtodfgehicpejgaaGreatDoor
open Go.ChangeShapes Go.WideShapes Go.ChangeAt Go.RowKit
set_option linter.unusedVariables false
set_option linter.unusedSimpArgs false
set_option maxRecDepth 100000

def smlM (m : Mn) : Prop := m.sealed.length + sizIntSS m.wrote ≤ 1048576
theorem smlM_of {m : Mn} (h : sizMend m ≤ 1048576) : smlM m := by
  unfold sizMend at h
  unfold smlM
  omega
theorem implStep_any (v : Value) (m : Mn) (w : World) (hv : RdMend v m w) :
    Calls Tryz.prog 156 #[v] w fun e w' => e = .returned (.int .i64 (if m.planned then 1 else 0)) ∧ Below w.heap.size w w' := by
  have ba : ∀ (w : World) o, Below w.heap.size w (w.alloc o) := fun w o => (Below.refl _ _).alloc (Nat.le_refl _) o
  obtain ⟨sa, sc, ea, ec, wa, wc, rfl, -, -, -⟩ := formMend hv
  clear hv
  generalize m.planned = f4 at *
  cases f4
  · go_enter Tryz.func156, Tryz.ntmps156
    go_wp2
    go_ret
    exact ⟨rfl, ba _ _⟩
  · go_enter Tryz.func156, Tryz.ntmps156
    go_wp2
    go_ret
    exact ⟨rfl, ba _ _⟩
set_option maxHeartbeats 2000000 in
theorem implLast_any (v : Value) (m : Mn) (w : World) (hv : RdMend v m w) (hf : fitE m.seen) :
    Calls Tryz.prog 237 #[v] w fun e w' => (∃ x, e = .returned (.int .i64 x) ∧ ((∀ i (h : i < m.seen.length), isPl m.seen[i].pl) → x = lastO m.seen)) ∧ Below w.heap.size w w' := by
  have ba : ∀ (w : World) o, Below w.heap.size w (w.alloc o) := fun w o => (Below.refl _ _).alloc (Nat.le_refl _) o
  obtain ⟨sv, ev, wv, rfl, h1, h2, h3⟩ := hv
  obtain ⟨-, sa, sc, rfl, -, -⟩ := h1
  have HR := h2
  obtain ⟨ea, ec, rfl, hl⟩ := formEntryS h2
  obtain ⟨wa, wc, rfl, -⟩ := formK h3
  generalize m.bye = f0 at *
  generalize m.epoch = f1 at *
  generalize m.planned = f4 at *
  generalize m.sealed.length = l2 at *
  generalize m.wrote.length = l5 at *
  clear h3
  by_cases h0 : m.seen.length = 0
  · have e1 : lastO m.seen = 0 := by rw [List.length_eq_zero_iff.1 h0]; rfl
    rw [e1]
    clear HR h2 hf
    generalize (∀ i (h : i < m.seen.length), isPl m.seen[i].pl) = HP at *
    generalize m.seen.length = n at *
    subst h0
    go_enter Tryz.func237, Tryz.ntmps237
    go_wp2
    go_ret
    exact ⟨⟨_, rfl, fun _ => rfl⟩, ba _ _⟩
  · obtain ⟨k, hk⟩ : ∃ k, m.seen.length = k + 1 := ⟨m.seen.length - 1, by omega⟩
    have e1 : lastO m.seen = (m.seen[k]'(by omega)).pl % 4294967296 := by
      rw [lastO_at _ (by omega)]
      simp only [hk, Nat.add_sub_cancel]
    obtain ⟨b, off, rfl, hc⟩ := Rw.ent HR (show k < m.seen.length by omega)
    have hfk := hf _ (List.getElem_mem (show k < m.seen.length by omega))
    have CO : Hid (∀ W, ∃ x, ((∀ i (h : i < m.seen.length), isPl m.seen[i].pl) → x = lastO m.seen) ∧ Calls Tryz.prog 290 #[.int .i64 (m.seen[k]'(by omega)).pl] W fun e w' => e = .returned (.int .i64 x) ∧ Below W.heap.size W w') := fun W => by
      by_cases hp : isPl (m.seen[k]'(by omega)).pl
      · exact ⟨_, fun _ => e1.symm, (implOff_yes _ hp W).mono fun e w' h => ⟨h.1, by obtain ⟨-, h2⟩ := h; first | exact h2 | (subst h2; exact Below.refl _ _)⟩⟩
      · exact ⟨_, fun hs => absurd (hs k (by omega)) hp, (implOff_no _ hfk.1 hfk.2.1 hp W).mono fun e w' h => ⟨h.1, by obtain ⟨-, h2⟩ := h; first | exact h2 | (subst h2; exact Below.refl _ _)⟩⟩
    have k0 := (hc k (by omega)).1
    have bA := ba w (.cells #[.int .i64 f0, .int .i64 f1, .slice sa l2 sc, .slice (some ⟨b, off, none⟩) (k + 1) ec, .bool f4, .slice wa l5 wc] 90)
    have k0' := (bA.cell (p := ⟨b, off + k * 4, none⟩) (dCell_lt k0)).trans k0
    generalize ((∀ i (h : i < m.seen.length), isPl m.seen[i].pl)) = HP at *
    generalize (m.seen[k]'(by omega)).pl = x at *
    rw [hk]
    have t1 : IntKind.i64.wrap (((k + 1 : Nat) : Int) - 1) = (k : Int) := by rw [IntKind.wrap_i64]; omega
    have t2 : IntKind.i64.wrap ((k : Int) + 1 - 1) = (k : Int) := by rw [IntKind.wrap_i64]; omega
    have t3 : (k : Int) < ((k + 1 : Nat) : Int) := by omega
    have t4 : (0 : Int) ≤ (k : Int) := by omega
    have t5 : (((k + 1 : Nat) : Int) == 0) = false := by simp; omega
    have t6 : (k : Int) ≤ 9223372036854775806 := by omega
    have t7 : wrap64 (k : Int) = (k : Int) := by unfold wrap64; omega
    clear hc HR h2 hf e1 k0 h0 hk hl hfk
    go_enter Tryz.func237, Tryz.ntmps237
    go_wp2_with fail
    obtain ⟨y, hy, C1⟩ := dU CO (w.alloc (.cells #[.int .i64 f0, .int .i64 f1, .slice sa l2 sc, .slice (some ⟨b, off, none⟩) (k + 1) ec, .bool f4, .slice wa l5 wc] 90))
    refine C1.mono ?_
    rintro e w1 ⟨rfl, b1⟩
    have HY := dH hy
    clear CO C1 hy
    go_wp2
    go_ret
    exact ⟨⟨_, rfl, dU HY⟩, bT bA b1⟩
theorem implEpochs_any (v : Value) (m : Mn) (w : World) (hv : RdMend v m w) :
    Calls Tryz.prog 238 #[v] w fun e w' => RetB ((1 ≤ m.epoch ∧ m.epoch ≤ 30) ∧ (m.epoch + 1 ≤ m.bye ∧ m.bye ≤ 30)) e ∧ Below w.heap.size w w' := by
  have ba : ∀ (w : World) o, Below w.heap.size w (w.alloc o) := fun w o => (Below.refl _ _).alloc (Nat.le_refl _) o
  obtain ⟨sa, sc, ea, ec, wa, wc, rfl, -, -, -⟩ := formMend hv
  clear hv
  generalize m.bye = f0 at *
  generalize m.epoch = f1 at *
  generalize m.planned = f4 at *
  obtain ⟨P, hP⟩ : ∃ P, P ↔ ((1 ≤ f1 ∧ f1 ≤ 30) ∧ (f1 + 1 ≤ f0 ∧ f0 ≤ 30)) := ⟨_, Iff.rfl⟩
  rw [show ((1 ≤ f1 ∧ f1 ≤ 30) ∧ (f1 + 1 ≤ f0 ∧ f0 ≤ 30)) = P from propext hP.symm]
  replace hP := dH hP
  by_cases h1 : 1 ≤ f1
  · by_cases h2 : f1 < f0
    · by_cases h3 : f0 ≤ 30
      · have R : RetB P (.returned (.bool true)) := RetB.yes ((dU hP).2 (by omega))
        go_enter Tryz.func238, Tryz.ntmps238
        go_wp2
        go_ret
        exact ⟨R, ba _ _⟩
      · have R : RetB P (.returned (.bool false)) := RetB.no fun h => by have := (dU hP).1 h; omega
        go_enter Tryz.func238, Tryz.ntmps238
        go_wp2
        go_ret
        exact ⟨R, ba _ _⟩
    · have R : RetB P (.returned (.bool false)) := RetB.no fun h => by have := (dU hP).1 h; omega
      go_enter Tryz.func238, Tryz.ntmps238
      go_wp2
      go_ret
      exact ⟨R, ba _ _⟩
  · have R : RetB P (.returned (.bool false)) := RetB.no fun h => by have := (dU hP).1 h; omega
    go_enter Tryz.func238, Tryz.ntmps238
    go_wp2
    go_ret
    exact ⟨R, ba _ _⟩
theorem nodesOkFn (q : List Int → Bool) (p : Nst (List Int)) (ca : Option Addr) (cc : Nat) (ds : List Int) (cop : Int) (bv : Nat) (w : World) (x0 : w.cell? ⟨bv, 0, none⟩ = some (.slice ca ds.length cc)) (x1 : w.cell? ⟨bv, 1, none⟩ = some (.int .i64 cop)) (hc : Ns w (.slice ca ds.length cc) ds) (hn : Ns w (Sv idL p) p.m) (had : allInt ds) (hax : allInt p.m) (hld : ds.length ≤ 1048576) (hlx : p.m.length ≤ 1048576) (c0 : -9223372036854775808 ≤ cop) (c1 : cop ≤ 9223372036854775807) (hq : q p.m = true ↔ ¬ nodesP ds cop p.m) :
    Calls Tryz.prog 291 #[.slice p.a p.m.length p.c, .pointer (some ⟨bv, 0, none⟩)] w fun e w' => e = .returned (.bool (q p.m)) ∧ Below w.heap.size w w' := by
  have C1 : Calls Tryz.prog 66 #[.agg #[.slice ca ds.length cc, .int .i64 cop], .slice p.a p.m.length p.c] w fun e w' => RetB (nodesP ds cop p.m) e ∧ Below w.heap.size w w' := implNodes_any _ _ ds p.m cop w hc hn had hax hld hlx c0 c1
  generalize nodesP ds cop p.m = PP at *
  generalize q p.m = qb at *
  replace C1 := dH C1
  have HQ := dH hq
  clear hq hc hn
  go_enter Tryz.func291, Tryz.ntmps291
  go_wp2_with fail
  refine (dU C1).mono ?_
  rintro e w5 ⟨⟨b1, rfl, hb1⟩, b5⟩
  have R : Hid ((!b1) = qb) := by
    rw [Hid]
    cases b1 with
    | true =>
      cases qb with
      | false => rfl
      | true => exact absurd (hb1.1 rfl) ((dU HQ).1 rfl)
    | false => exact ((dU HQ).2 fun h => by have := hb1.2 h; cases this).symm
  clear C1 hb1 HQ
  go_wp2
  go_ret
  exact ⟨by rw [← dU R]; rfl, b5⟩
theorem nodesOkHas (v : Value) (rs : List (Nst (List Int))) (ca : Option Addr) (cc : Nat) (ds : List Int) (cop : Int) (bv : Nat) (w : World) (X : Bx w bv [.slice ca ds.length cc, .int .i64 cop]) (hc : Ns w (.slice ca ds.length cc) ds) (hr : Rw 1 lsCl w v rs) (hn : ∀ p ∈ rs, Ns w (Sv idL p) p.m) (had : allInt ds) (hax : ∀ p ∈ rs, allInt p.m ∧ p.m.length ≤ 1048576) (hld : ds.length ≤ 1048576) (hl : rs.length ≤ 1048576) (c0 : -9223372036854775808 ≤ cop) (c1 : cop ≤ 9223372036854775807) :
    Calls Tryz.prog 288 #[v, .func (.func 291) #[] #[.pointer (some ⟨bv, 0, none⟩)]] w fun e w' => RetB (¬ ∀ l ∈ rs.map Nst.m, nodesP ds cop l) e ∧ Below w.heap.size w w' := by
  obtain ⟨q, hq⟩ : ∃ q : List Int → Bool, ∀ y, q y = true ↔ ¬ nodesP ds cop y := ⟨fun y => @decide (¬ nodesP ds cop y) (Classical.propDecidable _), fun y => @decide_eq_true_iff _ (Classical.propDecidable _)⟩
  refine (containsFuncL_any v rs 291 #[.pointer (some ⟨bv, 0, none⟩)] q w Tryz.call291 hr hl (fun W hb k hk => nodesOkFn q rs[k] ca cc ds cop bv W (X.below hb 0 _ rfl) (X.below hb 1 _ rfl) (hc.below hb) ((hn _ (List.getElem_mem hk)).below hb) had (hax _ (List.getElem_mem hk)).1 hld (hax _ (List.getElem_mem hk)).2 c0 c1 (hq _))).mono ?_
  rintro e w' ⟨⟨b, he, hb⟩, hB⟩
  refine ⟨⟨b, he, ?_⟩, hB⟩
  rw [hb]
  constructor
  · rintro ⟨e, he, h⟩ ha
    exact (hq e).1 h (ha e he)
  · intro h
    apply Classical.byContradiction
    intro hno
    refine h fun e he => Classical.byContradiction fun hne => hno ⟨e, he, (hq e).2 hne⟩
theorem allHeldFn (q : List Int → Bool) (p : Nst (List Int)) (ca : Option Addr) (cc : Nat) (ds : List Int) (cop : Int) (bv : Nat) (w : World) (x0 : w.cell? ⟨bv, 0, none⟩ = some (.slice ca ds.length cc)) (x1 : w.cell? ⟨bv, 1, none⟩ = some (.int .i64 cop)) (hc : Ns w (.slice ca ds.length cc) ds) (hn : Ns w (Sv idL p) p.m) (had : allInt ds) (hax : allInt p.m) (hld : ds.length ≤ 1048576) (hlx : p.m.length ≤ 1048576) (c0 : -9223372036854775808 ≤ cop) (c1 : cop ≤ 9223372036854775807) (hq : q p.m = true ↔ ¬ holdsP ds cop p.m) :
    Calls Tryz.prog 289 #[.slice p.a p.m.length p.c, .pointer (some ⟨bv, 0, none⟩)] w fun e w' => e = .returned (.bool (q p.m)) ∧ Below w.heap.size w w' := by
  have C1 : Calls Tryz.prog 70 #[.agg #[.slice ca ds.length cc, .int .i64 cop], .slice p.a p.m.length p.c] w fun e w' => RetB (holdsP ds cop p.m) e ∧ Below w.heap.size w w' := implHolds_any _ _ ds p.m cop w hc hn had hax hld hlx c0 c1
  generalize holdsP ds cop p.m = PP at *
  generalize q p.m = qb at *
  replace C1 := dH C1
  have HQ := dH hq
  clear hq hc hn
  go_enter Tryz.func289, Tryz.ntmps289
  go_wp2_with fail
  refine (dU C1).mono ?_
  rintro e w5 ⟨⟨b1, rfl, hb1⟩, b5⟩
  have R : Hid ((!b1) = qb) := by
    rw [Hid]
    cases b1 with
    | true =>
      cases qb with
      | false => rfl
      | true => exact absurd (hb1.1 rfl) ((dU HQ).1 rfl)
    | false => exact ((dU HQ).2 fun h => by have := hb1.2 h; cases this).symm
  clear C1 hb1 HQ
  go_wp2
  go_ret
  exact ⟨by rw [← dU R]; rfl, b5⟩
theorem allHeldHas (v : Value) (rs : List (Nst (List Int))) (ca : Option Addr) (cc : Nat) (ds : List Int) (cop : Int) (bv : Nat) (w : World) (X : Bx w bv [.slice ca ds.length cc, .int .i64 cop]) (hc : Ns w (.slice ca ds.length cc) ds) (hr : Rw 1 lsCl w v rs) (hn : ∀ p ∈ rs, Ns w (Sv idL p) p.m) (had : allInt ds) (hax : ∀ p ∈ rs, allInt p.m ∧ p.m.length ≤ 1048576) (hld : ds.length ≤ 1048576) (hl : rs.length ≤ 1048576) (c0 : -9223372036854775808 ≤ cop) (c1 : cop ≤ 9223372036854775807) :
    Calls Tryz.prog 288 #[v, .func (.func 289) #[] #[.pointer (some ⟨bv, 0, none⟩)]] w fun e w' => RetB (¬ ∀ l ∈ rs.map Nst.m, holdsP ds cop l) e ∧ Below w.heap.size w w' := by
  obtain ⟨q, hq⟩ : ∃ q : List Int → Bool, ∀ y, q y = true ↔ ¬ holdsP ds cop y := ⟨fun y => @decide (¬ holdsP ds cop y) (Classical.propDecidable _), fun y => @decide_eq_true_iff _ (Classical.propDecidable _)⟩
  refine (containsFuncL_any v rs 289 #[.pointer (some ⟨bv, 0, none⟩)] q w Tryz.call289 hr hl (fun W hb k hk => allHeldFn q rs[k] ca cc ds cop bv W (X.below hb 0 _ rfl) (X.below hb 1 _ rfl) (hc.below hb) ((hn _ (List.getElem_mem hk)).below hb) had (hax _ (List.getElem_mem hk)).1 hld (hax _ (List.getElem_mem hk)).2 c0 c1 (hq _))).mono ?_
  rintro e w' ⟨⟨b, he, hb⟩, hB⟩
  refine ⟨⟨b, he, ?_⟩, hB⟩
  rw [hb]
  constructor
  · rintro ⟨e, he, h⟩ ha
    exact (hq e).1 h (ha e he)
  · intro h
    apply Classical.byContradiction
    intro hno
    refine h fun e he => Classical.byContradiction fun hne => hno ⟨e, he, (hq e).2 hne⟩
set_option maxHeartbeats 4000000 in
theorem implNodesOk_any (cv v : Value) (c : List Int × Int) (m : Mn) (w : World) (hc : RdConfig cv c w) (hv : RdMend v m w) (okc : okConfig c) (ok : okMend m) (hsc : sizConfig c ≤ 1048576) (hs : smlM m) :
    Calls Tryz.prog 239 #[v, cv] w fun e w' => RetB (nodesP c.1 c.2 m.sealed ∧ ∀ l ∈ m.wrote, nodesP c.1 c.2 l) e ∧ Below w.heap.size w w' := by
  have ba : ∀ (w : World) o, Below w.heap.size w (w.alloc o) := fun w o => (Below.refl _ _).alloc (Nat.le_refl _) o
  obtain ⟨ds, cop⟩ := c
  obtain ⟨sc', rfl, hc⟩ := hc
  obtain ⟨had, c0, c1⟩ := okc
  unfold sizConfig at hsc
  obtain ⟨sv, ev, wv, rfl, h1, h2, rs, hm, hr, hn⟩ := hv
  simp only at *
  have hll : m.sealed.length ≤ 1048576 := by unfold smlM at hs; omega
  have hrl : rs.length = m.wrote.length := by rw [← hm, List.length_map]
  have hle : rs.length ≤ 1048576 := by rw [hrl]; unfold smlM sizIntSS at hs; omega
  have hax : ∀ p ∈ rs, allInt p.m ∧ p.m.length ≤ 1048576 := fun p hp => by
    obtain ⟨k, hk, rfl⟩ := List.mem_iff_getElem.1 hp
    refine ⟨ok.2.2.2.2 _ (by rw [← hm]; exact List.mem_map.2 ⟨_, hp, rfl⟩), ?_⟩
    have q := sumL_mem (ms := rs.map Nst.m) (k := k) (by simpa using hk)
    rw [List.getElem_map] at q
    have q2 : sumL (rs.map Nst.m) = sumL m.wrote := by rw [hm]
    unfold smlM sizIntSS at hs
    omega
  have CN := dH fun W (hb : Below w.heap.size w W) => implNodes_any sc' sv ds m.sealed cop W (hc.below hb) (h1.below hb) had ok.2.2.1 hsc hll c0 c1
  have HC := hc
  obtain ⟨-, ca, cc, rfl, -, -⟩ := hc
  have CW := dH fun W bv (hb : Below w.heap.size w W) (X : Bx W bv [.slice ca ds.length cc, .int .i64 cop]) => nodesOkHas wv rs ca cc ds cop bv W X (HC.below hb) (hr.below hb) (fun p hp => (hn p hp).below hb) had hax hsc hle c0 c1
  obtain ⟨-, sa, sc, rfl, -, -⟩ := h1
  obtain ⟨ea, ec, rfl, -⟩ := formEntryS h2
  obtain ⟨-, wa, wc, rfl, -, -⟩ := hr
  rw [hm] at CW
  generalize nodesP ds cop m.sealed = PN at *
  generalize (∀ l ∈ m.wrote, nodesP ds cop l) = PW at *
  generalize m.bye = f0 at *
  generalize m.epoch = f1 at *
  generalize m.planned = f4 at *
  generalize m.sealed.length = l2 at *
  generalize m.seen.length = l3 at *
  generalize rs.length = l5 at *
  clear HC hn h2 hax hm ok hs hrl
  have bA := bT (ba w (.cells #[.int .i64 f0, .int .i64 f1, .slice sa l2 sc, .slice ea l3 ec, .bool f4, .slice wa l5 wc] 90)) (ba _ (.cells #[.slice ca ds.length cc, .int .i64 cop] 26))
  have X0 := (Bx.new w [.int .i64 f0, .int .i64 f1, .slice sa l2 sc, .slice ea l3 ec, .bool f4, .slice wa l5 wc] 90).below (ba _ (.cells #[.slice ca ds.length cc, .int .i64 cop] 26))
  have Y0 := Bx.new (w.alloc (.cells #[.int .i64 f0, .int .i64 f1, .slice sa l2 sc, .slice ea l3 ec, .bool f4, .slice wa l5 wc] 90)) [.slice ca ds.length cc, .int .i64 cop] 26
  have e1 : (w.alloc (.cells #[.int .i64 f0, .int .i64 f1, .slice sa l2 sc, .slice ea l3 ec, .bool f4, .slice wa l5 wc] 90)).heap.size = w.heap.size + 1 := by simp
  rw [e1] at Y0
  clear e1
  go_enter Tryz.func239, Tryz.ntmps239
  go_wp2_with fail
  generalize (w.alloc (.cells #[.int .i64 f0, .int .i64 f1, .slice sa l2 sc, .slice ea l3 ec, .bool f4, .slice wa l5 wc] 90)).alloc (.cells #[.slice ca ds.length cc, .int .i64 cop] 26) = w0 at *
  refine (dU CN _ bA).mono ?_
  rintro e w1 ⟨⟨b1, rfl, h1⟩, bl1⟩
  have B1 := bT bA bl1
  have k5 := X0.below bl1 5 _ rfl
  cases b1
  · have R : RetB (PN ∧ PW) (.returned (.bool false)) := RetB.no fun h => by have := h1.2 h.1; cases this
    clear h1 CW CN
    go_wp2
    go_ret
    exact ⟨R, B1⟩
  have H1 := dH (h1.1 rfl)
  have C2 := dH (dU CW w1 (w.heap.size + 1) B1 (Y0.below bl1))
  clear h1 CN CW
  go_wp2_with fail
  refine (dU C2).mono ?_
  rintro e w2 ⟨⟨b2, rfl, h2⟩, bl2⟩
  have R : Hid (RetB (PN ∧ PW) (.returned (.bool (!b2)))) := ⟨_, rfl, by
    cases b2 with
    | true => exact ⟨fun h => by simp at h, fun h => absurd h.2 (h2.1 rfl)⟩
    | false => exact ⟨fun _ => ⟨dU H1, Classical.byContradiction (fun hno => by have := h2.2 hno; cases this)⟩, fun _ => rfl⟩⟩
  have B2 := bT B1 bl2
  clear h2 C2 k5
  go_wp2
  go_ret
  exact ⟨dU R, B2⟩
set_option maxHeartbeats 4000000 in
theorem implAllHeld_any (cv v : Value) (c : List Int × Int) (m : Mn) (w : World) (hc : RdConfig cv c w) (hv : RdMend v m w) (okc : okConfig c) (ok : okMend m) (hsc : sizConfig c ≤ 1048576) (hs : smlM m) :
    Calls Tryz.prog 236 #[v, cv] w fun e w' => RetB (∀ l ∈ m.wrote, holdsP c.1 c.2 l) e ∧ Below w.heap.size w w' := by
  have ba : ∀ (w : World) o, Below w.heap.size w (w.alloc o) := fun w o => (Below.refl _ _).alloc (Nat.le_refl _) o
  obtain ⟨ds, cop⟩ := c
  obtain ⟨sc', rfl, hc⟩ := hc
  obtain ⟨had, c0, c1⟩ := okc
  unfold sizConfig at hsc
  obtain ⟨sv, ev, wv, rfl, h1, h2, rs, hm, hr, hn⟩ := hv
  simp only at *
  have hll : m.sealed.length ≤ 1048576 := by unfold smlM at hs; omega
  have hrl : rs.length = m.wrote.length := by rw [← hm, List.length_map]
  have hle : rs.length ≤ 1048576 := by rw [hrl]; unfold smlM sizIntSS at hs; omega
  have hax : ∀ p ∈ rs, allInt p.m ∧ p.m.length ≤ 1048576 := fun p hp => by
    obtain ⟨k, hk, rfl⟩ := List.mem_iff_getElem.1 hp
    refine ⟨ok.2.2.2.2 _ (by rw [← hm]; exact List.mem_map.2 ⟨_, hp, rfl⟩), ?_⟩
    have q := sumL_mem (ms := rs.map Nst.m) (k := k) (by simpa using hk)
    rw [List.getElem_map] at q
    have q2 : sumL (rs.map Nst.m) = sumL m.wrote := by rw [hm]
    unfold smlM sizIntSS at hs
    omega
  have HC := hc
  obtain ⟨-, ca, cc, rfl, -, -⟩ := hc
  have CW := dH fun W bv (hb : Below w.heap.size w W) (X : Bx W bv [.slice ca ds.length cc, .int .i64 cop]) => allHeldHas wv rs ca cc ds cop bv W X (HC.below hb) (hr.below hb) (fun p hp => (hn p hp).below hb) had hax hsc hle c0 c1
  obtain ⟨-, sa, sc, rfl, -, -⟩ := h1
  obtain ⟨ea, ec, rfl, -⟩ := formEntryS h2
  obtain ⟨-, wa, wc, rfl, -, -⟩ := hr
  rw [hm] at CW
  generalize (∀ l ∈ m.wrote, holdsP ds cop l) = PW at *
  generalize m.bye = f0 at *
  generalize m.epoch = f1 at *
  generalize m.planned = f4 at *
  generalize m.sealed.length = l2 at *
  generalize m.seen.length = l3 at *
  generalize rs.length = l5 at *
  clear HC hn h2 hax hm ok hs hrl
  have bA := bT (ba w (.cells #[.int .i64 f0, .int .i64 f1, .slice sa l2 sc, .slice ea l3 ec, .bool f4, .slice wa l5 wc] 90)) (ba _ (.cells #[.slice ca ds.length cc, .int .i64 cop] 26))
  have X0 := (Bx.new w [.int .i64 f0, .int .i64 f1, .slice sa l2 sc, .slice ea l3 ec, .bool f4, .slice wa l5 wc] 90).below (ba _ (.cells #[.slice ca ds.length cc, .int .i64 cop] 26))
  have Y0 := Bx.new (w.alloc (.cells #[.int .i64 f0, .int .i64 f1, .slice sa l2 sc, .slice ea l3 ec, .bool f4, .slice wa l5 wc] 90)) [.slice ca ds.length cc, .int .i64 cop] 26
  have e1 : (w.alloc (.cells #[.int .i64 f0, .int .i64 f1, .slice sa l2 sc, .slice ea l3 ec, .bool f4, .slice wa l5 wc] 90)).heap.size = w.heap.size + 1 := by simp
  rw [e1] at Y0
  clear e1
  have C2 := dH (dU CW _ (w.heap.size + 1) bA Y0)
  clear CW
  go_enter Tryz.func236, Tryz.ntmps236
  go_wp2_with fail
  refine (dU C2).mono ?_
  rintro e w2 ⟨⟨b2, rfl, h2⟩, bl2⟩
  have R : Hid (RetB PW (.returned (.bool (!b2)))) := ⟨_, rfl, by
    cases b2 with
    | true => exact ⟨fun h => by simp at h, fun h => absurd h (h2.1 rfl)⟩
    | false => exact ⟨fun _ => Classical.byContradiction (fun hno => by have := h2.2 hno; cases this), fun _ => rfl⟩⟩
  have B2 := bT bA bl2
  clear h2 C2 X0 Y0
  go_wp2
  go_ret
  exact ⟨dU R, B2⟩
set_option maxHeartbeats 8000000 in
theorem implSeenOk_any (v : Value) (m : Mn) (w : World) (hv : RdMend v m w) (hf : fitE m.seen) :
    Calls Tryz.prog 240 #[v] w fun e w' => RetB ((∀ i (h : i < m.seen.length), seenP m m.seen[i]) ∧ ascE m.seen) e ∧ Below w.heap.size w w' := by
  have ba : ∀ (w : World) o, Below w.heap.size w (w.alloc o) := fun w o => (Below.refl _ _).alloc (Nat.le_refl _) o
  obtain ⟨sv, ev, wv, rfl, h1, h2, h3⟩ := hv
  have CA := dH fun W (hb : Below w.heap.size w W) => ascending_any ev m.seen W (Rw.below h2 hb)
  have CE := dH fun k (hk : k < m.seen.length) W => implEntOk_any m.seen[k] (hf _ (List.getElem_mem hk)) W
  have HE := dH fun W (hb : Below w.heap.size w W) => Rw.below h2 hb
  have PS : Hid (∀ e, seenP m e ↔ (entP e ∧ e.pl / 4294967296 = m.epoch ∧ e.wave < m.bye)) := fun e => Iff.rfl
  generalize seenP m = SP at *
  obtain ⟨-, sa, sc, rfl, -, -⟩ := h1
  obtain ⟨ea, ec, rfl, hel⟩ := formEntryS h2
  obtain ⟨wa, wc, rfl, -⟩ := formK h3
  generalize m.bye = f0 at *
  generalize m.epoch = f1 at *
  generalize m.planned = f4 at *
  generalize m.sealed.length = l2 at *
  generalize m.seen = es at *
  generalize m.wrote.length = l5 at *
  obtain ⟨P, hP⟩ : ∃ P, P ↔ ((∀ i (h : i < es.length), SP es[i]) ∧ ascE es) := ⟨_, Iff.rfl⟩
  rw [show ((∀ i (h : i < es.length), SP es[i]) ∧ ascE es) = P from propext hP.symm]
  have PD := dH hP
  clear h2 hf h3 hP
  have B0 := ba w (.cells #[.int .i64 f0, .int .i64 f1, .slice sa l2 sc, .slice ea es.length ec, .bool f4, .slice wa l5 wc] 90)
  have Y0 := Bx.new w [.int .i64 f0, .int .i64 f1, .slice sa l2 sc, .slice ea es.length ec, .bool f4, .slice wa l5 wc] 90
  go_enter Tryz.func240, Tryz.ntmps240
  go_wp2
  generalize w.alloc (.cells #[.int .i64 f0, .int .i64 f1, .slice sa l2 sc, .slice ea es.length ec, .bool f4, .slice wa l5 wc] 90) = w0 at *
  have HY := dH fun W (hb : Below w0.heap.size w0 W) => Y0.below hb
  clear Y0
  go_loopw [8] (fun x wr => ∃ k : Nat, x = .int .i64 (k : Int) ∧ k ≤ es.length ∧ Hid (∀ i (h : i < es.length), i < k → SP es[i]) ∧ Below w0.heap.size w0 wr) (fun x _ => es.length - (intOf x).toNat)
  case atStart => exact ⟨0, rfl, Nat.zero_le _, fun i h h' => by omega, Below.refl _ _⟩
  case round =>
    obtain ⟨k, rfl, hk, hinv, hb⟩ := hrel
    by_cases hlt : (k : Int) < (es.length : Int)
    · have hkl : k < es.length := by omega
      obtain ⟨b, off, rfl, hce⟩ := (dU HE wr (bT B0 hb)).ent hkl
      obtain ⟨k0, k1, k2, k3⟩ := hce k hkl
      have CEk := dH (dU CE k hkl)
      have GYk : Hid (SP es[k] → ∀ i (h : i < es.length), i < k + 1 → SP es[i]) := fun he i h h' => by
        rcases Nat.lt_or_ge i k with hlt' | hge
        · exact dU hinv i h hlt'
        · obtain rfl : i = k := by omega
          exact he
      have GNk : Hid (¬ SP es[k] → ¬ P) := fun he h => he (((dU PD).1 h).1 k hkl)
      have PSk := dH (dU PS es[k])
      have CEp : Hid (∀ h : entP es[k], ∀ W, Calls Tryz.prog 161 #[.int .i64 es[k].pl] W fun e w' => e = .returned (.int .i64 (es[k].pl / 4294967296)) ∧ Below W.heap.size W w') := fun h W => implEpoch_yes es[k].pl h.1 W
      generalize es[k] = y at *
      obtain ⟨yp, yw, yh, yd⟩ := y
      simp only [Ent.val] at *
      have bE := ba wr (.cells #[.int .i64 yp, .int .i64 yw, .bool yh, .string yd] 156)
      have E1 := Bx.new wr [.int .i64 yp, .int .i64 yw, .bool yh, .string yd] 156
      have hb1 := bT hb bE
      clear hce hinv
      go_wp2_with fail
      generalize hxb : wr.heap.size = xb at *
      generalize wr.alloc (.cells #[.int .i64 yp, .int .i64 yw, .bool yh, .string yd] 156) = wx at *
      have PP : Hid (∀ W, Below wx.heap.size wx W → (W.cell? ⟨w.heap.size, 0, none⟩ = some (.int .i64 f0) ∧ W.cell? ⟨w.heap.size, 1, none⟩ = some (.int .i64 f1)) ∧ W.cell? ⟨xb, 0, none⟩ = some (.int .i64 yp) ∧ W.cell? ⟨xb, 1, none⟩ = some (.int .i64 yw) ∧ W.cell? ⟨xb, 2, none⟩ = some (.bool yh) ∧ W.cell? ⟨xb, 3, none⟩ = some (.string yd)) := fun W hW => ⟨⟨dU HY W (bT hb1 hW) 0 _ rfl, dU HY W (bT hb1 hW) 1 _ rfl⟩, E1.below hW 0 _ rfl, E1.below hW 1 _ rfl, E1.below hW 2 _ rfl, E1.below hW 3 _ rfl⟩
      have bd : Below wx.heap.size wx wx.drew := (Below.refl _ _).drew
      have BR := bT B0 hb1
      clear k0 k1 k2 k3 E1 bE
      by_cases hE : entP ⟨yp, yw, yh, yd⟩
      · have CE1 := dH fun W => retB_yes (dU CEk W) hE
        have CEp1 := dH (dU CEp hE)
        by_cases hP : yp / 4294967296 = f1
        · have hq2 : ((yp / 4294967296) != f1) = false := by simp [hP]
          by_cases hW : yw < f0
          · have G := dH (dU GYk ((dU PSk).2 ⟨hE, hP, hW⟩))
            have hw1 : decide (f0 ≤ yw) = false := by simpa using hW
            clear GYk GNk CEk CEp hE PSk hP
            refine wp_region_noPanic ?_
            refine wp_region_held_drew (S := fun W => (W.cell? ⟨w.heap.size, 0, none⟩ = some (.int .i64 f0) ∧ W.cell? ⟨w.heap.size, 1, none⟩ = some (.int .i64 f1)) ∧ W.cell? ⟨xb, 0, none⟩ = some (.int .i64 yp) ∧ W.cell? ⟨xb, 1, none⟩ = some (.int .i64 yw) ∧ W.cell? ⟨xb, 2, none⟩ = some (.bool yh) ∧ W.cell? ⟨xb, 3, none⟩ = some (.string yd)) (by kernel_rfl) (by first | with_reducible exact dU PP _ hwd | exact dU PP _ (Below.refl _ _) | exact dU PP _ bd | go_keep) (fun hHeld => ?_)
            have hwd : Below wx.heap.size wx wx.drew := bd
            generalize wx.drew = wd at *
            refine tY 0 (v := ?_) rfl (by kernel_rfl) (.inl ⟨by rfl, ?_⟩) ‹_› ?_
            rotate_left 1
            · intro w hSw
              (try dsimp only at hSw)
              first | (go_simp; done) | (go_simp; with_reducible rfl)
            try simp only [Act.put, sA, sB, sC]
            refine wpAnyH_ready (rs := [1]) (by kernel_rfl) (by simp) ?_
            refine rC rfl (fun K hK => ?_) AllReadyH.nil
            go_simp
            refine (dU CE1 wd).mono ?_
            rintro e wd ⟨rfl, b9⟩
            replace hwd := bT hwd b9
            clear b9
            (try go_wp2_with fail)
            refine hK.out _ _ (by first | with_reducible exact dU PP _ hwd | exact dU PP _ (Below.refl _ _) | exact dU PP _ bd | go_keep) (fun hHeld => ?_)
            clear hK K
            try simp only [Act.put, sA, sB, sC]
            refine tY 2 (v := ?_) rfl (by kernel_rfl) (.inl ⟨by rfl, ?_⟩) ‹_› ?_
            rotate_left 1
            · intro w hSw
              (try dsimp only at hSw)
              first | (go_simp; done) | (go_simp; with_reducible rfl)
            try simp only [Act.put, sA, sB, sC]
            refine tY 3 (v := ?_) rfl (by kernel_rfl) (.inl ⟨by rfl, ?_⟩) ‹_› ?_
            rotate_left 1
            · intro w hSw
              (try dsimp only at hSw)
              first | (go_simp; done) | (go_simp; with_reducible rfl)
            try simp only [Act.put, sA, sB, sC]
            refine tY 4 (v := ?_) rfl (by kernel_rfl) (.inl ⟨by rfl, ?_⟩) ‹_› ?_
            rotate_left 1
            · intro w hSw
              (try dsimp only at hSw)
              first | (go_simp; done) | (go_simp; with_reducible rfl)
            try simp only [Act.put, sA, sB, sC]
            refine tY 5 (v := ?_) rfl (by kernel_rfl) (.inl ⟨by rfl, ?_⟩) ‹_› ?_
            rotate_left 1
            · intro w hSw
              (try dsimp only at hSw)
              first | (go_simp; done) | (go_simp; with_reducible rfl)
            try simp only [Act.put, sA, sB, sC]
            refine tY 7 (v := ?_) rfl (by kernel_rfl) (.inl ⟨by rfl, ?_⟩) ‹_› ?_
            rotate_left 1
            · intro w hSw
              (try dsimp only at hSw)
              first | (go_simp; done) | (go_simp; with_reducible rfl)
            try simp only [Act.put, sA, sB, sC]
            refine tY 8 (v := ?_) rfl (by kernel_rfl) (.inl ⟨by rfl, ?_⟩) ‹_› ?_
            rotate_left 1
            · intro w hSw
              (try dsimp only at hSw)
              first | (go_simp; done) | (go_simp; with_reducible rfl)
            try simp only [Act.put, sA, sB, sC]
            refine wpAnyH_ready (rs := [6]) (by kernel_rfl) (by simp) ?_
            refine rC rfl (fun K hK => ?_) AllReadyH.nil
            go_simp
            refine (dU CEp1 wd).mono ?_
            rintro e wd ⟨rfl, b9⟩
            replace hwd := bT hwd b9
            clear b9
            (try go_wp2_with fail)
            refine hK.out _ _ (by first | with_reducible exact dU PP _ hwd | exact dU PP _ (Below.refl _ _) | exact dU PP _ bd | go_keep) (fun hHeld => ?_)
            clear hK K
            try simp only [Act.put, sA, sB, sC]
            refine tY 9 (v := ?_) rfl (by kernel_rfl) (.inl ⟨by rfl, ?_⟩) ‹_› ?_
            rotate_left 1
            · intro w hSw
              (try dsimp only at hSw)
              first | (go_simp; done) | (go_simp; with_reducible rfl)
            try simp only [Act.put, sA, sB, sC]
            refine tY 10 (v := ?_) rfl (by kernel_rfl) (.inl ⟨by rfl, ?_⟩) ‹_› ?_
            rotate_left 1
            · intro w hSw
              (try dsimp only at hSw)
              first | (go_simp; done) | (go_simp; with_reducible rfl)
            try simp only [Act.put, sA, sB, sC]
            refine tY 11 (v := ?_) rfl (by kernel_rfl) (.inl ⟨by rfl, ?_⟩) ‹_› ?_
            rotate_left 1
            · intro w hSw
              (try dsimp only at hSw)
              first | (go_simp; done) | (go_simp; with_reducible rfl)
            try simp only [Act.put, sA, sB, sC]
            refine tY 12 (v := ?_) rfl (by kernel_rfl) (.inl ⟨by rfl, ?_⟩) ‹_› ?_
            rotate_left 1
            · intro w hSw
              (try dsimp only at hSw)
              first | (go_simp; done) | (go_simp; with_reducible rfl)
            try simp only [Act.put, sA, sB, sC]
            refine tY 13 (v := ?_) rfl (by kernel_rfl) (.inl ⟨by rfl, ?_⟩) ‹_› ?_
            rotate_left 1
            · intro w hSw
              (try dsimp only at hSw)
              first | (go_simp; done) | (go_simp; with_reducible rfl)
            try simp only [Act.put, sA, sB, sC]
            refine tY 14 (v := ?_) rfl (by kernel_rfl) (.inl ⟨by rfl, ?_⟩) ‹_› ?_
            rotate_left 1
            · intro w hSw
              (try dsimp only at hSw)
              first | (go_simp; done) | (go_simp; with_reducible rfl)
            try simp only [Act.put, sA, sB, sC]
            refine tY 15 (v := ?_) rfl (by kernel_rfl) (.inl ⟨by rfl, ?_⟩) ‹_› ?_
            rotate_left 1
            · intro w hSw
              (try dsimp only at hSw)
              first | (go_simp; done) | (go_simp; with_reducible rfl)
            try simp only [Act.put, sA, sB, sC]
            refine tY 16 (v := ?_) rfl (by kernel_rfl) (.inl ⟨by rfl, ?_⟩) ‹_› ?_
            rotate_left 1
            · intro w hSw
              (try dsimp only at hSw)
              first | (go_simp; done) | (go_simp; with_reducible rfl)
            try simp only [Act.put, sA, sB, sC]
            refine tY 17 (v := ?_) rfl (by kernel_rfl) (.inl ⟨by rfl, ?_⟩) ‹_› ?_
            rotate_left 1
            · intro w hSw
              (try dsimp only at hSw)
              first | (go_simp; done) | (go_simp; with_reducible rfl)
            try simp only [Act.put, sA, sB, sC]
            refine wpAnyH_done (by kernel_rfl) ?_ _
            refine NoPanic.normal ?_
            go_wp2
            go_roundw
            case rel =>
              first
                | exact ⟨k + 1, by go_num, by omega, G, bT hb1 hwd⟩
                | (repeat apply Exists.intro
                   refine ⟨⟨show Value.int IntKind.i64 ((k : Int) + 1) = Value.int IntKind.i64 ((k + 1 : Nat) : Int) from by go_num, by omega, G, bT hb1 hwd⟩, ?_⟩
                   all_goals rfl)
            case measure => simp [intOf]; omega
          · have R : RetB P (.returned (.bool false)) := RetB.no (dU GNk fun h => hW ((dU PSk).1 h).2.2)
            have hw1 : decide (f0 ≤ yw) = true := by simpa using hW
            clear GYk GNk CEk CEp hE PSk hP
            refine wp_region_noPanic ?_
            refine wp_region_held_drew (S := fun W => (W.cell? ⟨w.heap.size, 0, none⟩ = some (.int .i64 f0) ∧ W.cell? ⟨w.heap.size, 1, none⟩ = some (.int .i64 f1)) ∧ W.cell? ⟨xb, 0, none⟩ = some (.int .i64 yp) ∧ W.cell? ⟨xb, 1, none⟩ = some (.int .i64 yw) ∧ W.cell? ⟨xb, 2, none⟩ = some (.bool yh) ∧ W.cell? ⟨xb, 3, none⟩ = some (.string yd)) (by kernel_rfl) (by first | with_reducible exact dU PP _ hwd | exact dU PP _ (Below.refl _ _) | exact dU PP _ bd | go_keep) (fun hHeld => ?_)
            have hwd : Below wx.heap.size wx wx.drew := bd
            generalize wx.drew = wd at *
            refine tY 0 (v := ?_) rfl (by kernel_rfl) (.inl ⟨by rfl, ?_⟩) ‹_› ?_
            rotate_left 1
            · intro w hSw
              (try dsimp only at hSw)
              first | (go_simp; done) | (go_simp; with_reducible rfl)
            try simp only [Act.put, sA, sB, sC]
            refine wpAnyH_ready (rs := [1]) (by kernel_rfl) (by simp) ?_
            refine rC rfl (fun K hK => ?_) AllReadyH.nil
            go_simp
            refine (dU CE1 wd).mono ?_
            rintro e wd ⟨rfl, b9⟩
            replace hwd := bT hwd b9
            clear b9
            (try go_wp2_with fail)
            refine hK.out _ _ (by first | with_reducible exact dU PP _ hwd | exact dU PP _ (Below.refl _ _) | exact dU PP _ bd | go_keep) (fun hHeld => ?_)
            clear hK K
            try simp only [Act.put, sA, sB, sC]
            refine tY 2 (v := ?_) rfl (by kernel_rfl) (.inl ⟨by rfl, ?_⟩) ‹_› ?_
            rotate_left 1
            · intro w hSw
              (try dsimp only at hSw)
              first | (go_simp; done) | (go_simp; with_reducible rfl)
            try simp only [Act.put, sA, sB, sC]
            refine tY 3 (v := ?_) rfl (by kernel_rfl) (.inl ⟨by rfl, ?_⟩) ‹_› ?_
            rotate_left 1
            · intro w hSw
              (try dsimp only at hSw)
              first | (go_simp; done) | (go_simp; with_reducible rfl)
            try simp only [Act.put, sA, sB, sC]
            refine tY 4 (v := ?_) rfl (by kernel_rfl) (.inl ⟨by rfl, ?_⟩) ‹_› ?_
            rotate_left 1
            · intro w hSw
              (try dsimp only at hSw)
              first | (go_simp; done) | (go_simp; with_reducible rfl)
            try simp only [Act.put, sA, sB, sC]
            refine tY 5 (v := ?_) rfl (by kernel_rfl) (.inl ⟨by rfl, ?_⟩) ‹_› ?_
            rotate_left 1
            · intro w hSw
              (try dsimp only at hSw)
              first | (go_simp; done) | (go_simp; with_reducible rfl)
            try simp only [Act.put, sA, sB, sC]
            refine tY 7 (v := ?_) rfl (by kernel_rfl) (.inl ⟨by rfl, ?_⟩) ‹_› ?_
            rotate_left 1
            · intro w hSw
              (try dsimp only at hSw)
              first | (go_simp; done) | (go_simp; with_reducible rfl)
            try simp only [Act.put, sA, sB, sC]
            refine tY 8 (v := ?_) rfl (by kernel_rfl) (.inl ⟨by rfl, ?_⟩) ‹_› ?_
            rotate_left 1
            · intro w hSw
              (try dsimp only at hSw)
              first | (go_simp; done) | (go_simp; with_reducible rfl)
            try simp only [Act.put, sA, sB, sC]
            refine wpAnyH_ready (rs := [6]) (by kernel_rfl) (by simp) ?_
            refine rC rfl (fun K hK => ?_) AllReadyH.nil
            go_simp
            refine (dU CEp1 wd).mono ?_
            rintro e wd ⟨rfl, b9⟩
            replace hwd := bT hwd b9
            clear b9
            (try go_wp2_with fail)
            refine hK.out _ _ (by first | with_reducible exact dU PP _ hwd | exact dU PP _ (Below.refl _ _) | exact dU PP _ bd | go_keep) (fun hHeld => ?_)
            clear hK K
            try simp only [Act.put, sA, sB, sC]
            refine tY 9 (v := ?_) rfl (by kernel_rfl) (.inl ⟨by rfl, ?_⟩) ‹_› ?_
            rotate_left 1
            · intro w hSw
              (try dsimp only at hSw)
              first | (go_simp; done) | (go_simp; with_reducible rfl)
            try simp only [Act.put, sA, sB, sC]
            refine tY 10 (v := ?_) rfl (by kernel_rfl) (.inl ⟨by rfl, ?_⟩) ‹_› ?_
            rotate_left 1
            · intro w hSw
              (try dsimp only at hSw)
              first | (go_simp; done) | (go_simp; with_reducible rfl)
            try simp only [Act.put, sA, sB, sC]
            refine tY 11 (v := ?_) rfl (by kernel_rfl) (.inl ⟨by rfl, ?_⟩) ‹_› ?_
            rotate_left 1
            · intro w hSw
              (try dsimp only at hSw)
              first | (go_simp; done) | (go_simp; with_reducible rfl)
            try simp only [Act.put, sA, sB, sC]
            refine tY 12 (v := ?_) rfl (by kernel_rfl) (.inl ⟨by rfl, ?_⟩) ‹_› ?_
            rotate_left 1
            · intro w hSw
              (try dsimp only at hSw)
              first | (go_simp; done) | (go_simp; with_reducible rfl)
            try simp only [Act.put, sA, sB, sC]
            refine tY 13 (v := ?_) rfl (by kernel_rfl) (.inl ⟨by rfl, ?_⟩) ‹_› ?_
            rotate_left 1
            · intro w hSw
              (try dsimp only at hSw)
              first | (go_simp; done) | (go_simp; with_reducible rfl)
            try simp only [Act.put, sA, sB, sC]
            refine tY 14 (v := ?_) rfl (by kernel_rfl) (.inl ⟨by rfl, ?_⟩) ‹_› ?_
            rotate_left 1
            · intro w hSw
              (try dsimp only at hSw)
              first | (go_simp; done) | (go_simp; with_reducible rfl)
            try simp only [Act.put, sA, sB, sC]
            refine tY 15 (v := ?_) rfl (by kernel_rfl) (.inl ⟨by rfl, ?_⟩) ‹_› ?_
            rotate_left 1
            · intro w hSw
              (try dsimp only at hSw)
              first | (go_simp; done) | (go_simp; with_reducible rfl)
            try simp only [Act.put, sA, sB, sC]
            refine tY 16 (v := ?_) rfl (by kernel_rfl) (.inl ⟨by rfl, ?_⟩) ‹_› ?_
            rotate_left 1
            · intro w hSw
              (try dsimp only at hSw)
              first | (go_simp; done) | (go_simp; with_reducible rfl)
            try simp only [Act.put, sA, sB, sC]
            refine tY 17 (v := ?_) rfl (by kernel_rfl) (.inl ⟨by rfl, ?_⟩) ‹_› ?_
            rotate_left 1
            · intro w hSw
              (try dsimp only at hSw)
              first | (go_simp; done) | (go_simp; with_reducible rfl)
            try simp only [Act.put, sA, sB, sC]
            refine wpAnyH_done (by kernel_rfl) ?_ _
            refine NoPanic.normal ?_
            go_wp2
            go_ret
            exact ⟨R, bT BR hwd⟩
        · have R : RetB P (.returned (.bool false)) := RetB.no (dU GNk fun h => hP ((dU PSk).1 h).2.1)
          have hq2 : ((yp / 4294967296) != f1) = true := by simp [hP]
          clear GYk GNk CEk CEp hE PSk
          refine wp_region_noPanic ?_
          refine wp_region_held_drew (S := fun W => (W.cell? ⟨w.heap.size, 0, none⟩ = some (.int .i64 f0) ∧ W.cell? ⟨w.heap.size, 1, none⟩ = some (.int .i64 f1)) ∧ W.cell? ⟨xb, 0, none⟩ = some (.int .i64 yp) ∧ W.cell? ⟨xb, 1, none⟩ = some (.int .i64 yw) ∧ W.cell? ⟨xb, 2, none⟩ = some (.bool yh) ∧ W.cell? ⟨xb, 3, none⟩ = some (.string yd)) (by kernel_rfl) (by first | with_reducible exact dU PP _ hwd | exact dU PP _ (Below.refl _ _) | exact dU PP _ bd | go_keep) (fun hHeld => ?_)
          have hwd : Below wx.heap.size wx wx.drew := bd
          generalize wx.drew = wd at *
          refine tY 0 (v := ?_) rfl (by kernel_rfl) (.inl ⟨by rfl, ?_⟩) ‹_› ?_
          rotate_left 1
          · intro w hSw
            (try dsimp only at hSw)
            first | (go_simp; done) | (go_simp; with_reducible rfl)
          try simp only [Act.put, sA, sB, sC]
          refine wpAnyH_ready (rs := [1]) (by kernel_rfl) (by simp) ?_
          refine rC rfl (fun K hK => ?_) AllReadyH.nil
          go_simp
          refine (dU CE1 wd).mono ?_
          rintro e wd ⟨rfl, b9⟩
          replace hwd := bT hwd b9
          clear b9
          (try go_wp2_with fail)
          refine hK.out _ _ (by first | with_reducible exact dU PP _ hwd | exact dU PP _ (Below.refl _ _) | exact dU PP _ bd | go_keep) (fun hHeld => ?_)
          clear hK K
          try simp only [Act.put, sA, sB, sC]
          refine tY 2 (v := ?_) rfl (by kernel_rfl) (.inl ⟨by rfl, ?_⟩) ‹_› ?_
          rotate_left 1
          · intro w hSw
            (try dsimp only at hSw)
            first | (go_simp; done) | (go_simp; with_reducible rfl)
          try simp only [Act.put, sA, sB, sC]
          refine tY 3 (v := ?_) rfl (by kernel_rfl) (.inl ⟨by rfl, ?_⟩) ‹_› ?_
          rotate_left 1
          · intro w hSw
            (try dsimp only at hSw)
            first | (go_simp; done) | (go_simp; with_reducible rfl)
          try simp only [Act.put, sA, sB, sC]
          refine tY 4 (v := ?_) rfl (by kernel_rfl) (.inl ⟨by rfl, ?_⟩) ‹_› ?_
          rotate_left 1
          · intro w hSw
            (try dsimp only at hSw)
            first | (go_simp; done) | (go_simp; with_reducible rfl)
          try simp only [Act.put, sA, sB, sC]
          refine tY 5 (v := ?_) rfl (by kernel_rfl) (.inl ⟨by rfl, ?_⟩) ‹_› ?_
          rotate_left 1
          · intro w hSw
            (try dsimp only at hSw)
            first | (go_simp; done) | (go_simp; with_reducible rfl)
          try simp only [Act.put, sA, sB, sC]
          refine tY 7 (v := ?_) rfl (by kernel_rfl) (.inl ⟨by rfl, ?_⟩) ‹_› ?_
          rotate_left 1
          · intro w hSw
            (try dsimp only at hSw)
            first | (go_simp; done) | (go_simp; with_reducible rfl)
          try simp only [Act.put, sA, sB, sC]
          refine tY 8 (v := ?_) rfl (by kernel_rfl) (.inl ⟨by rfl, ?_⟩) ‹_› ?_
          rotate_left 1
          · intro w hSw
            (try dsimp only at hSw)
            first | (go_simp; done) | (go_simp; with_reducible rfl)
          try simp only [Act.put, sA, sB, sC]
          refine wpAnyH_ready (rs := [6]) (by kernel_rfl) (by simp) ?_
          refine rC rfl (fun K hK => ?_) AllReadyH.nil
          go_simp
          refine (dU CEp1 wd).mono ?_
          rintro e wd ⟨rfl, b9⟩
          replace hwd := bT hwd b9
          clear b9
          (try go_wp2_with fail)
          refine hK.out _ _ (by first | with_reducible exact dU PP _ hwd | exact dU PP _ (Below.refl _ _) | exact dU PP _ bd | go_keep) (fun hHeld => ?_)
          clear hK K
          try simp only [Act.put, sA, sB, sC]
          refine tY 9 (v := ?_) rfl (by kernel_rfl) (.inl ⟨by rfl, ?_⟩) ‹_› ?_
          rotate_left 1
          · intro w hSw
            (try dsimp only at hSw)
            first | (go_simp; done) | (go_simp; with_reducible rfl)
          try simp only [Act.put, sA, sB, sC]
          refine tY 10 (v := ?_) rfl (by kernel_rfl) (.inl ⟨by rfl, ?_⟩) ‹_› ?_
          rotate_left 1
          · intro w hSw
            (try dsimp only at hSw)
            first | (go_simp; done) | (go_simp; with_reducible rfl)
          try simp only [Act.put, sA, sB, sC]
          refine tY 11 (v := ?_) rfl (by kernel_rfl) (.inl ⟨by rfl, ?_⟩) ‹_› ?_
          rotate_left 1
          · intro w hSw
            (try dsimp only at hSw)
            first | (go_simp; done) | (go_simp; with_reducible rfl)
          try simp only [Act.put, sA, sB, sC]
          refine tY 12 rfl (by kernel_rfl) (.inr ⟨by rfl, rfl⟩) ‹_› ?_
          try simp only [Act.put, sA, sB, sC]
          refine tY 13 rfl (by kernel_rfl) (.inr ⟨by rfl, rfl⟩) ‹_› ?_
          try simp only [Act.put, sA, sB, sC]
          refine tY 14 rfl (by kernel_rfl) (.inr ⟨by rfl, rfl⟩) ‹_› ?_
          try simp only [Act.put, sA, sB, sC]
          refine tY 15 rfl (by kernel_rfl) (.inr ⟨by rfl, rfl⟩) ‹_› ?_
          try simp only [Act.put, sA, sB, sC]
          refine tY 16 rfl (by kernel_rfl) (.inr ⟨by rfl, rfl⟩) ‹_› ?_
          try simp only [Act.put, sA, sB, sC]
          refine tY 17 (v := ?_) rfl (by kernel_rfl) (.inl ⟨by rfl, ?_⟩) ‹_› ?_
          rotate_left 1
          · intro w hSw
            (try dsimp only at hSw)
            first | (go_simp; done) | (go_simp; with_reducible rfl)
          try simp only [Act.put, sA, sB, sC]
          refine wpAnyH_done (by kernel_rfl) ?_ _
          refine NoPanic.normal ?_
          go_wp2
          go_ret
          exact ⟨R, bT BR hwd⟩
      · have CE1 := dH fun W => retB_no (dU CEk W) hE
        have R : RetB P (.returned (.bool false)) := RetB.no (dU GNk fun h => hE ((dU PSk).1 h).1)
        clear GYk GNk CEk CEp hE PSk
        refine wp_region_noPanic ?_
        refine wp_region_held_drew (S := fun W => (W.cell? ⟨w.heap.size, 0, none⟩ = some (.int .i64 f0) ∧ W.cell? ⟨w.heap.size, 1, none⟩ = some (.int .i64 f1)) ∧ W.cell? ⟨xb, 0, none⟩ = some (.int .i64 yp) ∧ W.cell? ⟨xb, 1, none⟩ = some (.int .i64 yw) ∧ W.cell? ⟨xb, 2, none⟩ = some (.bool yh) ∧ W.cell? ⟨xb, 3, none⟩ = some (.string yd)) (by kernel_rfl) (by first | with_reducible exact dU PP _ hwd | exact dU PP _ (Below.refl _ _) | exact dU PP _ bd | go_keep) (fun hHeld => ?_)
        have hwd : Below wx.heap.size wx wx.drew := bd
        generalize wx.drew = wd at *
        refine tY 0 (v := ?_) rfl (by kernel_rfl) (.inl ⟨by rfl, ?_⟩) ‹_› ?_
        rotate_left 1
        · intro w hSw
          (try dsimp only at hSw)
          first | (go_simp; done) | (go_simp; with_reducible rfl)
        try simp only [Act.put, sA, sB, sC]
        refine wpAnyH_ready (rs := [1]) (by kernel_rfl) (by simp) ?_
        refine rC rfl (fun K hK => ?_) AllReadyH.nil
        go_simp
        refine (dU CE1 wd).mono ?_
        rintro e wd ⟨rfl, b9⟩
        replace hwd := bT hwd b9
        clear b9
        (try go_wp2_with fail)
        refine hK.out _ _ (by first | with_reducible exact dU PP _ hwd | exact dU PP _ (Below.refl _ _) | exact dU PP _ bd | go_keep) (fun hHeld => ?_)
        clear hK K
        try simp only [Act.put, sA, sB, sC]
        refine tY 2 (v := ?_) rfl (by kernel_rfl) (.inl ⟨by rfl, ?_⟩) ‹_› ?_
        rotate_left 1
        · intro w hSw
          (try dsimp only at hSw)
          first | (go_simp; done) | (go_simp; with_reducible rfl)
        try simp only [Act.put, sA, sB, sC]
        refine tY 3 (v := ?_) rfl (by kernel_rfl) (.inl ⟨by rfl, ?_⟩) ‹_› ?_
        rotate_left 1
        · intro w hSw
          (try dsimp only at hSw)
          first | (go_simp; done) | (go_simp; with_reducible rfl)
        try simp only [Act.put, sA, sB, sC]
        refine tY 4 rfl (by kernel_rfl) (.inr ⟨by rfl, rfl⟩) ‹_› ?_
        try simp only [Act.put, sA, sB, sC]
        refine tY 5 rfl (by kernel_rfl) (.inr ⟨by rfl, rfl⟩) ‹_› ?_
        try simp only [Act.put, sA, sB, sC]
        refine tY 6 rfl (by kernel_rfl) (.inr ⟨by rfl, rfl⟩) ‹_› ?_
        try simp only [Act.put, sA, sB, sC]
        refine tY 7 rfl (by kernel_rfl) (.inr ⟨by rfl, rfl⟩) ‹_› ?_
        try simp only [Act.put, sA, sB, sC]
        refine tY 8 rfl (by kernel_rfl) (.inr ⟨by rfl, rfl⟩) ‹_› ?_
        try simp only [Act.put, sA, sB, sC]
        refine tY 9 rfl (by kernel_rfl) (.inr ⟨by rfl, rfl⟩) ‹_› ?_
        try simp only [Act.put, sA, sB, sC]
        refine tY 10 (v := ?_) rfl (by kernel_rfl) (.inl ⟨by rfl, ?_⟩) ‹_› ?_
        rotate_left 1
        · intro w hSw
          (try dsimp only at hSw)
          first | (go_simp; done) | (go_simp; with_reducible rfl)
        try simp only [Act.put, sA, sB, sC]
        refine tY 11 (v := ?_) rfl (by kernel_rfl) (.inl ⟨by rfl, ?_⟩) ‹_› ?_
        rotate_left 1
        · intro w hSw
          (try dsimp only at hSw)
          first | (go_simp; done) | (go_simp; with_reducible rfl)
        try simp only [Act.put, sA, sB, sC]
        refine tY 12 rfl (by kernel_rfl) (.inr ⟨by rfl, rfl⟩) ‹_› ?_
        try simp only [Act.put, sA, sB, sC]
        refine tY 13 rfl (by kernel_rfl) (.inr ⟨by rfl, rfl⟩) ‹_› ?_
        try simp only [Act.put, sA, sB, sC]
        refine tY 14 rfl (by kernel_rfl) (.inr ⟨by rfl, rfl⟩) ‹_› ?_
        try simp only [Act.put, sA, sB, sC]
        refine tY 15 rfl (by kernel_rfl) (.inr ⟨by rfl, rfl⟩) ‹_› ?_
        try simp only [Act.put, sA, sB, sC]
        refine tY 16 rfl (by kernel_rfl) (.inr ⟨by rfl, rfl⟩) ‹_› ?_
        try simp only [Act.put, sA, sB, sC]
        refine tY 17 (v := ?_) rfl (by kernel_rfl) (.inl ⟨by rfl, ?_⟩) ‹_› ?_
        rotate_left 1
        · intro w hSw
          (try dsimp only at hSw)
          first | (go_simp; done) | (go_simp; with_reducible rfl)
        try simp only [Act.put, sA, sB, sC]
        refine wpAnyH_done (by kernel_rfl) ?_ _
        refine NoPanic.normal ?_
        go_wp2
        go_ret
        exact ⟨R, bT BR hwd⟩
    · have HS : Hid (∀ i (h : i < es.length), SP es[i]) := fun i hi => dU hinv i hi (by omega)
      have j3 := dU HY _ hb 3 _ rfl
      have C1 := dH (dU CA wr (bT B0 hb))
      clear hinv CE HE PS CA
      go_wp2_with fail
      refine (dU C1).mono ?_
      rintro e w1 ⟨⟨b1, rfl, h1⟩, bl1⟩
      have R : Hid (RetB P (.returned (.bool b1))) := ⟨_, rfl, fun h => (dU PD).2 ⟨dU HS, h1.1 h⟩, fun h => h1.2 ((dU PD).1 h).2⟩
      have B1 := bT (bT B0 hb) bl1
      clear h1 C1 PD HS j3
      go_wp2
      go_ret
      exact ⟨dU R, B1⟩
def atP (ds : List Int) (cop : Int) (m : Mn) (s : Int) : Prop := (s = 2 → ∀ l ∈ m.wrote, holdsP ds cop l) ∧ (1 ≤ s → m.planned = true) ∧ (m.wrote.length : Int) = (if 1 ≤ s then lastO m.seen else 0) ∧ ((1 ≤ m.epoch ∧ m.epoch ≤ 30) ∧ (m.epoch + 1 ≤ m.bye ∧ m.bye ≤ 30)) ∧ (nodesP ds cop m.sealed ∧ ∀ l ∈ m.wrote, nodesP ds cop l) ∧ (∀ i (h : i < m.seen.length), seenP m m.seen[i]) ∧ ascE m.seen
set_option maxHeartbeats 4000000 in
theorem implAt0_any (cv v : Value) (c : List Int × Int) (m : Mn) (w : World) (hc : RdConfig cv c w) (hv : RdMend v m w) (okc : okConfig c) (ok : okMend m) (hsc : sizConfig c ≤ 1048576) (hs : smlM m) :
    Calls Tryz.prog 155 #[v, cv, .int .i64 0] w fun e w' => RetB (atP c.1 c.2 m 0) e ∧ Below w.heap.size w w' := by
  have ba : ∀ (w : World) o, Below w.heap.size w (w.alloc o) := fun w o => (Below.refl _ _).alloc (Nat.le_refl _) o
  have CEP := dH fun W (hb : Below w.heap.size w W) => implEpochs_any v m W (hv.below hb)
  have CNO := dH fun W (hb : Below w.heap.size w W) => implNodesOk_any cv v c m W (hc.below hb) (hv.below hb) okc ok hsc hs
  have CSE := dH fun W (hb : Below w.heap.size w W) => implSeenOk_any v m W (hv.below hb) ok.2.2.2.1
  have CAH := dH fun W (hb : Below w.heap.size w W) => implAllHeld_any cv v c m W (hc.below hb) (hv.below hb) okc ok hsc hs
  have CLS := dH fun W (hb : Below w.heap.size w W) => implLast_any v m W (hv.below hb) ok.2.2.2.1
  obtain ⟨ds, cop⟩ := c
  obtain ⟨ca, cc, rfl, -⟩ := formConfig hc
  obtain ⟨sa, sc, ea, ec, wa, wc, rfl, hl1, hl2, hl3⟩ := formMend hv
  simp only at *
  have PD : Hid (atP ds cop m 0 ↔ (m.wrote.length : Int) = 0 ∧ ((1 ≤ m.epoch ∧ m.epoch ≤ 30) ∧ (m.epoch + 1 ≤ m.bye ∧ m.bye ≤ 30)) ∧ (nodesP ds cop m.sealed ∧ ∀ l ∈ m.wrote, nodesP ds cop l) ∧ (∀ i (h : i < m.seen.length), seenP m m.seen[i]) ∧ ascE m.seen) := by unfold atP Hid; simp
  generalize atP ds cop m 0 = P at *
  have PX : Hid ((∀ i (h : i < m.seen.length), seenP m m.seen[i]) → ∀ i (h : i < m.seen.length), isPl m.seen[i].pl) := fun h i hi => (h i hi).1.1
  generalize (∀ i (h : i < m.seen.length), seenP m m.seen[i]) = PSE at *
  generalize (∀ i (h : i < m.seen.length), isPl m.seen[i].pl) = PPL at *
  generalize ((1 ≤ m.epoch ∧ m.epoch ≤ 30) ∧ (m.epoch + 1 ≤ m.bye ∧ m.bye ≤ 30)) = PE at *
  generalize (nodesP ds cop m.sealed ∧ ∀ l ∈ m.wrote, nodesP ds cop l) = PN at *
  generalize (∀ l ∈ m.wrote, holdsP ds cop l) = PH at *
  generalize ascE m.seen = PA at *
  generalize lastO m.seen = lo at *
  generalize m.bye = f0 at *
  generalize m.epoch = f1 at *
  generalize m.planned = f4 at *
  generalize m.sealed.length = l2 at *
  generalize m.seen.length = l3 at *
  generalize m.wrote.length = l5 at *
  clear hc hv okc ok hs
  have bA := bT (ba w (.cells #[.int .i64 f0, .int .i64 f1, .slice sa l2 sc, .slice ea l3 ec, .bool f4, .slice wa l5 wc] 90)) (ba _ (.cells #[.slice ca ds.length cc, .int .i64 cop] 26))
  have X0 := (Bx.new w [.int .i64 f0, .int .i64 f1, .slice sa l2 sc, .slice ea l3 ec, .bool f4, .slice wa l5 wc] 90).below (ba _ (.cells #[.slice ca ds.length cc, .int .i64 cop] 26))
  have Y0 := Bx.new (w.alloc (.cells #[.int .i64 f0, .int .i64 f1, .slice sa l2 sc, .slice ea l3 ec, .bool f4, .slice wa l5 wc] 90)) [.slice ca ds.length cc, .int .i64 cop] 26
  have e1 : (w.alloc (.cells #[.int .i64 f0, .int .i64 f1, .slice sa l2 sc, .slice ea l3 ec, .bool f4, .slice wa l5 wc] 90)).heap.size = w.heap.size + 1 := by simp
  rw [e1] at Y0
  clear e1
  have HY := dH fun W (hb : Below ((w.alloc (.cells #[.int .i64 f0, .int .i64 f1, .slice sa l2 sc, .slice ea l3 ec, .bool f4, .slice wa l5 wc] 90)).alloc (.cells #[.slice ca ds.length cc, .int .i64 cop] 26)).heap.size ((w.alloc (.cells #[.int .i64 f0, .int .i64 f1, .slice sa l2 sc, .slice ea l3 ec, .bool f4, .slice wa l5 wc] 90)).alloc (.cells #[.slice ca ds.length cc, .int .i64 cop] 26)) W) => X0.below hb
  have HX := dH fun W (hb : Below ((w.alloc (.cells #[.int .i64 f0, .int .i64 f1, .slice sa l2 sc, .slice ea l3 ec, .bool f4, .slice wa l5 wc] 90)).alloc (.cells #[.slice ca ds.length cc, .int .i64 cop] 26)).heap.size ((w.alloc (.cells #[.int .i64 f0, .int .i64 f1, .slice sa l2 sc, .slice ea l3 ec, .bool f4, .slice wa l5 wc] 90)).alloc (.cells #[.slice ca ds.length cc, .int .i64 cop] 26)) W) => Y0.below hb
  have B0 := bA
  clear X0 Y0 bA
  have GN : Hid (¬ PN → ¬ P) := fun h hP => h ((dU PD).1 hP).2.2.1
  have GE : Hid (¬ PE → ¬ P) := fun h hP => h ((dU PD).1 hP).2.1
  have GS : Hid (P → PSE ∧ PA) := fun hP => ((dU PD).1 hP).2.2.2
  have GY : Hid ((l5 : Int) = 0 → PE → PN → (PSE ∧ PA) → P) := fun h1 h2 h3 h4 => (dU PD).2 ⟨h1, h2, h3, h4⟩
  have GNL : Hid (¬ (l5 : Int) = 0 → ¬ P) := fun h hP => h ((dU PD).1 hP).1
  clear CAH CLS PX PD
  go_enter Tryz.func155, Tryz.ntmps155
  generalize hw0 : ((w.alloc (.cells #[.int .i64 f0, .int .i64 f1, .slice sa l2 sc, .slice ea l3 ec, .bool f4, .slice wa l5 wc] 90)).alloc (.cells #[.slice ca ds.length cc, .int .i64 cop] 26)) = w0 at *
  have bq := Below.refl w0.heap.size w0
  have y0 := dU HY _ bq 0 _ rfl
  have y1 := dU HY _ bq 1 _ rfl
  have y2 := dU HY _ bq 2 _ rfl
  have y3 := dU HY _ bq 3 _ rfl
  have y4 := dU HY _ bq 4 _ rfl
  have y5 := dU HY _ bq 5 _ rfl
  by_cases hL : (l5 : Int) = 0
  · have hL1 : ((l5 : Int) == 0) = true := by simpa using hL
    have GL := dH (dU GY hL)
    clear hL
    go_wp2_with fail
    refine (dU CEP _ (bT B0 bq)).mono ?_
    rintro e w6 ⟨⟨b6, rfl, h6⟩, bl6⟩
    replace bq := bT bq bl6
    clear y0 y1 y2 y3 y4 y5 bl6
    have y0 := dU HY _ bq 0 _ rfl
    have y1 := dU HY _ bq 1 _ rfl
    have y2 := dU HY _ bq 2 _ rfl
    have y3 := dU HY _ bq 3 _ rfl
    have y4 := dU HY _ bq 4 _ rfl
    have y5 := dU HY _ bq 5 _ rfl
    have x0 := dU HX _ bq 0 _ rfl
    have x1 := dU HX _ bq 1 _ rfl
    cases b6
    · have R : RetB P (.returned (.bool false)) := RetB.no (dU GE fun h => by have := h6.2 h; cases this)
      clear h6
      go_wp2
      go_ret
      exact ⟨R, bT B0 bq⟩
    have H6 := dH (h6.1 rfl)
    clear h6
    go_wp2_with fail
    refine (dU CNO _ (bT B0 bq)).mono ?_
    rintro e w7 ⟨⟨b7, rfl, h7⟩, bl7⟩
    replace bq := bT bq bl7
    clear y0 y1 y2 y3 y4 y5 x0 x1 bl7
    have y0 := dU HY _ bq 0 _ rfl
    have y1 := dU HY _ bq 1 _ rfl
    have y2 := dU HY _ bq 2 _ rfl
    have y3 := dU HY _ bq 3 _ rfl
    have y4 := dU HY _ bq 4 _ rfl
    have y5 := dU HY _ bq 5 _ rfl
    cases b7
    · have R : RetB P (.returned (.bool false)) := RetB.no (dU GN fun h => by have := h7.2 h; cases this)
      clear h7
      go_wp2
      go_ret
      exact ⟨R, bT B0 bq⟩
    have H7 := dH (h7.1 rfl)
    clear h7
    go_wp2_with fail
    refine (dU CSE _ (bT B0 bq)).mono ?_
    rintro e w8 ⟨⟨b8, rfl, h8⟩, bl8⟩
    replace bq := bT bq bl8
    have R : Hid (RetB P (.returned (.bool b8))) := ⟨_, rfl, fun h => dU GL (dU H6) (dU H7) (h8.1 h), fun h => h8.2 (dU GS h)⟩
    clear y0 y1 y2 y3 y4 y5 bl8 h8
    go_wp2
    go_ret
    exact ⟨dU R, bT B0 bq⟩
  · have hL1 : ((l5 : Int) == 0) = false := by simpa using hL
    have R : RetB P (.returned (.bool false)) := RetB.no (dU GNL hL)
    clear hL
    go_wp2
    go_ret
    exact ⟨R, bT B0 bq⟩
set_option maxHeartbeats 4000000 in
theorem implAt1_any (cv v : Value) (c : List Int × Int) (m : Mn) (w : World) (hc : RdConfig cv c w) (hv : RdMend v m w) (okc : okConfig c) (ok : okMend m) (hsc : sizConfig c ≤ 1048576) (hs : smlM m) :
    Calls Tryz.prog 155 #[v, cv, .int .i64 1] w fun e w' => RetB (atP c.1 c.2 m 1) e ∧ Below w.heap.size w w' := by
  have ba : ∀ (w : World) o, Below w.heap.size w (w.alloc o) := fun w o => (Below.refl _ _).alloc (Nat.le_refl _) o
  have CEP := dH fun W (hb : Below w.heap.size w W) => implEpochs_any v m W (hv.below hb)
  have CNO := dH fun W (hb : Below w.heap.size w W) => implNodesOk_any cv v c m W (hc.below hb) (hv.below hb) okc ok hsc hs
  have CSE := dH fun W (hb : Below w.heap.size w W) => implSeenOk_any v m W (hv.below hb) ok.2.2.2.1
  have CAH := dH fun W (hb : Below w.heap.size w W) => implAllHeld_any cv v c m W (hc.below hb) (hv.below hb) okc ok hsc hs
  have CLS := dH fun W (hb : Below w.heap.size w W) => implLast_any v m W (hv.below hb) ok.2.2.2.1
  obtain ⟨ds, cop⟩ := c
  obtain ⟨ca, cc, rfl, -⟩ := formConfig hc
  obtain ⟨sa, sc, ea, ec, wa, wc, rfl, hl1, hl2, hl3⟩ := formMend hv
  simp only at *
  have PD : Hid (atP ds cop m 1 ↔ m.planned = true ∧ (m.wrote.length : Int) = lastO m.seen ∧ ((1 ≤ m.epoch ∧ m.epoch ≤ 30) ∧ (m.epoch + 1 ≤ m.bye ∧ m.bye ≤ 30)) ∧ (nodesP ds cop m.sealed ∧ ∀ l ∈ m.wrote, nodesP ds cop l) ∧ (∀ i (h : i < m.seen.length), seenP m m.seen[i]) ∧ ascE m.seen) := by unfold atP Hid; simp
  generalize atP ds cop m 1 = P at *
  have PX : Hid ((∀ i (h : i < m.seen.length), seenP m m.seen[i]) → ∀ i (h : i < m.seen.length), isPl m.seen[i].pl) := fun h i hi => (h i hi).1.1
  generalize (∀ i (h : i < m.seen.length), seenP m m.seen[i]) = PSE at *
  generalize (∀ i (h : i < m.seen.length), isPl m.seen[i].pl) = PPL at *
  generalize ((1 ≤ m.epoch ∧ m.epoch ≤ 30) ∧ (m.epoch + 1 ≤ m.bye ∧ m.bye ≤ 30)) = PE at *
  generalize (nodesP ds cop m.sealed ∧ ∀ l ∈ m.wrote, nodesP ds cop l) = PN at *
  generalize (∀ l ∈ m.wrote, holdsP ds cop l) = PH at *
  generalize ascE m.seen = PA at *
  generalize lastO m.seen = lo at *
  generalize m.bye = f0 at *
  generalize m.epoch = f1 at *
  generalize m.planned = f4 at *
  generalize m.sealed.length = l2 at *
  generalize m.seen.length = l3 at *
  generalize m.wrote.length = l5 at *
  clear hc hv okc ok hs
  have bA := bT (ba w (.cells #[.int .i64 f0, .int .i64 f1, .slice sa l2 sc, .slice ea l3 ec, .bool f4, .slice wa l5 wc] 90)) (ba _ (.cells #[.slice ca ds.length cc, .int .i64 cop] 26))
  have X0 := (Bx.new w [.int .i64 f0, .int .i64 f1, .slice sa l2 sc, .slice ea l3 ec, .bool f4, .slice wa l5 wc] 90).below (ba _ (.cells #[.slice ca ds.length cc, .int .i64 cop] 26))
  have Y0 := Bx.new (w.alloc (.cells #[.int .i64 f0, .int .i64 f1, .slice sa l2 sc, .slice ea l3 ec, .bool f4, .slice wa l5 wc] 90)) [.slice ca ds.length cc, .int .i64 cop] 26
  have e1 : (w.alloc (.cells #[.int .i64 f0, .int .i64 f1, .slice sa l2 sc, .slice ea l3 ec, .bool f4, .slice wa l5 wc] 90)).heap.size = w.heap.size + 1 := by simp
  rw [e1] at Y0
  clear e1
  have HY := dH fun W (hb : Below ((w.alloc (.cells #[.int .i64 f0, .int .i64 f1, .slice sa l2 sc, .slice ea l3 ec, .bool f4, .slice wa l5 wc] 90)).alloc (.cells #[.slice ca ds.length cc, .int .i64 cop] 26)).heap.size ((w.alloc (.cells #[.int .i64 f0, .int .i64 f1, .slice sa l2 sc, .slice ea l3 ec, .bool f4, .slice wa l5 wc] 90)).alloc (.cells #[.slice ca ds.length cc, .int .i64 cop] 26)) W) => X0.below hb
  have HX := dH fun W (hb : Below ((w.alloc (.cells #[.int .i64 f0, .int .i64 f1, .slice sa l2 sc, .slice ea l3 ec, .bool f4, .slice wa l5 wc] 90)).alloc (.cells #[.slice ca ds.length cc, .int .i64 cop] 26)).heap.size ((w.alloc (.cells #[.int .i64 f0, .int .i64 f1, .slice sa l2 sc, .slice ea l3 ec, .bool f4, .slice wa l5 wc] 90)).alloc (.cells #[.slice ca ds.length cc, .int .i64 cop] 26)) W) => Y0.below hb
  have B0 := bA
  clear X0 Y0 bA
  have GN : Hid (¬ PN → ¬ P) := fun h hP => h ((dU PD).1 hP).2.2.2.1
  have GE : Hid (¬ PE → ¬ P) := fun h hP => h ((dU PD).1 hP).2.2.1
  have GS : Hid (P → PSE ∧ PA) := fun hP => ((dU PD).1 hP).2.2.2.2
  have GP : Hid (¬ f4 = true → ¬ P) := fun h hP => h ((dU PD).1 hP).1
  clear CAH
  go_enter Tryz.func155, Tryz.ntmps155
  generalize hw0 : ((w.alloc (.cells #[.int .i64 f0, .int .i64 f1, .slice sa l2 sc, .slice ea l3 ec, .bool f4, .slice wa l5 wc] 90)).alloc (.cells #[.slice ca ds.length cc, .int .i64 cop] 26)) = w0 at *
  have bp := Below.refl w0.heap.size w0
  cases f4
  · have R : RetB P (.returned (.bool false)) := RetB.no (dU GP (by simp))
    have y4 := dU HY _ bp 4 _ rfl
    go_wp2
    go_ret
    exact ⟨R, bT B0 bp⟩
  · have y0 := dU HY _ bp 0 _ rfl
    have y1 := dU HY _ bp 1 _ rfl
    have y2 := dU HY _ bp 2 _ rfl
    have y3 := dU HY _ bp 3 _ rfl
    have y4 := dU HY _ bp 4 _ rfl
    have y5 := dU HY _ bp 5 _ rfl
    go_wp2_with fail
    refine (dU CLS _ (bT B0 bp)).mono ?_
    rintro e w5 ⟨⟨x, rfl, hx⟩, bl5⟩
    have GY : Hid ((l5 : Int) = x → PE → PN → (PSE ∧ PA) → P) := fun h1 h2 h3 h4 => (dU PD).2 ⟨by simp, by rw [h1]; exact hx (dU PX h4.1), h2, h3, h4⟩
    have GNL : Hid (¬ (l5 : Int) = x → ¬ P) := fun h hP => h (by rw [hx (dU PX (dU GS hP).1)]; exact ((dU PD).1 hP).2.1)
    clear y0 y1 y2 y3 y4 y5 hx
    have bq := bT bp bl5
    have y0 := dU HY _ bq 0 _ rfl
    have y1 := dU HY _ bq 1 _ rfl
    have y2 := dU HY _ bq 2 _ rfl
    have y3 := dU HY _ bq 3 _ rfl
    have y4 := dU HY _ bq 4 _ rfl
    have y5 := dU HY _ bq 5 _ rfl
    by_cases hL : (l5 : Int) = x
    · have hL1 : ((l5 : Int) == x) = true := by simpa using hL
      have GL := dH (dU GY hL)
      clear hL
      go_wp2_with fail
      refine (dU CEP _ (bT B0 bq)).mono ?_
      rintro e w6 ⟨⟨b6, rfl, h6⟩, bl6⟩
      replace bq := bT bq bl6
      clear y0 y1 y2 y3 y4 y5 bl6
      have y0 := dU HY _ bq 0 _ rfl
      have y1 := dU HY _ bq 1 _ rfl
      have y2 := dU HY _ bq 2 _ rfl
      have y3 := dU HY _ bq 3 _ rfl
      have y4 := dU HY _ bq 4 _ rfl
      have y5 := dU HY _ bq 5 _ rfl
      have x0 := dU HX _ bq 0 _ rfl
      have x1 := dU HX _ bq 1 _ rfl
      cases b6
      · have R : RetB P (.returned (.bool false)) := RetB.no (dU GE fun h => by have := h6.2 h; cases this)
        clear h6
        go_wp2
        go_ret
        exact ⟨R, bT B0 bq⟩
      have H6 := dH (h6.1 rfl)
      clear h6
      go_wp2_with fail
      refine (dU CNO _ (bT B0 bq)).mono ?_
      rintro e w7 ⟨⟨b7, rfl, h7⟩, bl7⟩
      replace bq := bT bq bl7
      clear y0 y1 y2 y3 y4 y5 x0 x1 bl7
      have y0 := dU HY _ bq 0 _ rfl
      have y1 := dU HY _ bq 1 _ rfl
      have y2 := dU HY _ bq 2 _ rfl
      have y3 := dU HY _ bq 3 _ rfl
      have y4 := dU HY _ bq 4 _ rfl
      have y5 := dU HY _ bq 5 _ rfl
      cases b7
      · have R : RetB P (.returned (.bool false)) := RetB.no (dU GN fun h => by have := h7.2 h; cases this)
        clear h7
        go_wp2
        go_ret
        exact ⟨R, bT B0 bq⟩
      have H7 := dH (h7.1 rfl)
      clear h7
      go_wp2_with fail
      refine (dU CSE _ (bT B0 bq)).mono ?_
      rintro e w8 ⟨⟨b8, rfl, h8⟩, bl8⟩
      replace bq := bT bq bl8
      have R : Hid (RetB P (.returned (.bool b8))) := ⟨_, rfl, fun h => dU GL (dU H6) (dU H7) (h8.1 h), fun h => h8.2 (dU GS h)⟩
      clear y0 y1 y2 y3 y4 y5 bl8 h8
      go_wp2
      go_ret
      exact ⟨dU R, bT B0 bq⟩
    · have hL1 : ((l5 : Int) == x) = false := by simpa using hL
      have R : RetB P (.returned (.bool false)) := RetB.no (dU GNL hL)
      clear hL
      go_wp2
      go_ret
      exact ⟨R, bT B0 bq⟩
end Go.Proofs.YtodfgehicpejgaaGreatDoor
