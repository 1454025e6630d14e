/- Several texts in one: NxK, OpenX, NxL. -/
import Derived.Test.YtjkjmapibcfcdaaGreatGn1
import Derived.Test.YtjkjmapibcfcdaaGreatImGa
import Derived.Test.YtjkjmapibcfcdaaGreatImplD
import Derived.Test.YtjkjmapibcfcdaaGreatNxC
import Derived.Deep.RegionHeld3
import Derived.Deep.DeepCutAuto
import Derived.Test.YtjkjmapibcfcdaaGreatGaT
import Derived.Test.YtjkjmapibcfcdaaGreatGz22
import Derived.Test.YtjkjmapibcfcdaaGreatGaD
import Derived.Test.YtjkjmapibcfcdaaGreatNxH
import Derived.Test.YtjkjmapibcfcdaaGreatImGb
namespace Go.Proofs.YtjkjmapibcfcdaaGreat
open Go.ChangeShapes Go.WideShapes Go.ChangeAt Go.RowKit
set_option linter.unusedSimpArgs false
set_option linter.unusedVariables false
set_option maxRecDepth 100000
theorem fromL_nodes (set : List Int) (l : List Aw) : (fromL set l).map Aw.node = bothL (l.map Aw.node) set := by
 unfold fromL bothL lessL
 rw [List.filter_map]
 congr 1
 apply List.filter_congr
 intro a ha
 have hm : a.node ∈ l.map Aw.node := List.mem_map.2 ⟨a, ha, rfl⟩
 by_cases h : a.node ∈ set
 ·simp [h]
 ·have h2 : a.node ∈ (l.map Aw.node).filter (fun x => !set.contains x) := List.mem_filter.2 ⟨hm, by simp [h]⟩
  simp only [Function.comp]
  rw [decide_eq_false h, List.contains_iff_mem.2 h2]
  rfl
def ComeQ (ds : List Int) (cop : Int) (g : Rg) (sure : Int) (r : Rr) (l : List Aw) (e : Ending) : Prop :=
 (∃ h : Hap, h.fits ∧ e = .returned (.tuple #[h.val, .int .i64 0]) ∧ nextM ds cop g sure r l = (tellR r h.ev h.on.1 h.on.2, 0)) ∨ (∃ cd : Int, (cd = 2 ∨ cd = 3) ∧ e = .returned (.tuple #[.nilIface, .int .i64 cd]) ∧ nextM ds cop g sure r l = (r, cd))
theorem ComeQ.two {ds : List Int} {cop : Int} {g : Rg} {sure : Int} {r : Rr} {l : List Aw} (h : nextM ds cop g sure r l = (r, 2)) : ComeQ ds cop g sure r l (.returned (.tuple #[.nilIface, .int .i64 2])) := .inr ⟨2, .inl rfl, rfl, h⟩
theorem ComeQ.three {ds : List Int} {cop : Int} {g : Rg} {sure : Int} {r : Rr} {l : List Aw} (h : nextM ds cop g sure r l = (r, 3)) : ComeQ ds cop g sure r l (.returned (.tuple #[.nilIface, .int .i64 3])) := .inr ⟨3, .inr rfl, rfl, h⟩
theorem ComeQ.hap {ds : List Int} {cop : Int} {g : Rg} {sure : Int} {r : Rr} {l : List Aw} (h : Hap) (hf : h.fits) (hM : nextM ds cop g sure r l = (tellR r h.ev h.on.1 h.on.2, 0)) : ComeQ ds cop g sure r l (.returned (.tuple #[h.val, .int .i64 0])) := .inl ⟨h, hf, rfl, hM⟩
set_option maxHeartbeats 16000000 in
theorem comesTo_any (cv gv rv lv : Value) (c : List Int × Int) (g : Rg) (sure : Int) (r : Rr) (l : List Aw) (w : World) (hP : nxP c.1 c.2 g r l) (hc : RdConfig cv c w) (hg : RdRegister gv g w) (hr : RdReader rv r w) (hl : RdAnswerS lv l w) (okc : okConfig c) (okg : okRegister g) (okr : okInt r.epoch) (hf : ∀ a ∈ l, fitAw a) (hsc : sizConfig c ≤ 1048576) (hsg : sizRegister g ≤ 1048576) (hll : l.length ≤ 1048576) :
  Calls Tryz.prog 47 #[rv, cv, gv, .int .i64 sure, lv] w fun e w' => ComeQ c.1 c.2 g sure r l e ∧ Below w.heap.size w w' := by
 have ba : ∀ (w : World) o, Below w.heap.size w (w.alloc o) := fun w o => (Below.refl _ _).alloc (Nat.le_refl _) o
 have CH := dH fun W (hb : Below w.heap.size w W) => hasEpoch_any gv g r.epoch W (hg.below hb) okr (by unfold sizRegister sizEraS at hsg; omega)
 obtain ⟨ds, cop⟩ := c
 obtain ⟨cs, rfl, hcn⟩ := hc
 simp only at *
 have hdl : ds.length ≤ 1048576 := hsc
 have HP := dH hP
 obtain ⟨gs, rfl, rs, hm, hrs, hns⟩ := hg
 have HRS := dH fun W (hb : Below w.heap.size w W) => hrs.below hb
 have HNS := dH fun W (hb : Below w.heap.size w W) k (hk : k < rs.length) => (hns _ (List.getElem_mem hk)).below hb
 have HNL : Hid (∀ k (hk : k < rs.length), rs[k].m.nodes.length ≤ 1048576) := fun k hk => by
  have h1 := sumN_mem (ms := rs.map Nst.m) (k := k) (by simpa using hk)
  rw [List.getElem_map] at h1
  unfold sizRegister sizEraS at hsg
  rw [← hm] at hsg
  omega
 have HNA : Hid (∀ k (hk : k < rs.length), allInt rs[k].m.nodes) := fun k hk => (okg.1 _ (by rw [← hm]; exact List.mem_map.2 ⟨_, List.getElem_mem hk, rfl⟩)).1
 have hfl : ∀ set, ∀ a ∈ fromL set l, fitAw a := fun set a ha => hf a (List.mem_filter.1 ha).1
 have hln : ∀ set, (fromL set l).length ≤ 1048576 := fun set => Nat.le_trans (List.length_filter_le _ _) hll
 have CA := dH fun W (hb : Below w.heap.size w W) (sv : Value) (set : List Int) (hs : Ns W sv set) (ha : allInt set) (hsl : set.length ≤ 1048576) => answersFrom_any sv lv set l W hs (hl.below hb) ha hsl hll hf
 have CNd := dH fun W (v : Value) (set : List Int) (hv : RdAnswerS v (fromL set l) W) => answeringNodes_any v (fromL set l) W hv (hln set)
 have CBt := dH fun W (v : Value) (set : List Int) (ep off : Int) (hv : RdAnswerS v (fromL set l) W) => bestAt_any v ep off (fromL set l) W hv (hln set) (hfl set)
 have CE := dH fun W (hb : Below w.heap.size w W) (u v : Value) (xs : List Int) (hu : Ns W u xs) (hv : Ns W v ((fromL xs l).map Aw.node)) (ha : allInt xs) (hx : xs.length ≤ 1048576) => implEnough_any cs u v ds xs ((fromL xs l).map Aw.node) cop W (hcn.below hb) hu hv okc.1 ha (fun x hx => by
  obtain ⟨a, ha, rfl⟩ := List.mem_map.1 hx
  exact (hfl xs a ha).1) hdl hx (by rw [List.length_map]; exact hln xs) okc.2.1 okc.2.2
 obtain ⟨-, ca, cc, rfl, -, -⟩ := hcn
 obtain ⟨ra, rc, rfl, -⟩ := formReader hr
 obtain ⟨la, lc, rfl, -⟩ := formAnswerS hl
 obtain ⟨hgl, ga, gc, rfl, -, -⟩ := hrs
 have EW : Hid (nxW g r → ComeQ ds cop g sure r l (.returned (.tuple #[.nilIface, .int .i64 2]))) := fun h => ComeQ.two (nextM_wait hP h)
 have E1 : Hid (¬ nxW g r → rrPl r ≤ g.trim → isPl g.trim → ComeQ ds cop g sure r l (.returned (.tuple #[.iface 130 (.agg #[.int .i64 (g.trim / 4294967296), .int .i64 (g.trim % 4294967296)]), .int .i64 0]))) := fun h1 h2 h3 => ComeQ.hap (.trim (g.trim / 4294967296) (g.trim % 4294967296)) ⟨by unfold isPl at h3; omega, by omega, by unfold isPl at h3; omega⟩ (by
  rw [nextM_step hP h1, stepM_trim h2]
  have e : g.trim / 4294967296 * 4294967296 + g.trim % 4294967296 = g.trim := by omega
  simp only [Hap.ev, Hap.on, e])
 have E2 : Hid (¬ nxW g r → ¬ rrPl r ≤ g.trim → ((rrEr g r).closed = true ∧ (rrEr g r).last < r.off) → ComeQ ds cop g sure r l (.returned (.tuple #[.iface 132 (.agg #[.int .i64 (r.epoch + 1)]), .int .i64 0]))) := fun h1 h2 h3 => ComeQ.hap (.era (r.epoch + 1)) (by have := hP.2.1.1; exact ⟨by omega, by omega⟩) ((nextM_step hP h1).trans (stepM_era h2 h3))
 have E3 : Hid (¬ nxW g r → ¬ rrPl r ≤ g.trim → ¬ ((rrEr g r).closed = true ∧ (rrEr g r).last < r.off) → (((rrEr g r).closed = false ∧ sure < r.off) ∨ 60 < r.off) → ComeQ ds cop g sure r l (.returned (.tuple #[.nilIface, .int .i64 2]))) := fun h1 h2 h3 h4 => ComeQ.two ((nextM_step hP h1).trans (stepM_wait h2 h3 h4))
 have E4 : Hid (¬ nxW g r → ¬ rrPl r ≤ g.trim → ¬ ((rrEr g r).closed = true ∧ (rrEr g r).last < r.off) → ¬ (((rrEr g r).closed = false ∧ sure < r.off) ∨ 60 < r.off) → ¬ enoughP ds cop (rrEr g r).nodes ((fromL (rrEr g r).nodes l).map Aw.node) → ComeQ ds cop g sure r l (.returned (.tuple #[.nilIface, .int .i64 3]))) := fun h1 h2 h3 h4 h5 => ComeQ.three ((nextM_step hP h1).trans (stepM_few h2 h3 h4 (by rw [← fromL_nodes]; exact h5)))
 have E5 : Hid (¬ nxW g r → ¬ rrPl r ≤ g.trim → ¬ ((rrEr g r).closed = true ∧ (rrEr g r).last < r.off) → ¬ (((rrEr g r).closed = false ∧ sure < r.off) ∨ 60 < r.off) → enoughP ds cop (rrEr g r).nodes ((fromL (rrEr g r).nodes l).map Aw.node) → ComeQ ds cop g sure r l (.returned (.tuple #[(hapB r.epoch r.off (bestO (entL (r.epoch * 4294967296 + r.off) (fromL (rrEr g r).nodes l)))).val, .int .i64 0]))) := fun h1 h2 h3 h4 h5 => ComeQ.hap _ (hapB_fits (by have := hP.2.1.1; omega) (by have := hP.2.1.2.1; omega) _) (by
  rw [nextM_step hP h1, stepM_tell h2 h3 h4 (by rw [← fromL_nodes]; exact h5), hapB_ev, hapB_on, entL_from]
  have e : r.epoch * 4294967296 + r.off = rrPl r := by unfold rrPl; omega
  rw [e])
 have ER : Hid (∀ k (hk : k < rs.length), r.epoch = (k : Int) + 1 → rrEr g r = rs[k].m) := fun k hk h => rrEr_at hm h hk
 generalize ComeQ ds cop g sure r l = Q at *
 have PT : Hid (¬ g.trim = 0 → isPl g.trim) := fun h0 => (hP.1.2.2.1.resolve_left h0).1
 have PW : Hid (nxW g r ↔ ((rs.length : Int) < r.epoch ∨ r.out.length = 120)) := by unfold nxW; rw [Hid, ← hm, List.length_map]
 have hgl2 : g.eras.length = rs.length := by rw [← hm, List.length_map]
 rw [hgl2] at CH
 obtain ⟨r0, r1⟩ := hP.2.1.1
 obtain ⟨r2, r3⟩ := hP.2.1.2.1
 obtain ⟨y0, y1, ms⟩ := r
 obtain ⟨ers, gt⟩ := g
 simp only at *
 obtain ⟨k, rfl⟩ : ∃ k : Nat, y0 = (k : Int) + 1 := ⟨(y0 - 1).toNat, by omega⟩
 have CNm := dH fun W => number_wide ((k : Int) + 1) y1 (by omega) (by omega) (by omega) (by omega) W
 have CB1 := dH fun W (v : Value) (set : List Int) (hv : RdAnswerS v (fromL set l) W) => dU CBt W v set ((k : Int) + 1) y1 hv (by omega) (by omega) (by omega) (by omega)
 clear CBt
 have B0 := bT (bT (ba w (.cells #[.int .i64 ((k : Int) + 1), .int .i64 y1, .slice ra ms.length rc] 45)) (ba _ (.cells #[.slice ca ds.length cc, .int .i64 cop] 26))) (ba _ (.cells #[.slice ga rs.length gc, .int .i64 gt] 42))
 have HB : Hid (∀ W, Below (((w.alloc (.cells #[.int .i64 ((k : Int) + 1), .int .i64 y1, .slice ra ms.length rc] 45)).alloc (.cells #[.slice ca ds.length cc, .int .i64 cop] 26)).alloc (.cells #[.slice ga rs.length gc, .int .i64 gt] 42)).heap.size (((w.alloc (.cells #[.int .i64 ((k : Int) + 1), .int .i64 y1, .slice ra ms.length rc] 45)).alloc (.cells #[.slice ca ds.length cc, .int .i64 cop] 26)).alloc (.cells #[.slice ga rs.length gc, .int .i64 gt] 42)) W → Bx W w.heap.size [.int .i64 ((k : Int) + 1), .int .i64 y1, .slice ra ms.length rc] ∧ Bx W (w.heap.size + 1) [.slice ca ds.length cc, .int .i64 cop] ∧ Bx W (w.heap.size + 1 + 1) [.slice ga rs.length gc, .int .i64 gt]) := fun W hW => by
  have x0 := (Bx.new w [.int .i64 ((k : Int) + 1), .int .i64 y1, .slice ra ms.length rc] 45).below (bT (ba _ (.cells #[.slice ca ds.length cc, .int .i64 cop] 26)) (ba _ (.cells #[.slice ga rs.length gc, .int .i64 gt] 42)))
  have x1 := (Bx.new (w.alloc (.cells #[.int .i64 ((k : Int) + 1), .int .i64 y1, .slice ra ms.length rc] 45)) [.slice ca ds.length cc, .int .i64 cop] 26).below (ba _ (.cells #[.slice ga rs.length gc, .int .i64 gt] 42))
  have x2 := Bx.new ((w.alloc (.cells #[.int .i64 ((k : Int) + 1), .int .i64 y1, .slice ra ms.length rc] 45)).alloc (.cells #[.slice ca ds.length cc, .int .i64 cop] 26)) [.slice ga rs.length gc, .int .i64 gt] 42
  rw [show (w.alloc (.cells #[.int .i64 ((k : Int) + 1), .int .i64 y1, .slice ra ms.length rc] 45)).heap.size = w.heap.size + 1 from by simp] at x1
  rw [show ((w.alloc (.cells #[.int .i64 ((k : Int) + 1), .int .i64 y1, .slice ra ms.length rc] 45)).alloc (.cells #[.slice ca ds.length cc, .int .i64 cop] 26)).heap.size = w.heap.size + 1 + 1 from by simp] at x2
  exact ⟨x0.below hW, x1.below hW, x2.below hW⟩
 clear hr hl hns hm hf okg hsg okc okr hsc hP hfl hln hgl2 HP
 go_enter Tryz.func47, Tryz.ntmps47
 go_wp2_with fail
 generalize (((w.alloc (.cells #[.int .i64 ((k : Int) + 1), .int .i64 y1, .slice ra ms.length rc] 45)).alloc (.cells #[.slice ca ds.length cc, .int .i64 cop] 26)).alloc (.cells #[.slice ga rs.length gc, .int .i64 gt] 42)) = w0 at *
 refine (dU CH _ B0).mono ?_
 rintro e w1 ⟨⟨b1, rfl, h1⟩, b01⟩
 have B1 := bT B0 b01
 clear CH
 obtain ⟨X0, X1, X2⟩ := dU HB w1 b01
 obtain ⟨x0, x1, x2⟩ : _ ∧ _ ∧ _ := ⟨X0 0 _ rfl, X0 1 _ rfl, X0 2 _ rfl⟩
 obtain ⟨x5, x6⟩ : _ ∧ _ := ⟨X2 0 _ rfl, X2 1 _ rfl⟩
 clear X0 X1 X2
 cases b1
 ·have F := dH (dU EW ((dU PW).2 (.inl (by
   by_cases h : (rs.length : Int) < (k : Int) + 1
   ·exact h
   ·have := h1.2 ⟨by omega, by omega⟩; cases this))))
  clear EW E1 E2 E3 E4 E5 ER PT PW CA CNd CB1 CE HRS HNS HNL HNA HB CNm h1
  go_wp2_with fail
  exact bodyPost_ret (v := .tuple #[.nilIface, .int .i64 2]) (by simp [results, Tryz.results47, go_sem]) rfl ⟨dU F, B1⟩
 have hE := (h1.1 rfl).2
 have hE' : k < rs.length := by omega
 clear h1
 by_cases hO : ms.length = 120
 ·have hO' : ((ms.length : Int) == 120) = true := by simp; omega
  have F := dH (dU EW ((dU PW).2 (.inr hO)))
  clear EW E1 E2 E3 E4 E5 ER PT PW CA CNd CB1 CE HRS HNS HNL HNA HB CNm hO
  go_wp2_with fail
  exact bodyPost_ret (v := .tuple #[.nilIface, .int .i64 2]) (by simp [results, Tryz.results47, go_sem]) rfl ⟨dU F, B1⟩
 have HW : Hid (¬ nxW ⟨ers, gt⟩ ⟨(k : Int) + 1, y1, ms⟩) := fun h => by
  rcases (dU PW).1 h with h | h
  ·omega
  ·exact hO h
 have hO' : ((ms.length : Int) == 120) = false := by simp; omega
 have e5 := dU ER k hE' rfl
 rw [e5] at E2 E3 E4 E5
 have HNk := dH fun W (hb : Below w.heap.size w W) => dU HNS W hb k hE'
 have hnl := dU HNL k hE'
 have HAk := dH (dU HNA k hE')
 have oH := (.cells #[.int .i64 ((k : Int) + 1), .int .i64 y1] 76 : Obj)
 have bH := ba w1 (.cells #[.int .i64 ((k : Int) + 1), .int .i64 y1] 76)
 obtain ⟨gb, go, rfl, hge⟩ := (dU HRS _ (bT B1 bH)).era hE'
 obtain ⟨g0, g1, g2⟩ := hge k hE'
 generalize rs[k] = er at *
 obtain ⟨ea, ec, en, ecl, el⟩ := er
 simp only [Sv] at HNk
 simp only at hnl HAk g0 g1 g2 E2 E3 E4 E5
 clear e5 ER HNS HNL HNA HRS hge EW PW hO oH
 have t1 : IntKind.i64.wrap ((k : Int) + 1 - 1) = (k : Int) := by rw [IntKind.wrap_i64]; omega
 have t3 : (k : Int) < (rs.length : Int) := by omega
 have XH := Bx.new w1 [.int .i64 ((k : Int) + 1), .int .i64 y1] 76
 have EA := ba (w1.alloc (.cells #[.int .i64 ((k : Int) + 1), .int .i64 y1] 76)) (.cells #[.slice ea en.length ec, .bool ecl, .int .i64 el] 98)
 have XE := Bx.new (w1.alloc (.cells #[.int .i64 ((k : Int) + 1), .int .i64 y1] 76)) [.slice ea en.length ec, .bool ecl, .int .i64 el] 98
 rw [show (w1.alloc (.cells #[.int .i64 ((k : Int) + 1), .int .i64 y1] 76)).heap.size = w1.heap.size + 1 from by simp] at XE
 replace XH := XH.below EA
 have b04 := bT (bT b01 bH) EA
 have B4 := bT (bT B1 bH) EA
 obtain ⟨X0, X1, X2⟩ := dU HB _ (bT b01 bH)
 obtain ⟨q0, q1, q2⟩ : _ ∧ _ ∧ _ := ⟨X0 0 _ rfl, X0 1 _ rfl, X0 2 _ rfl⟩
 obtain ⟨q5, q6⟩ : _ ∧ _ := ⟨X2 0 _ rfl, X2 1 _ rfl⟩
 clear X0 X1 X2 bH EA
 go_upto_region 5 with fail
 generalize hbH : w1.heap.size = bH at *
 generalize ((w1.alloc (.cells #[.int .i64 ((k : Int) + 1), .int .i64 y1] 76)).alloc (.cells #[.slice ea en.length ec, .bool ecl, .int .i64 el] 98)) = w4 at *
 clear x0 x1 x2 x5 x6 q0 q1 q2 q5 q6 g0 g1 g2
 have bd : Below w4.heap.size w4 w4.drew := (Below.refl _ _).drew
 have PN : Hid (∀ W, Below w4.heap.size w4 W → (W.cell? ⟨bH, 0, none⟩ = some (.int .i64 ((k : Int) + 1)) ∧ W.cell? ⟨bH, 1, none⟩ = some (.int .i64 y1)) ∧ W.cell? ⟨w.heap.size + 1 + 1, 1, none⟩ = some (.int .i64 gt)) := fun W hW => ⟨⟨XH.below hW 0 _ rfl, XH.below hW 1 _ rfl⟩, (dU HB W (bT b04 hW)).2.2 1 _ rfl⟩
 have PE : Hid (∀ W, Below w4.heap.size w4 W → W.cell? ⟨bH + 1, 0, none⟩ = some (.slice ea en.length ec) ∧ W.cell? ⟨bH + 1, 1, none⟩ = some (.bool ecl) ∧ W.cell? ⟨bH + 1, 2, none⟩ = some (.int .i64 el)) := fun W hW => ⟨XE.below hW 0 _ rfl, XE.below hW 1 _ rfl, XE.below hW 2 _ rfl⟩
 have PR : Hid (∀ W, Below w4.heap.size w4 W → W.cell? ⟨w.heap.size, 0, none⟩ = some (.int .i64 ((k : Int) + 1)) ∧ W.cell? ⟨w.heap.size, 1, none⟩ = some (.int .i64 y1)) := fun W hW => ⟨(dU HB W (bT b04 hW)).1 0 _ rfl, (dU HB W (bT b04 hW)).1 1 _ rfl⟩
 have PC : Hid (∀ W, Below w4.heap.size w4 W → (W.cell? ⟨w.heap.size + 1, 0, none⟩ = some (.slice ca ds.length cc) ∧ W.cell? ⟨w.heap.size + 1, 1, none⟩ = some (.int .i64 cop)) ∧ W.cell? ⟨bH + 1, 0, none⟩ = some (.slice ea en.length ec)) := fun W hW => ⟨⟨(dU HB W (bT b04 hW)).2.1 0 _ rfl, (dU HB W (bT b04 hW)).2.1 1 _ rfl⟩, (dU PE W hW).1⟩
 clear XH XE HB
 go_wp2_with fail
 go_region_held3 (fun W => (W.cell? ⟨bH, 0, none⟩ = some (.int .i64 ((k : Int) + 1)) ∧ W.cell? ⟨bH, 1, none⟩ = some (.int .i64 y1)) ∧ W.cell? ⟨w.heap.size + 1 + 1, 1, none⟩ = some (.int .i64 gt)) (first | exact dU PN _ b5' | exact dU PN _ bd | go_keep)
  (first
   | (go_at_call 101; refine (dU CNm _).mono ?_; rintro e w5 ⟨rfl, b5⟩; have b5' := bT bd b5; clear b5))
 all_goals
  have B5 := bT B4 b5'
  obtain ⟨⟨n0, n1⟩, n2⟩ := dU PN w5 b5'
  obtain ⟨u0, u1, u2⟩ := dU PE w5 b5'
  obtain ⟨v0, v1⟩ := dU PR w5 b5'
  clear CNm
  by_cases hT : ((k : Int) + 1) * 4294967296 + y1 ≤ gt
  ·have hpl := dU PT (by omega)
   have F := dH (dU E1 (dU HW) (show 4294967296 * ((k : Int) + 1) + y1 ≤ gt by omega) hpl)
   have CS := dH fun W => split_yes gt hpl.1 hpl.2.1 hpl.2.2.1 hpl.2.2.2.1 hpl.2.2.2.2 W
   clear E1 E2 E3 E4 E5 PT CA CNd CB1 CE HNk HAk HW PN PE PR PC hpl
   go_wp2_with fail
   refine (dU CS _).mono ?_
   rintro e w6 ⟨rfl, b6⟩
   have B6 := bT B5 b6
   clear CS b6
   go_wp2_with fail
   exact bodyPost_ret (v := .tuple #[.iface 130 (.agg #[.int .i64 (gt / 4294967296), .int .i64 (gt % 4294967296)]), .int .i64 0]) (by simp [results, Tryz.results47, go_sem]) rfl ⟨dU F, B6⟩
  have HT : Hid (¬ rrPl ⟨(k : Int) + 1, y1, ms⟩ ≤ gt) := show ¬ (4294967296 * ((k : Int) + 1) + y1 ≤ gt) by omega
  have HT2 : Hid (gt < rrPl ⟨(k : Int) + 1, y1, ms⟩) := Int.not_le.1 (dU HT)
  clear E1 PT
  cases ecl
  ·by_cases hS : sure < y1
   ·have F := dH (dU E3 (dU HW) (by first | exact dU HT | exact dU HT2) (show ¬ (false = true ∧ el < y1) from fun h => by cases h.1) (.inl ⟨rfl, hS⟩))
    clear E2 E3 E4 E5 CA CNd CB1 CE HNk HAk HW PN PE PR PC HT HT2
    go_wp2_with fail
    exact bodyPost_ret (v := .tuple #[.nilIface, .int .i64 2]) (by simp [results, Tryz.results47, go_sem]) rfl ⟨dU F, B5⟩
   by_cases h6 : 60 < y1
   ·have F := dH (dU E3 (dU HW) (by first | exact dU HT | exact dU HT2) (show ¬ (false = true ∧ el < y1) from fun h => by cases h.1) (.inr h6))
    clear E2 E3 E4 E5 CA CNd CB1 CE HNk HAk HW PN PE PR PC HT HT2
    go_wp2_with fail
    exact bodyPost_ret (v := .tuple #[.nilIface, .int .i64 2]) (by simp [results, Tryz.results47, go_sem]) rfl ⟨dU F, B5⟩
   have HL2 := dH (show ¬ (false = true ∧ el < y1) from fun h => by cases h.1)
   have HS3 := dH (show ¬ ((false = false ∧ sure < y1) ∨ 60 < y1) from fun h => h.elim (fun h => hS h.2) h6)
   have CA1 := dH (dU CA w5 B5 (.slice ea en.length ec) en (dU HNk _ B5) (dU HAk) hnl)
   clear E2 E3 CA
   go_wp2_with fail
   refine (dU CA1).mono ?_
   rintro e w6 ⟨⟨hu, rfl, R6⟩, b6⟩
   have b6' := bT b5' b6
   have B6 := bT B5 b6
   have HR6 := dH fun W (hW : Below w6.heap.size w6 W) => RdAnswerS.below R6 hW
   have bd6 : Below w6.heap.size w6 w6.drew := (Below.refl _ _).drew
   have PC6 := dH fun W (hW : Below w6.heap.size w6 W) => dU PC W (bT b6' hW)
   have CN6 := dH (dU CNd w6.drew hu en (dU HR6 _ bd6))
   have CE6 := dH fun W (hW : Below w6.heap.size w6 W) (o : Value) (ho : Ns W o ((fromL en l).map Aw.node)) => dU CE W (bT B6 hW) (.slice ea en.length ec) o en (dU HNk _ (bT B6 hW)) ho (dU HAk) hnl
   clear CA1 R6 b6 CNd CE n0 n1 n2 u0 u1 u2 v0 v1
   go_upto_region 12 with fail
   go_wp2_with fail
   go_region_held3 (fun W => (W.cell? ⟨w.heap.size + 1, 0, none⟩ = some (.slice ca ds.length cc) ∧ W.cell? ⟨w.heap.size + 1, 1, none⟩ = some (.int .i64 cop)) ∧ W.cell? ⟨bH + 1, 0, none⟩ = some (.slice ea en.length ec)) (first | exact dU PC6 _ b8' | exact dU PC6 _ b7' | exact dU PC6 _ bd6 | go_keep)
    (first
     | (go_at_call 46; refine (dU CN6).mono ?_; rintro e w7 ⟨⟨o7, rfl, O7⟩, b7⟩; have b7' := bT bd6 b7; have HO7 := dH O7.bs; clear O7 b7)
     | (go_at_call 20; refine (dU CE6 _ b7' o7 (dU HO7)).mono ?_; rintro e w8 ⟨⟨b8, rfl, h8⟩, bl8⟩; have b8' := bT b7' bl8; clear bl8))
   all_goals
    have B8 := bT B6 b8'
    cases b8
    ·have F := dH (dU E4 (dU HW) (by first | exact dU HT | exact dU HT2) (dU HL2) (dU HS3) (fun h => by have := h8.2 h; cases this))
     clear E4 E5 CB1 HNk HAk HW PN PE PR PC PC6 CN6 CE6 HT HT2 HL2 HS3 h8 HR6 HO7
     go_wp2_with fail
     exact bodyPost_ret (v := .tuple #[.nilIface, .int .i64 3]) (by simp [results, Tryz.results47, go_sem]) rfl ⟨dU F, B8⟩
    ·have F := dH (dU E5 (dU HW) (by first | exact dU HT | exact dU HT2) (dU HL2) (dU HS3) (h8.1 rfl))
     have CB8 := dH (dU CB1 w8 hu en (dU HR6 _ b8'))
     obtain ⟨⟨n0, n1⟩, n2⟩ := dU PN w8 (bT b6' b8')
     (try simp only at F)
     generalize hapB ((k : Int) + 1) y1 (bestO (entL (((k : Int) + 1) * 4294967296 + y1) (fromL en l))) = hh at *
     clear E4 E5 CB1 HNk HAk HW PN PE PR PC PC6 CN6 CE6 HT HT2 HL2 HS3 h8 HR6 HO7
     go_wp2_with fail
     refine (dU CB8).mono ?_
     rintro e w9 ⟨rfl, b9⟩
     have B9 := bT B8 b9
     generalize hh.val = hv at *
     clear CB8 n0 n1 n2 b9
     go_wp2_with fail
     exact bodyPost_ret (v := .tuple #[hv, .int .i64 0]) (by simp [results, Tryz.results47, go_sem]) rfl ⟨dU F, B9⟩
  ·by_cases hL : el < y1
   ·have F := dH (dU E2 (dU HW) (by first | exact dU HT | exact dU HT2) ⟨rfl, hL⟩)
    clear E2 E3 E4 E5 CA CNd CB1 CE HNk HAk HW PN PE PR PC HT HT2
    go_wp2_with fail
    exact bodyPost_ret (v := .tuple #[.iface 132 (.agg #[.int .i64 ((k : Int) + 1 + 1)]), .int .i64 0]) (by simp [results, Tryz.results47, go_sem]) rfl ⟨dU F, B5⟩
   by_cases h6 : 60 < y1
   ·have F := dH (dU E3 (dU HW) (by first | exact dU HT | exact dU HT2) (show ¬ (true = true ∧ el < y1) from fun h => hL h.2) (.inr h6))
    clear E2 E3 E4 E5 CA CNd CB1 CE HNk HAk HW PN PE PR PC HT HT2
    go_wp2_with fail
    exact bodyPost_ret (v := .tuple #[.nilIface, .int .i64 2]) (by simp [results, Tryz.results47, go_sem]) rfl ⟨dU F, B5⟩
   have HL2 := dH (show ¬ (true = true ∧ el < y1) from fun h => hL h.2)
   have HS3 := dH (show ¬ ((true = false ∧ sure < y1) ∨ 60 < y1) from fun h => h.elim (fun h => by cases h.1) h6)
   have CA1 := dH (dU CA w5 B5 (.slice ea en.length ec) en (dU HNk _ B5) (dU HAk) hnl)
   clear E2 E3 CA
   go_wp2_with fail
   refine (dU CA1).mono ?_
   rintro e w6 ⟨⟨hu, rfl, R6⟩, b6⟩
   have b6' := bT b5' b6
   have B6 := bT B5 b6
   have HR6 := dH fun W (hW : Below w6.heap.size w6 W) => RdAnswerS.below R6 hW
   have bd6 : Below w6.heap.size w6 w6.drew := (Below.refl _ _).drew
   have PC6 := dH fun W (hW : Below w6.heap.size w6 W) => dU PC W (bT b6' hW)
   have CN6 := dH (dU CNd w6.drew hu en (dU HR6 _ bd6))
   have CE6 := dH fun W (hW : Below w6.heap.size w6 W) (o : Value) (ho : Ns W o ((fromL en l).map Aw.node)) => dU CE W (bT B6 hW) (.slice ea en.length ec) o en (dU HNk _ (bT B6 hW)) ho (dU HAk) hnl
   clear CA1 R6 b6 CNd CE n0 n1 n2 u0 u1 u2 v0 v1
   go_upto_region 12 with fail
   go_wp2_with fail
   go_region_held3 (fun W => (W.cell? ⟨w.heap.size + 1, 0, none⟩ = some (.slice ca ds.length cc) ∧ W.cell? ⟨w.heap.size + 1, 1, none⟩ = some (.int .i64 cop)) ∧ W.cell? ⟨bH + 1, 0, none⟩ = some (.slice ea en.length ec)) (first | exact dU PC6 _ b8' | exact dU PC6 _ b7' | exact dU PC6 _ bd6 | go_keep)
    (first
     | (go_at_call 46; refine (dU CN6).mono ?_; rintro e w7 ⟨⟨o7, rfl, O7⟩, b7⟩; have b7' := bT bd6 b7; have HO7 := dH O7.bs; clear O7 b7)
     | (go_at_call 20; refine (dU CE6 _ b7' o7 (dU HO7)).mono ?_; rintro e w8 ⟨⟨b8, rfl, h8⟩, bl8⟩; have b8' := bT b7' bl8; clear bl8))
   all_goals
    have B8 := bT B6 b8'
    cases b8
    ·have F := dH (dU E4 (dU HW) (by first | exact dU HT | exact dU HT2) (dU HL2) (dU HS3) (fun h => by have := h8.2 h; cases this))
     clear E4 E5 CB1 HNk HAk HW PN PE PR PC PC6 CN6 CE6 HT HT2 HL2 HS3 h8 HR6 HO7
     go_wp2_with fail
     exact bodyPost_ret (v := .tuple #[.nilIface, .int .i64 3]) (by simp [results, Tryz.results47, go_sem]) rfl ⟨dU F, B8⟩
    ·have F := dH (dU E5 (dU HW) (by first | exact dU HT | exact dU HT2) (dU HL2) (dU HS3) (h8.1 rfl))
     have CB8 := dH (dU CB1 w8 hu en (dU HR6 _ b8'))
     obtain ⟨⟨n0, n1⟩, n2⟩ := dU PN w8 (bT b6' b8')
     (try simp only at F)
     generalize hapB ((k : Int) + 1) y1 (bestO (entL (((k : Int) + 1) * 4294967296 + y1) (fromL en l))) = hh at *
     clear E4 E5 CB1 HNk HAk HW PN PE PR PC PC6 CN6 CE6 HT HT2 HL2 HS3 h8 HR6 HO7
     go_wp2_with fail
     refine (dU CB8).mono ?_
     rintro e w9 ⟨rfl, b9⟩
     have B9 := bT B8 b9
     generalize hh.val = hv at *
     clear CB8 n0 n1 n2 b9
     go_wp2_with fail
     exact bodyPost_ret (v := .tuple #[hv, .int .i64 0]) (by simp [results, Tryz.results47, go_sem]) rfl ⟨dU F, B9⟩
variable {H : Type} {enc : TypeId × Value → H} {W : World} {r : Reach} {b0 base : Nat} {held : Bool} {v : Value} {d : DataW H} {p : List MemPlace}
set_option maxHeartbeats 16000000 in
theorem implNext_any (cv gv rv lv : Value) (c : List Int × Int) (g : Rg) (sure : Int) (r : Rr) (l : List Aw) (w : World) (hc : RdConfig cv c w) (hg : RdRegister gv g w) (hr : RdReader rv r w) (hl : RdAnswerS lv l w) (okc : okConfig c) (okg : okRegister g) (okr : okInt r.epoch) (hf : ∀ a ∈ l, fitAw a) (hsc : sizConfig c ≤ 1048576) (hsg : sizRegister g ≤ 1048576) (hll : l.length ≤ 1048576) (hrl : r.out.length ≤ 1048576) :
  Calls Tryz.prog 14 #[cv, gv, .int .i64 sure, rv, lv] w (AnsN w (nextM c.1 c.2 g sure r l)) := by
 have ba : ∀ (w : World) o, Below w.heap.size w (w.alloc o) := fun w o => (Below.refl _ _).alloc (Nat.le_refl _) o
 have CR := dH fun W (hb : Below w.heap.size w W) => implRegOk_any cv gv c g W (hc.below hb) (hg.below hb) okc okg hsc hsg
 have CK := dH fun W (hb : Below w.heap.size w W) => implReaderOk_any rv r W (hr.below hb)
 have CA := dH fun W (hb : Below w.heap.size w W) => answeringNodes_any lv l W (hl.below hb) hll
 have CC := dH fun W (hb : Below w.heap.size w W) => copied_any rv r W (hr.below hb) hrl
 have CT := dH fun W (hb : Below w.heap.size w W) (h : Hap) (hh : h.fits) => told_any rv r h hh W (hr.below hb) hrl
 have CM := dH fun W (hb : Below w.heap.size w W) (hP : nxP c.1 c.2 g r l) => comesTo_any cv gv rv lv c g sure r l W hP (hc.below hb) (hg.below hb) (hr.below hb) (hl.below hb) okc okg okr hf hsc hsg hll
 obtain ⟨ds, cop⟩ := c
 obtain ⟨cs, rfl, hcn⟩ := hc
 simp only at *
 have CN := dH fun W (hb : Below w.heap.size w W) (o : Value) (ho : Ns W o (l.map Aw.node)) => implNodes_any cs o ds (l.map Aw.node) cop W (hcn.below hb) ho okc.1 (fun x hx => by
  obtain ⟨a, ha, rfl⟩ := List.mem_map.1 hx
  exact (hf a ha).1) hsc (by rw [List.length_map]; exact hll) okc.2.1 okc.2.2
 obtain ⟨-, ca, cc, rfl, -, -⟩ := hcn
 obtain ⟨ga, gc, rfl, -⟩ := formRegister hg
 obtain ⟨ra, rc, rfl, -⟩ := formReader hr
 obtain ⟨la, lc, rfl, -⟩ := formAnswerS hl
 have EB : Hid (¬ nxP ds cop g r l → nextM ds cop g sure r l = (⟨0, 0, []⟩, 1)) := nextM_bad
 have PD : Hid (nxP ds cop g r l ↔ regP ds cop g ∧ rrP r ∧ nodesP ds cop (l.map Aw.node)) := Iff.rfl
 unfold ComeQ at CM
 generalize nextM ds cop g sure r l = M at *
 generalize nxP ds cop g r l = PP at *
 generalize regP ds cop g = P1 at *
 generalize rrP r = P2 at *
 generalize nodesP ds cop (l.map Aw.node) = P3 at *
 obtain ⟨y0, y1, ms⟩ := r
 obtain ⟨ers, gt⟩ := g
 simp only at *
 have hsc' := hsc
 have B0 := bT (bT (bT (ba w (.cells #[.slice ca ds.length cc, .int .i64 cop] 26)) (ba _ (.cells #[.slice ga ers.length gc, .int .i64 gt] 42))) (ba _ (.cells #[.int .i64 y0, .int .i64 y1, .slice ra ms.length rc] 45))) (ba _ (.cells #[.int .i64 0, .int .i64 0, .slice none 0 0] 45))
 have HB : Hid (∀ W, Below ((((w.alloc (.cells #[.slice ca ds.length cc, .int .i64 cop] 26)).alloc (.cells #[.slice ga ers.length gc, .int .i64 gt] 42)).alloc (.cells #[.int .i64 y0, .int .i64 y1, .slice ra ms.length rc] 45)).alloc (.cells #[.int .i64 0, .int .i64 0, .slice none 0 0] 45)).heap.size ((((w.alloc (.cells #[.slice ca ds.length cc, .int .i64 cop] 26)).alloc (.cells #[.slice ga ers.length gc, .int .i64 gt] 42)).alloc (.cells #[.int .i64 y0, .int .i64 y1, .slice ra ms.length rc] 45)).alloc (.cells #[.int .i64 0, .int .i64 0, .slice none 0 0] 45)) W → Bx W w.heap.size [.slice ca ds.length cc, .int .i64 cop] ∧ Bx W (w.heap.size + 1) [.slice ga ers.length gc, .int .i64 gt] ∧ Bx W (w.heap.size + 1 + 1) [.int .i64 y0, .int .i64 y1, .slice ra ms.length rc] ∧ BxZ W w.heap.size (w.heap.size + 1 + 1 + 1) [.int .i64 0, .int .i64 0, .slice none 0 0]) := fun W hW => by
  have x0 := (Bx.new w [.slice ca ds.length cc, .int .i64 cop] 26).below (bT (bT (ba _ (.cells #[.slice ga ers.length gc, .int .i64 gt] 42)) (ba _ (.cells #[.int .i64 y0, .int .i64 y1, .slice ra ms.length rc] 45))) (ba _ (.cells #[.int .i64 0, .int .i64 0, .slice none 0 0] 45)))
  have x1 := (Bx.new (w.alloc (.cells #[.slice ca ds.length cc, .int .i64 cop] 26)) [.slice ga ers.length gc, .int .i64 gt] 42).below (bT (ba _ (.cells #[.int .i64 y0, .int .i64 y1, .slice ra ms.length rc] 45)) (ba _ (.cells #[.int .i64 0, .int .i64 0, .slice none 0 0] 45)))
  have x2 := (Bx.new ((w.alloc (.cells #[.slice ca ds.length cc, .int .i64 cop] 26)).alloc (.cells #[.slice ga ers.length gc, .int .i64 gt] 42)) [.int .i64 y0, .int .i64 y1, .slice ra ms.length rc] 45).below (ba _ (.cells #[.int .i64 0, .int .i64 0, .slice none 0 0] 45))
  have x3 := BxZ.new (B := w.heap.size) (((w.alloc (.cells #[.slice ca ds.length cc, .int .i64 cop] 26)).alloc (.cells #[.slice ga ers.length gc, .int .i64 gt] 42)).alloc (.cells #[.int .i64 y0, .int .i64 y1, .slice ra ms.length rc] 45)) [.int .i64 0, .int .i64 0, .slice none 0 0] 45 (by simp; omega)
  rw [show (w.alloc (.cells #[.slice ca ds.length cc, .int .i64 cop] 26)).heap.size = w.heap.size + 1 from by simp] at x1
  rw [show ((w.alloc (.cells #[.slice ca ds.length cc, .int .i64 cop] 26)).alloc (.cells #[.slice ga ers.length gc, .int .i64 gt] 42)).heap.size = w.heap.size + 1 + 1 from by simp] at x2
  rw [show (((w.alloc (.cells #[.slice ca ds.length cc, .int .i64 cop] 26)).alloc (.cells #[.slice ga ers.length gc, .int .i64 gt] 42)).alloc (.cells #[.int .i64 y0, .int .i64 y1, .slice ra ms.length rc] 45)).heap.size = w.heap.size + 1 + 1 + 1 from by simp] at x3
  exact ⟨x0.below hW, x1.below hW, x2.below hW, x3.below hW⟩
 have hs0 : Hid (((((w.alloc (.cells #[.slice ca ds.length cc, .int .i64 cop] 26)).alloc (.cells #[.slice ga ers.length gc, .int .i64 gt] 42)).alloc (.cells #[.int .i64 y0, .int .i64 y1, .slice ra ms.length rc] 45)).alloc (.cells #[.int .i64 0, .int .i64 0, .slice none 0 0] 45)).heap.size = w.heap.size + 4) := by simp [Hid]
 clear hg hr hl hf okc okg okr hsc hsc' hsg hll hrl
 go_enter Tryz.func14, Tryz.ntmps14
 go_upto_region 1 with fail
 generalize ((((w.alloc (.cells #[.slice ca ds.length cc, .int .i64 cop] 26)).alloc (.cells #[.slice ga ers.length gc, .int .i64 gt] 42)).alloc (.cells #[.int .i64 y0, .int .i64 y1, .slice ra ms.length rc] 45)).alloc (.cells #[.int .i64 0, .int .i64 0, .slice none 0 0] 45)) = w0 at *
 have hw0 := dU hs0
 have bdr : Below w0.heap.size w0 w0.drew := (Below.refl _ _).drew
 have PS : Hid (∀ W, Below w0.heap.size w0 W → (W.cell? ⟨w.heap.size, 0, none⟩ = some (.slice ca ds.length cc) ∧ W.cell? ⟨w.heap.size, 1, none⟩ = some (.int .i64 cop)) ∧ (W.cell? ⟨w.heap.size + 1, 0, none⟩ = some (.slice ga ers.length gc) ∧ W.cell? ⟨w.heap.size + 1, 1, none⟩ = some (.int .i64 gt)) ∧ W.cell? ⟨w.heap.size + 1 + 1, 0, none⟩ = some (.int .i64 y0) ∧ W.cell? ⟨w.heap.size + 1 + 1, 1, none⟩ = some (.int .i64 y1) ∧ W.cell? ⟨w.heap.size + 1 + 1, 2, none⟩ = some (.slice ra ms.length rc)) := fun W hW => by
  obtain ⟨X0, X1, X2, X3⟩ := dU HB W hW
  exact ⟨⟨X0 0 _ rfl, X0 1 _ rfl⟩, ⟨X1 0 _ rfl, X1 1 _ rfl⟩, X2 0 _ rfl, X2 1 _ rfl, X2 2 _ rfl⟩
 have E9 : Hid (∀ (W : World) (m' : Rr) (cd : Int) (a : Option Addr) (c n base : Nat), M = (m', cd) → n = m'.out.length → ApV W base (.slice a n c) m'.out → w0.heap.size ≤ base → Below w.heap.size w W → AnsN w M (.returned (.tuple #[.agg #[.int .i64 m'.epoch, .int .i64 m'.off, .slice a n c], .int .i64 cd])) (((W.setCell ⟨w.heap.size + 1 + 1 + 1, 0, none⟩ (.int .i64 m'.epoch)).setCell ⟨w.heap.size + 1 + 1 + 1, 1, none⟩ (.int .i64 m'.off)).setCell ⟨w.heap.size + 1 + 1 + 1, 2, none⟩ (.slice a n c))) := fun W m' cd a c n base e1 e2 h hB bel => AnsN.mk e1 e2 (((ApR.far elemEvent (ApR.far elemEvent (ApR.far elemEvent h (b := w.heap.size + 1 + 1 + 1) (o' := 0) (by omega) (.int .i64 m'.epoch)) (b := w.heap.size + 1 + 1 + 1) (o' := 1) (by omega) (.int .i64 m'.off)) (b := w.heap.size + 1 + 1 + 1) (o' := 2) (by omega) (.slice a n c)))) (by omega) (((bel.setCell (p := ⟨w.heap.size + 1 + 1 + 1, 0, none⟩) (by simp only; omega) _).setCell (p := ⟨w.heap.size + 1 + 1 + 1, 1, none⟩) (by simp only; omega) _).setCell (p := ⟨w.heap.size + 1 + 1 + 1, 2, none⟩) (by simp only; omega) _)
 have Q9 : Hid (∀ (W : World) (a b c : Value), Below w0.heap.size w0 W → (((W.setCell ⟨w.heap.size + 1 + 1 + 1, 0, none⟩ a).setCell ⟨w.heap.size + 1 + 1 + 1, 1, none⟩ b).setCell ⟨w.heap.size + 1 + 1 + 1, 2, none⟩ c).cell? ⟨w.heap.size + 1 + 1 + 1, 0, none⟩ = some a ∧ (((W.setCell ⟨w.heap.size + 1 + 1 + 1, 0, none⟩ a).setCell ⟨w.heap.size + 1 + 1 + 1, 1, none⟩ b).setCell ⟨w.heap.size + 1 + 1 + 1, 2, none⟩ c).cell? ⟨w.heap.size + 1 + 1 + 1, 1, none⟩ = some b ∧ (((W.setCell ⟨w.heap.size + 1 + 1 + 1, 0, none⟩ a).setCell ⟨w.heap.size + 1 + 1 + 1, 1, none⟩ b).setCell ⟨w.heap.size + 1 + 1 + 1, 2, none⟩ c).cell? ⟨w.heap.size + 1 + 1 + 1, 2, none⟩ = some c) := fun W a b c hW => by
  have y := (((dU HB W hW).2.2.2.put 0 a).put 1 b).put 2 c
  exact ⟨(y.2 0 _ rfl).1, (y.2 1 _ rfl).1, (y.2 2 _ rfl).1⟩
 have FZ : Hid (∀ W, Below w0.heap.size w0 W → (W.cell? ⟨w.heap.size + 1 + 1 + 1, 0, none⟩ = some (.int .i64 0) ∧ W.frozen? ⟨w.heap.size + 1 + 1 + 1, 0, none⟩ = false) ∧ (W.cell? ⟨w.heap.size + 1 + 1 + 1, 1, none⟩ = some (.int .i64 0) ∧ W.frozen? ⟨w.heap.size + 1 + 1 + 1, 1, none⟩ = false) ∧ (W.cell? ⟨w.heap.size + 1 + 1 + 1, 2, none⟩ = some (.slice none 0 0) ∧ W.frozen? ⟨w.heap.size + 1 + 1 + 1, 2, none⟩ = false)) := fun W hW => by
  obtain ⟨X0, X1, X2, X3⟩ := dU HB W hW
  exact ⟨X3.2 0 _ rfl, X3.2 1 _ rfl, X3.2 2 _ rfl⟩
 clear hw0 hs0 HB
 go_wp2_with fail
 by_cases hp1 : P1
 case neg =>
  have hcur := bdr
  refine wp_region_noPanic ?_
  refine wp_region_held_drew (S := fun W => (W.cell? ⟨w.heap.size, 0, none⟩ = some (.slice ca ds.length cc) ∧ W.cell? ⟨w.heap.size, 1, none⟩ = some (.int .i64 cop)) ∧ (W.cell? ⟨w.heap.size + 1, 0, none⟩ = some (.slice ga ers.length gc) ∧ W.cell? ⟨w.heap.size + 1, 1, none⟩ = some (.int .i64 gt)) ∧ W.cell? ⟨w.heap.size + 1 + 1, 0, none⟩ = some (.int .i64 y0) ∧ W.cell? ⟨w.heap.size + 1 + 1, 1, none⟩ = some (.int .i64 y1) ∧ W.cell? ⟨w.heap.size + 1 + 1, 2, none⟩ = some (.slice ra ms.length rc)) (by kernel_rfl) (by first | exact dU PS _ hcur | exact dU PS _ bdr) (fun hHeld => ?_)
  generalize w0.drew = wd at *
  refine tY 0 (v := ?_) rfl (by kernel_rfl) (.inl ⟨by rfl, ?_⟩) ‹_› ?_
  rotate_left 1
  ·intro w hSw
   (try dsimp only at hSw)
   first | (go_simp; done) | (go_simp; with_reducible rfl)
  try simp only [Act.put, sA, sB, sC]
  refine tY 1 (v := ?_) rfl (by kernel_rfl) (.inl ⟨by rfl, ?_⟩) ‹_› ?_
  rotate_left 1
  ·intro w hSw
   (try dsimp only at hSw)
   first | (go_simp; done) | (go_simp; with_reducible rfl)
  try simp only [Act.put, sA, sB, sC]
  refine wpAnyH_ready (rs := [2]) (by kernel_rfl) (by simp) ?_
  refine rC rfl (fun K hK => ?_) AllReadyH.nil
  go_simp
  refine (dU CR _ (bT B0 hcur)).mono ?_
  rintro e w1 ⟨⟨b1, rfl, h1⟩, bl1⟩
  obtain rfl : b1 = false := by
   cases b1
   ·rfl
   ·exact absurd (h1.1 rfl) hp1
  replace hcur := bT hcur bl1
  clear h1 bl1
  (try go_wp2_with fail)
  refine hK.out _ _ (by first | exact dU PS _ hcur | exact dU PS _ bdr) (fun hHeld => ?_)
  clear hK K
  try simp only [Act.put, sA, sB, sC]
  refine tY 3 (v := ?_) rfl (by kernel_rfl) (.inl ⟨by rfl, ?_⟩) ‹_› ?_
  rotate_left 1
  ·intro w hSw
   (try dsimp only at hSw)
   first | (go_simp; done) | (go_simp; with_reducible rfl)
  try simp only [Act.put, sA, sB, sC]
  refine tY 4 (v := ?_) rfl (by kernel_rfl) (.inl ⟨by rfl, ?_⟩) ‹_› ?_
  rotate_left 1
  ·intro w hSw
   (try dsimp only at hSw)
   first | (go_simp; done) | (go_simp; with_reducible rfl)
  try simp only [Act.put, sA, sB, sC]
  refine tY 5 rfl (by kernel_rfl) (.inr ⟨by rfl, rfl⟩) ‹_› ?_
  try simp only [Act.put, sA, sB, sC]
  refine tY 6 rfl (by kernel_rfl) (.inr ⟨by rfl, rfl⟩) ‹_› ?_
  try simp only [Act.put, sA, sB, sC]
  refine tY 7 rfl (by kernel_rfl) (.inr ⟨by rfl, rfl⟩) ‹_› ?_
  try simp only [Act.put, sA, sB, sC]
  refine tY 8 (v := ?_) rfl (by kernel_rfl) (.inl ⟨by rfl, ?_⟩) ‹_› ?_
  rotate_left 1
  ·intro w hSw
   (try dsimp only at hSw)
   first | (go_simp; done) | (go_simp; with_reducible rfl)
  try simp only [Act.put, sA, sB, sC]
  refine tY 9 (v := ?_) rfl (by kernel_rfl) (.inl ⟨by rfl, ?_⟩) ‹_› ?_
  rotate_left 1
  ·intro w hSw
   (try dsimp only at hSw)
   first | (go_simp; done) | (go_simp; with_reducible rfl)
  try simp only [Act.put, sA, sB, sC]
  refine tY 10 rfl (by kernel_rfl) (.inr ⟨by rfl, rfl⟩) ‹_› ?_
  try simp only [Act.put, sA, sB, sC]
  refine tY 11 rfl (by kernel_rfl) (.inr ⟨by rfl, rfl⟩) ‹_› ?_
  try simp only [Act.put, sA, sB, sC]
  refine tY 12 rfl (by kernel_rfl) (.inr ⟨by rfl, rfl⟩) ‹_› ?_
  try simp only [Act.put, sA, sB, sC]
  refine tY 13 rfl (by kernel_rfl) (.inr ⟨by rfl, rfl⟩) ‹_› ?_
  try simp only [Act.put, sA, sB, sC]
  refine tY 14 rfl (by kernel_rfl) (.inr ⟨by rfl, rfl⟩) ‹_› ?_
  try simp only [Act.put, sA, sB, sC]
  refine tY 15 (v := ?_) rfl (by kernel_rfl) (.inl ⟨by rfl, ?_⟩) ‹_› ?_
  rotate_left 1
  ·intro w hSw
   (try dsimp only at hSw)
   first | (go_simp; done) | (go_simp; with_reducible rfl)
  try simp only [Act.put, sA, sB, sC]
  refine wpAnyH_done (by kernel_rfl) ?_ _
  refine NoPanic.normal ?_
  have NP : ¬ PP := fun h => hp1 ((dU PD).1 h).1
  have F := dH (AnsN.bad (W := (((w1.setCell ⟨w.heap.size + 1 + 1 + 1, 0, none⟩ (.int .i64 0)).setCell ⟨w.heap.size + 1 + 1 + 1, 1, none⟩ (.int .i64 0)).setCell ⟨w.heap.size + 1 + 1 + 1, 2, none⟩ (.slice none 0 0))) (dU EB NP) ((((bT B0 hcur).setCell (p := ⟨w.heap.size + 1 + 1 + 1, 0, none⟩) (by simp only; omega) (.int .i64 0)).setCell (p := ⟨w.heap.size + 1 + 1 + 1, 1, none⟩) (by simp only; omega) (.int .i64 0)).setCell (p := ⟨w.heap.size + 1 + 1 + 1, 2, none⟩) (by simp only; omega) (.slice none 0 0)))
  obtain ⟨q0, q1, q2⟩ := dU Q9 w1 (.int .i64 0) (.int .i64 0) (.slice none 0 0) hcur
  obtain ⟨⟨z0, f0⟩, ⟨z1, f1⟩, ⟨z2, f2⟩⟩ := dU FZ w1 hcur
  clear CR CK CA CC CT CM CN EB PD E9 Q9 FZ PS
  go_wp2_with fail
  generalize (((w1.setCell ⟨w.heap.size + 1 + 1 + 1, 0, none⟩ (.int .i64 0)).setCell ⟨w.heap.size + 1 + 1 + 1, 1, none⟩ (.int .i64 0)).setCell ⟨w.heap.size + 1 + 1 + 1, 2, none⟩ (.slice none 0 0)) = V at *
  exact bodyPost_ret (v := .tuple #[.agg #[.int .i64 0, .int .i64 0, .slice none 0 0], .int .i64 1]) (by simp [results, Tryz.results14, go_sem, q0, q1, q2]) rfl (dU F)
 case pos =>
  by_cases hp2 : P2
  case neg =>
   have hcur := bdr
   refine wp_region_noPanic ?_
   refine wp_region_held_drew (S := fun W => (W.cell? ⟨w.heap.size, 0, none⟩ = some (.slice ca ds.length cc) ∧ W.cell? ⟨w.heap.size, 1, none⟩ = some (.int .i64 cop)) ∧ (W.cell? ⟨w.heap.size + 1, 0, none⟩ = some (.slice ga ers.length gc) ∧ W.cell? ⟨w.heap.size + 1, 1, none⟩ = some (.int .i64 gt)) ∧ W.cell? ⟨w.heap.size + 1 + 1, 0, none⟩ = some (.int .i64 y0) ∧ W.cell? ⟨w.heap.size + 1 + 1, 1, none⟩ = some (.int .i64 y1) ∧ W.cell? ⟨w.heap.size + 1 + 1, 2, none⟩ = some (.slice ra ms.length rc)) (by kernel_rfl) (by first | exact dU PS _ hcur | exact dU PS _ bdr) (fun hHeld => ?_)
   generalize w0.drew = wd at *
   refine tY 0 (v := ?_) rfl (by kernel_rfl) (.inl ⟨by rfl, ?_⟩) ‹_› ?_
   rotate_left 1
   ·intro w hSw
    (try dsimp only at hSw)
    first | (go_simp; done) | (go_simp; with_reducible rfl)
   try simp only [Act.put, sA, sB, sC]
   refine tY 1 (v := ?_) rfl (by kernel_rfl) (.inl ⟨by rfl, ?_⟩) ‹_› ?_
   rotate_left 1
   ·intro w hSw
    (try dsimp only at hSw)
    first | (go_simp; done) | (go_simp; with_reducible rfl)
   try simp only [Act.put, sA, sB, sC]
   refine wpAnyH_ready (rs := [2]) (by kernel_rfl) (by simp) ?_
   refine rC rfl (fun K hK => ?_) AllReadyH.nil
   go_simp
   refine (dU CR _ (bT B0 hcur)).mono ?_
   rintro e w1 ⟨⟨b1, rfl, h1⟩, bl1⟩
   obtain rfl : b1 = true := h1.2 hp1
   replace hcur := bT hcur bl1
   clear h1 bl1
   (try go_wp2_with fail)
   refine hK.out _ _ (by first | exact dU PS _ hcur | exact dU PS _ bdr) (fun hHeld => ?_)
   clear hK K
   try simp only [Act.put, sA, sB, sC]
   refine tY 3 (v := ?_) rfl (by kernel_rfl) (.inl ⟨by rfl, ?_⟩) ‹_› ?_
   rotate_left 1
   ·intro w hSw
    (try dsimp only at hSw)
    first | (go_simp; done) | (go_simp; with_reducible rfl)
   try simp only [Act.put, sA, sB, sC]
   refine tY 4 (v := ?_) rfl (by kernel_rfl) (.inl ⟨by rfl, ?_⟩) ‹_› ?_
   rotate_left 1
   ·intro w hSw
    (try dsimp only at hSw)
    first | (go_simp; done) | (go_simp; with_reducible rfl)
   try simp only [Act.put, sA, sB, sC]
   refine tY 5 (v := ?_) rfl (by kernel_rfl) (.inl ⟨by rfl, ?_⟩) ‹_› ?_
   rotate_left 1
   ·intro w hSw
    (try dsimp only at hSw)
    first | (go_simp; done) | (go_simp; with_reducible rfl)
   try simp only [Act.put, sA, sB, sC]
   refine wpAnyH_ready (rs := [6]) (by kernel_rfl) (by simp) ?_
   refine rC rfl (fun K hK => ?_) AllReadyH.nil
   go_simp
   refine (dU CK _ (bT B0 hcur)).mono ?_
   rintro e w2 ⟨⟨b2, rfl, h2⟩, bl2⟩
   obtain rfl : b2 = false := by
    cases b2
    ·rfl
    ·exact absurd (h2.1 rfl) hp2
   replace hcur := bT hcur bl2
   clear h2 bl2
   (try go_wp2_with fail)
   refine hK.out _ _ (by first | exact dU PS _ hcur | exact dU PS _ bdr) (fun hHeld => ?_)
   clear hK K
   try simp only [Act.put, sA, sB, sC]
   refine tY 7 (v := ?_) rfl (by kernel_rfl) (.inl ⟨by rfl, ?_⟩) ‹_› ?_
   rotate_left 1
   ·intro w hSw
    (try dsimp only at hSw)
    first | (go_simp; done) | (go_simp; with_reducible rfl)
   try simp only [Act.put, sA, sB, sC]
   refine tY 8 (v := ?_) rfl (by kernel_rfl) (.inl ⟨by rfl, ?_⟩) ‹_› ?_
   rotate_left 1
   ·intro w hSw
    (try dsimp only at hSw)
    first | (go_simp; done) | (go_simp; with_reducible rfl)
   try simp only [Act.put, sA, sB, sC]
   refine tY 9 (v := ?_) rfl (by kernel_rfl) (.inl ⟨by rfl, ?_⟩) ‹_› ?_
   rotate_left 1
   ·intro w hSw
    (try dsimp only at hSw)
    first | (go_simp; done) | (go_simp; with_reducible rfl)
   try simp only [Act.put, sA, sB, sC]
   refine tY 10 rfl (by kernel_rfl) (.inr ⟨by rfl, rfl⟩) ‹_› ?_
   try simp only [Act.put, sA, sB, sC]
   refine tY 11 rfl (by kernel_rfl) (.inr ⟨by rfl, rfl⟩) ‹_› ?_
   try simp only [Act.put, sA, sB, sC]
   refine tY 12 rfl (by kernel_rfl) (.inr ⟨by rfl, rfl⟩) ‹_› ?_
   try simp only [Act.put, sA, sB, sC]
   refine tY 13 rfl (by kernel_rfl) (.inr ⟨by rfl, rfl⟩) ‹_› ?_
   try simp only [Act.put, sA, sB, sC]
   refine tY 14 rfl (by kernel_rfl) (.inr ⟨by rfl, rfl⟩) ‹_› ?_
   try simp only [Act.put, sA, sB, sC]
   refine tY 15 (v := ?_) rfl (by kernel_rfl) (.inl ⟨by rfl, ?_⟩) ‹_› ?_
   rotate_left 1
   ·intro w hSw
    (try dsimp only at hSw)
    first | (go_simp; done) | (go_simp; with_reducible rfl)
   try simp only [Act.put, sA, sB, sC]
   refine wpAnyH_done (by kernel_rfl) ?_ _
   refine NoPanic.normal ?_
   have NP : ¬ PP := fun h => hp2 ((dU PD).1 h).2.1
   have F := dH (AnsN.bad (W := (((w2.setCell ⟨w.heap.size + 1 + 1 + 1, 0, none⟩ (.int .i64 0)).setCell ⟨w.heap.size + 1 + 1 + 1, 1, none⟩ (.int .i64 0)).setCell ⟨w.heap.size + 1 + 1 + 1, 2, none⟩ (.slice none 0 0))) (dU EB NP) ((((bT B0 hcur).setCell (p := ⟨w.heap.size + 1 + 1 + 1, 0, none⟩) (by simp only; omega) (.int .i64 0)).setCell (p := ⟨w.heap.size + 1 + 1 + 1, 1, none⟩) (by simp only; omega) (.int .i64 0)).setCell (p := ⟨w.heap.size + 1 + 1 + 1, 2, none⟩) (by simp only; omega) (.slice none 0 0)))
   obtain ⟨q0, q1, q2⟩ := dU Q9 w2 (.int .i64 0) (.int .i64 0) (.slice none 0 0) hcur
   obtain ⟨⟨z0, f0⟩, ⟨z1, f1⟩, ⟨z2, f2⟩⟩ := dU FZ w2 hcur
   clear CR CK CA CC CT CM CN EB PD E9 Q9 FZ PS
   go_wp2_with fail
   generalize (((w2.setCell ⟨w.heap.size + 1 + 1 + 1, 0, none⟩ (.int .i64 0)).setCell ⟨w.heap.size + 1 + 1 + 1, 1, none⟩ (.int .i64 0)).setCell ⟨w.heap.size + 1 + 1 + 1, 2, none⟩ (.slice none 0 0)) = V at *
   exact bodyPost_ret (v := .tuple #[.agg #[.int .i64 0, .int .i64 0, .slice none 0 0], .int .i64 1]) (by simp [results, Tryz.results14, go_sem, q0, q1, q2]) rfl (dU F)
  case pos =>
   have hcur := bdr
   refine wp_region_noPanic ?_
   refine wp_region_held_drew (S := fun W => (W.cell? ⟨w.heap.size, 0, none⟩ = some (.slice ca ds.length cc) ∧ W.cell? ⟨w.heap.size, 1, none⟩ = some (.int .i64 cop)) ∧ (W.cell? ⟨w.heap.size + 1, 0, none⟩ = some (.slice ga ers.length gc) ∧ W.cell? ⟨w.heap.size + 1, 1, none⟩ = some (.int .i64 gt)) ∧ W.cell? ⟨w.heap.size + 1 + 1, 0, none⟩ = some (.int .i64 y0) ∧ W.cell? ⟨w.heap.size + 1 + 1, 1, none⟩ = some (.int .i64 y1) ∧ W.cell? ⟨w.heap.size + 1 + 1, 2, none⟩ = some (.slice ra ms.length rc)) (by kernel_rfl) (by first | exact dU PS _ hcur | exact dU PS _ bdr) (fun hHeld => ?_)
   generalize w0.drew = wd at *
   refine tY 0 (v := ?_) rfl (by kernel_rfl) (.inl ⟨by rfl, ?_⟩) ‹_› ?_
   rotate_left 1
   ·intro w hSw
    (try dsimp only at hSw)
    first | (go_simp; done) | (go_simp; with_reducible rfl)
   try simp only [Act.put, sA, sB, sC]
   refine tY 1 (v := ?_) rfl (by kernel_rfl) (.inl ⟨by rfl, ?_⟩) ‹_› ?_
   rotate_left 1
   ·intro w hSw
    (try dsimp only at hSw)
    first | (go_simp; done) | (go_simp; with_reducible rfl)
   try simp only [Act.put, sA, sB, sC]
   refine wpAnyH_ready (rs := [2]) (by kernel_rfl) (by simp) ?_
   refine rC rfl (fun K hK => ?_) AllReadyH.nil
   go_simp
   refine (dU CR _ (bT B0 hcur)).mono ?_
   rintro e w1 ⟨⟨b1, rfl, h1⟩, bl1⟩
   obtain rfl : b1 = true := h1.2 hp1
   replace hcur := bT hcur bl1
   clear h1 bl1
   (try go_wp2_with fail)
   refine hK.out _ _ (by first | exact dU PS _ hcur | exact dU PS _ bdr) (fun hHeld => ?_)
   clear hK K
   try simp only [Act.put, sA, sB, sC]
   refine tY 3 (v := ?_) rfl (by kernel_rfl) (.inl ⟨by rfl, ?_⟩) ‹_› ?_
   rotate_left 1
   ·intro w hSw
    (try dsimp only at hSw)
    first | (go_simp; done) | (go_simp; with_reducible rfl)
   try simp only [Act.put, sA, sB, sC]
   refine tY 4 (v := ?_) rfl (by kernel_rfl) (.inl ⟨by rfl, ?_⟩) ‹_› ?_
   rotate_left 1
   ·intro w hSw
    (try dsimp only at hSw)
    first | (go_simp; done) | (go_simp; with_reducible rfl)
   try simp only [Act.put, sA, sB, sC]
   refine tY 5 (v := ?_) rfl (by kernel_rfl) (.inl ⟨by rfl, ?_⟩) ‹_› ?_
   rotate_left 1
   ·intro w hSw
    (try dsimp only at hSw)
    first | (go_simp; done) | (go_simp; with_reducible rfl)
   try simp only [Act.put, sA, sB, sC]
   refine wpAnyH_ready (rs := [6]) (by kernel_rfl) (by simp) ?_
   refine rC rfl (fun K hK => ?_) AllReadyH.nil
   go_simp
   refine (dU CK _ (bT B0 hcur)).mono ?_
   rintro e w2 ⟨⟨b2, rfl, h2⟩, bl2⟩
   obtain rfl : b2 = true := h2.2 hp2
   replace hcur := bT hcur bl2
   clear h2 bl2
   (try go_wp2_with fail)
   refine hK.out _ _ (by first | exact dU PS _ hcur | exact dU PS _ bdr) (fun hHeld => ?_)
   clear hK K
   try simp only [Act.put, sA, sB, sC]
   refine tY 7 (v := ?_) rfl (by kernel_rfl) (.inl ⟨by rfl, ?_⟩) ‹_› ?_
   rotate_left 1
   ·intro w hSw
    (try dsimp only at hSw)
    first | (go_simp; done) | (go_simp; with_reducible rfl)
   try simp only [Act.put, sA, sB, sC]
   refine tY 8 (v := ?_) rfl (by kernel_rfl) (.inl ⟨by rfl, ?_⟩) ‹_› ?_
   rotate_left 1
   ·intro w hSw
    (try dsimp only at hSw)
    first | (go_simp; done) | (go_simp; with_reducible rfl)
   try simp only [Act.put, sA, sB, sC]
   refine tY 9 (v := ?_) rfl (by kernel_rfl) (.inl ⟨by rfl, ?_⟩) ‹_› ?_
   rotate_left 1
   ·intro w hSw
    (try dsimp only at hSw)
    first | (go_simp; done) | (go_simp; with_reducible rfl)
   try simp only [Act.put, sA, sB, sC]
   refine tY 10 (v := ?_) rfl (by kernel_rfl) (.inl ⟨by rfl, ?_⟩) ‹_› ?_
   rotate_left 1
   ·intro w hSw
    (try dsimp only at hSw)
    first | (go_simp; done) | (go_simp; with_reducible rfl)
   try simp only [Act.put, sA, sB, sC]
   refine tY 11 (v := ?_) rfl (by kernel_rfl) (.inl ⟨by rfl, ?_⟩) ‹_› ?_
   rotate_left 1
   ·intro w hSw
    (try dsimp only at hSw)
    first | (go_simp; done) | (go_simp; with_reducible rfl)
   try simp only [Act.put, sA, sB, sC]
   refine wpAnyH_ready (rs := [12]) (by kernel_rfl) (by simp) ?_
   refine rC rfl (fun K hK => ?_) AllReadyH.nil
   go_simp
   refine (dU CA _ (bT B0 hcur)).mono ?_
   rintro e w3 ⟨⟨o3, rfl, O3⟩, bl3⟩
   replace hcur := bT hcur bl3
   have HO3 := dH O3.bs
   clear O3 bl3
   (try go_wp2_with fail)
   refine hK.out _ _ (by first | exact dU PS _ hcur | exact dU PS _ bdr) (fun hHeld => ?_)
   clear hK K
   try simp only [Act.put, sA, sB, sC]
   refine wpAnyH_ready (rs := [13]) (by kernel_rfl) (by simp) ?_
   refine rC rfl (fun K hK => ?_) AllReadyH.nil
   go_simp
   refine (dU CN _ (bT B0 hcur) o3 (dU HO3)).mono ?_
   rintro e w4 ⟨⟨b4, rfl, h4⟩, bl4⟩
   replace hcur := bT hcur bl4
   clear bl4 HO3
   (try go_wp2_with fail)
   refine hK.out _ _ (by first | exact dU PS _ hcur | exact dU PS _ bdr) (fun hHeld => ?_)
   clear hK K
   try simp only [Act.put, sA, sB, sC]
   refine tY 14 (v := ?_) rfl (by kernel_rfl) (.inl ⟨by rfl, ?_⟩) ‹_› ?_
   rotate_left 1
   ·intro w hSw
    (try dsimp only at hSw)
    first | (go_simp; done) | (go_simp; with_reducible rfl)
   try simp only [Act.put, sA, sB, sC]
   refine tY 15 (v := ?_) rfl (by kernel_rfl) (.inl ⟨by rfl, ?_⟩) ‹_› ?_
   rotate_left 1
   ·intro w hSw
    (try dsimp only at hSw)
    first | (go_simp; done) | (go_simp; with_reducible rfl)
   try simp only [Act.put, sA, sB, sC]
   refine wpAnyH_done (by kernel_rfl) ?_ _
   refine NoPanic.normal ?_
   cases b4
   ·have NP : ¬ PP := fun h => by have := h4.2 ((dU PD).1 h).2.2; cases this
    clear h4
    have F := dH (AnsN.bad (W := (((w4.setCell ⟨w.heap.size + 1 + 1 + 1, 0, none⟩ (.int .i64 0)).setCell ⟨w.heap.size + 1 + 1 + 1, 1, none⟩ (.int .i64 0)).setCell ⟨w.heap.size + 1 + 1 + 1, 2, none⟩ (.slice none 0 0))) (dU EB NP) ((((bT B0 hcur).setCell (p := ⟨w.heap.size + 1 + 1 + 1, 0, none⟩) (by simp only; omega) (.int .i64 0)).setCell (p := ⟨w.heap.size + 1 + 1 + 1, 1, none⟩) (by simp only; omega) (.int .i64 0)).setCell (p := ⟨w.heap.size + 1 + 1 + 1, 2, none⟩) (by simp only; omega) (.slice none 0 0)))
    obtain ⟨q0, q1, q2⟩ := dU Q9 w4 (.int .i64 0) (.int .i64 0) (.slice none 0 0) hcur
    obtain ⟨⟨z0, f0⟩, ⟨z1, f1⟩, ⟨z2, f2⟩⟩ := dU FZ w4 hcur
    clear CR CK CA CC CT CM CN EB PD E9 Q9 FZ PS
    go_wp2_with fail
    generalize (((w4.setCell ⟨w.heap.size + 1 + 1 + 1, 0, none⟩ (.int .i64 0)).setCell ⟨w.heap.size + 1 + 1 + 1, 1, none⟩ (.int .i64 0)).setCell ⟨w.heap.size + 1 + 1 + 1, 2, none⟩ (.slice none 0 0)) = V at *
    exact bodyPost_ret (v := .tuple #[.agg #[.int .i64 0, .int .i64 0, .slice none 0 0], .int .i64 1]) (by simp [results, Tryz.results14, go_sem, q0, q1, q2]) rfl (dU F)
   ·have CM4 := dH (dU CM w4 (bT B0 hcur) ((dU PD).2 ⟨hp1, hp2, h4.1 rfl⟩))
    obtain ⟨⟨x0, x1⟩, ⟨x2, x3⟩, x4, x5, x6⟩ := dU PS w4 hcur
    clear h4 hp1 hp2 CR CK CA CN EB PD CM
    go_wp2_with fail
    refine (dU CM4).mono ?_
    rintro e w5 ⟨hq, bl5⟩
    replace hcur := bT hcur bl5
    clear CM4 x0 x1 x2 x3 x4 x5 x6 bl5
    obtain ⟨⟨x0, x1⟩, ⟨x2, x3⟩, x4, x5, x6⟩ := dU PS w5 hcur
    rcases hq with ⟨hh, hfit, rfl, hM⟩ | ⟨cd, hcd, rfl, hM⟩
    ·have CT5 := dH (dU CT w5 (bT B0 hcur) hh hfit)
     unfold AnsV at CT5
     simp only [tellR] at CT5 hM
     have HM := dH hM
     generalize hh.val = hv at *
     generalize hh.ev = ev at *
     clear hM hfit CC CT
     go_wp2_with fail
     refine (dU CT5).mono ?_
     rintro e w9 ⟨a9, c9, rfl, O9, bl9⟩
     have b09 := bT hcur bl9
     have O9' : ApV w9 w5.heap.size (.slice a9 (ms.length + 1) c9) (ms ++ [ev]) := by simpa using O9
     have F := dH (dU E9 w9 ⟨hh.on.1, hh.on.2, ms ++ [ev]⟩ 0 a9 c9 (ms.length + 1) _ (dU HM) (by simp) O9' hcur.size (bT B0 b09))
     dsimp only at F
     obtain ⟨q0, q1, q2⟩ := dU Q9 w9 (.int .i64 hh.on.1) (.int .i64 hh.on.2) (.slice a9 (ms.length + 1) c9) b09
     obtain ⟨⟨z0, f0⟩, ⟨z1, f1⟩, ⟨z2, f2⟩⟩ := dU FZ w9 b09
     simp only [List.length_append, List.length_cons, List.length_nil, Nat.zero_add]
     clear O9 O9' bl9 E9 Q9 FZ PS CT5 HM x0 x1 x2 x3 x4 x5 x6
     go_wp2_with fail
     generalize (((w9.setCell ⟨w.heap.size + 1 + 1 + 1, 0, none⟩ (.int .i64 hh.on.1)).setCell ⟨w.heap.size + 1 + 1 + 1, 1, none⟩ (.int .i64 hh.on.2)).setCell ⟨w.heap.size + 1 + 1 + 1, 2, none⟩ (.slice a9 (ms.length + 1) c9)) = V at *
     exact bodyPost_ret (v := .tuple #[.agg #[.int .i64 hh.on.1, .int .i64 hh.on.2, .slice a9 (ms.length + 1) c9], .int .i64 0]) (by simp [results, Tryz.results14, go_sem, q0, q1, q2]) rfl (dU F)
    ·have hn : (cd != 0) = true := by rcases hcd with rfl | rfl <;> rfl
     have CC5 := dH (dU CC w5 (bT B0 hcur))
     unfold AnsV at CC5
     have HM := dH hM
     clear hM hcd CC CT
     go_wp2_with fail
     refine (dU CC5).mono ?_
     rintro e w9 ⟨a9, c9, rfl, O9, bl9⟩
     have b09 := bT hcur bl9
     have F := dH (dU E9 w9 ⟨y0, y1, ms⟩ cd a9 c9 ms.length _ (dU HM) rfl O9 hcur.size (bT B0 b09))
     dsimp only at F
     obtain ⟨q0, q1, q2⟩ := dU Q9 w9 (.int .i64 y0) (.int .i64 y1) (.slice a9 ms.length c9) b09
     obtain ⟨⟨z0, f0⟩, ⟨z1, f1⟩, ⟨z2, f2⟩⟩ := dU FZ w9 b09
     clear O9 bl9 E9 Q9 FZ PS CC5 HM x0 x1 x2 x3 x4 x5 x6
     go_wp2_with fail
     generalize (((w9.setCell ⟨w.heap.size + 1 + 1 + 1, 0, none⟩ (.int .i64 y0)).setCell ⟨w.heap.size + 1 + 1 + 1, 1, none⟩ (.int .i64 y1)).setCell ⟨w.heap.size + 1 + 1 + 1, 2, none⟩ (.slice a9 ms.length c9)) = V at *
     exact bodyPost_ret (v := .tuple #[.agg #[.int .i64 y0, .int .i64 y1, .slice a9 ms.length c9], .int .i64 cd]) (by simp [results, Tryz.results14, go_sem, q0, q1, q2]) rfl (dU F)
theorem AnsN.sits {w w' : World} {M : Rr × Int} {e : Ending} (h : AnsN w M e w') : ∃ u, e = .returned (.tuple #[u, .int .i64 M.2]) ∧ Sits (OwReader w.heap.size w'.heap.size u M.1) w.heap.size w'.heap.size w' ∧ Below w.heap.size w w' := by
 obtain ⟨u, h1, h2, h3⟩ := h
 exact ⟨u, h1, h2.sits (Nat.le_refl _), h3⟩
end Go.Proofs.YtjkjmapibcfcdaaGreat
