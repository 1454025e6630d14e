/- impl's comesTo (printed by tools/mknxk.py). -/
import Derived.Test.YtapfdmmfhfkhkaaGreatNxJ
import Derived.Test.YtapfdmmfhfkhkaaGreatImGa
import Derived.Test.YtapfdmmfhfkhkaaGreatImplD
import Derived.Test.YtapfdmmfhfkhkaaGreatNxC
import Derived.Deep.RegionHeld3
import Derived.Deep.DeepCutAuto
namespace Go.Proofs.YtapfdmmfhfkhkaaGreat
open Go.ChangeShapes Go.WideShapes Go.ChangeAt Go.RowKit
set_option linter.unusedVariables false
set_option linter.unusedSimpArgs false
set_option maxRecDepth 100000

theorem fromL_nodes (set : List Int) (l : List Aw) : (fromL set l).map Aw.node = bothL (l.map Aw.node) set := by
  unfold fromL bothL lessL
  rw [List.filter_map]
  congr 1
  apply List.filter_congr
  intro a ha
  have hm : a.node ∈ l.map Aw.node := List.mem_map.2 ⟨a, ha, rfl⟩
  by_cases h : a.node ∈ set
  · simp [h]
  · have h2 : a.node ∈ (l.map Aw.node).filter (fun x => !set.contains x) := List.mem_filter.2 ⟨hm, by simp [h]⟩
    simp only [Function.comp]
    rw [decide_eq_false h, List.contains_iff_mem.2 h2]
    rfl
/-- What comesTo tells. -/
def ComeQ (ds : List Int) (cop : Int) (g : Rg) (sure : Int) (r : Rr) (l : List Aw) (e : Ending) : Prop :=
  (∃ h : Hap, h.fits ∧ e = .returned (.tuple #[h.val, .int .i64 0]) ∧ nextM ds cop g sure r l = (tellR r h.ev h.on.1 h.on.2, 0)) ∨ (∃ cd : Int, (cd = 2 ∨ cd = 3) ∧ e = .returned (.tuple #[.nilIface, .int .i64 cd]) ∧ nextM ds cop g sure r l = (r, cd))
theorem ComeQ.two {ds : List Int} {cop : Int} {g : Rg} {sure : Int} {r : Rr} {l : List Aw} (h : nextM ds cop g sure r l = (r, 2)) : ComeQ ds cop g sure r l (.returned (.tuple #[.nilIface, .int .i64 2])) := .inr ⟨2, .inl rfl, rfl, h⟩
theorem ComeQ.three {ds : List Int} {cop : Int} {g : Rg} {sure : Int} {r : Rr} {l : List Aw} (h : nextM ds cop g sure r l = (r, 3)) : ComeQ ds cop g sure r l (.returned (.tuple #[.nilIface, .int .i64 3])) := .inr ⟨3, .inr rfl, rfl, h⟩
theorem ComeQ.hap {ds : List Int} {cop : Int} {g : Rg} {sure : Int} {r : Rr} {l : List Aw} (h : Hap) (hf : h.fits) (hM : nextM ds cop g sure r l = (tellR r h.ev h.on.1 h.on.2, 0)) : ComeQ ds cop g sure r l (.returned (.tuple #[h.val, .int .i64 0])) := .inl ⟨h, hf, rfl, hM⟩
set_option maxHeartbeats 16000000 in
theorem comesTo_any (cv gv rv lv : Value) (c : List Int × Int) (g : Rg) (sure : Int) (r : Rr) (l : List Aw) (w : World) (hP : nxP c.1 c.2 g r l) (hc : RdConfig cv c w) (hg : RdRegister gv g w) (hr : RdReader rv r w) (hl : RdAnswerS lv l w) (okc : okConfig c) (okg : okRegister g) (okr : okInt r.epoch) (hf : ∀ a ∈ l, fitAw a) (hsc : sizConfig c ≤ 1048576) (hsg : sizRegister g ≤ 1048576) (hll : l.length ≤ 1048576) :
    Calls Tryz.prog 98 #[rv, cv, gv, .int .i64 sure, lv] w fun e w' => ComeQ c.1 c.2 g sure r l e ∧ Below w.heap.size w w' := by
  have ba : ∀ (w : World) o, Below w.heap.size w (w.alloc o) := fun w o => (Below.refl _ _).alloc (Nat.le_refl _) o
  have CH := dHide fun W (hb : Below w.heap.size w W) => hasEpoch_any gv g r.epoch W (hg.below hb) okr (by unfold sizRegister sizEraS at hsg; omega)
  obtain ⟨ds, cop⟩ := c
  obtain ⟨cs, rfl, hcn⟩ := hc
  simp only at *
  have hdl : ds.length ≤ 1048576 := hsc
  have HP := dHide hP
  obtain ⟨gs, rfl, rs, hm, hrs, hns⟩ := hg
  have HRS := dHide fun W (hb : Below w.heap.size w W) => hrs.below hb
  have HNS := dHide fun W (hb : Below w.heap.size w W) k (hk : k < rs.length) => (hns _ (List.getElem_mem hk)).below hb
  have HNL : Hid (∀ k (hk : k < rs.length), rs[k].m.nodes.length ≤ 1048576) := fun k hk => by
    have h1 := sumN_mem (ms := rs.map Nst.m) (k := k) (by simpa using hk)
    rw [List.getElem_map] at h1
    unfold sizRegister sizEraS at hsg
    rw [← hm] at hsg
    omega
  have HNA : Hid (∀ k (hk : k < rs.length), allInt rs[k].m.nodes) := fun k hk => (okg.1 _ (by rw [← hm]; exact List.mem_map.2 ⟨_, List.getElem_mem hk, rfl⟩)).1
  have hfl : ∀ set, ∀ a ∈ fromL set l, fitAw a := fun set a ha => hf a (List.mem_filter.1 ha).1
  have hln : ∀ set, (fromL set l).length ≤ 1048576 := fun set => Nat.le_trans (List.length_filter_le _ _) hll
  have CA := dHide fun W (hb : Below w.heap.size w W) (sv : Value) (set : List Int) (hs : Ns W sv set) (ha : allInt set) (hsl : set.length ≤ 1048576) => answersFrom_any sv lv set l W hs (hl.below hb) ha hsl hll hf
  have CNd := dHide fun W (v : Value) (set : List Int) (hv : RdAnswerS v (fromL set l) W) => answeringNodes_any v (fromL set l) W hv (hln set)
  have CBt := dHide fun W (v : Value) (set : List Int) (ep off : Int) (hv : RdAnswerS v (fromL set l) W) => bestAt_any v ep off (fromL set l) W hv (hln set) (hfl set)
  have CE := dHide fun W (hb : Below w.heap.size w W) (u v : Value) (xs : List Int) (hu : Ns W u xs) (hv : Ns W v ((fromL xs l).map Aw.node)) (ha : allInt xs) (hx : xs.length ≤ 1048576) => implEnough_any cs u v ds xs ((fromL xs l).map Aw.node) cop W (hcn.below hb) hu hv okc.1 ha (fun x hx => by
    obtain ⟨a, ha, rfl⟩ := List.mem_map.1 hx
    exact (hfl xs a ha).1) hdl hx (by rw [List.length_map]; exact hln xs) okc.2.1 okc.2.2
  obtain ⟨-, ca, cc, rfl, -, -⟩ := hcn
  obtain ⟨ra, rc, rfl, -⟩ := formReader hr
  obtain ⟨la, lc, rfl, -⟩ := formAnswerS hl
  obtain ⟨hgl, ga, gc, rfl, -, -⟩ := hrs
  have EW : Hid (nxW g r → ComeQ ds cop g sure r l (.returned (.tuple #[.nilIface, .int .i64 2]))) := fun h => ComeQ.two (nextM_wait hP h)
  have E1 : Hid (¬ nxW g r → rrPl r ≤ g.trim → isPl g.trim → ComeQ ds cop g sure r l (.returned (.tuple #[.iface 190 (.agg #[.int .i64 (g.trim / 4294967296), .int .i64 (g.trim % 4294967296)]), .int .i64 0]))) := fun h1 h2 h3 => ComeQ.hap (.trim (g.trim / 4294967296) (g.trim % 4294967296)) ⟨by unfold isPl at h3; omega, by omega, by unfold isPl at h3; omega⟩ (by
    rw [nextM_step hP h1, stepM_trim h2]
    have e : g.trim / 4294967296 * 4294967296 + g.trim % 4294967296 = g.trim := by omega
    simp only [Hap.ev, Hap.on, e])
  have E2 : Hid (¬ nxW g r → ¬ rrPl r ≤ g.trim → ((rrEr g r).closed = true ∧ (rrEr g r).last < r.off) → ComeQ ds cop g sure r l (.returned (.tuple #[.iface 192 (.agg #[.int .i64 (r.epoch + 1)]), .int .i64 0]))) := fun h1 h2 h3 => ComeQ.hap (.era (r.epoch + 1)) (by have := hP.2.1.1; exact ⟨by omega, by omega⟩) ((nextM_step hP h1).trans (stepM_era h2 h3))
  have E3 : Hid (¬ nxW g r → ¬ rrPl r ≤ g.trim → ¬ ((rrEr g r).closed = true ∧ (rrEr g r).last < r.off) → (((rrEr g r).closed = false ∧ sure < r.off) ∨ 60 < r.off) → ComeQ ds cop g sure r l (.returned (.tuple #[.nilIface, .int .i64 2]))) := fun h1 h2 h3 h4 => ComeQ.two ((nextM_step hP h1).trans (stepM_wait h2 h3 h4))
  have E4 : Hid (¬ nxW g r → ¬ rrPl r ≤ g.trim → ¬ ((rrEr g r).closed = true ∧ (rrEr g r).last < r.off) → ¬ (((rrEr g r).closed = false ∧ sure < r.off) ∨ 60 < r.off) → ¬ enoughP ds cop (rrEr g r).nodes ((fromL (rrEr g r).nodes l).map Aw.node) → ComeQ ds cop g sure r l (.returned (.tuple #[.nilIface, .int .i64 3]))) := fun h1 h2 h3 h4 h5 => ComeQ.three ((nextM_step hP h1).trans (stepM_few h2 h3 h4 (by rw [← fromL_nodes]; exact h5)))
  have E5 : Hid (¬ nxW g r → ¬ rrPl r ≤ g.trim → ¬ ((rrEr g r).closed = true ∧ (rrEr g r).last < r.off) → ¬ (((rrEr g r).closed = false ∧ sure < r.off) ∨ 60 < r.off) → enoughP ds cop (rrEr g r).nodes ((fromL (rrEr g r).nodes l).map Aw.node) → ComeQ ds cop g sure r l (.returned (.tuple #[(hapB r.epoch r.off (bestO (entL (r.epoch * 4294967296 + r.off) (fromL (rrEr g r).nodes l)))).val, .int .i64 0]))) := fun h1 h2 h3 h4 h5 => ComeQ.hap _ (hapB_fits (by have := hP.2.1.1; omega) (by have := hP.2.1.2.1; omega) _) (by
    rw [nextM_step hP h1, stepM_tell h2 h3 h4 (by rw [← fromL_nodes]; exact h5), hapB_ev, hapB_on, entL_from]
    have e : r.epoch * 4294967296 + r.off = rrPl r := by unfold rrPl; omega
    rw [e])
  have ER : Hid (∀ k (hk : k < rs.length), r.epoch = (k : Int) + 1 → rrEr g r = rs[k].m) := fun k hk h => rrEr_at hm h hk
  generalize ComeQ ds cop g sure r l = Q at *
  have PT : Hid (¬ g.trim = 0 → isPl g.trim) := fun h0 => (hP.1.2.2.1.resolve_left h0).1
  have PW : Hid (nxW g r ↔ ((rs.length : Int) < r.epoch ∨ r.out.length = 120)) := by unfold nxW; rw [Hid, ← hm, List.length_map]
  have hgl2 : g.eras.length = rs.length := by rw [← hm, List.length_map]
  rw [hgl2] at CH
  obtain ⟨r0, r1⟩ := hP.2.1.1
  obtain ⟨r2, r3⟩ := hP.2.1.2.1
  obtain ⟨y0, y1, ms⟩ := r
  obtain ⟨ers, gt⟩ := g
  simp only at *
  obtain ⟨k, rfl⟩ : ∃ k : Nat, y0 = (k : Int) + 1 := ⟨(y0 - 1).toNat, by omega⟩
  have CNm := dHide fun W => number_wide ((k : Int) + 1) y1 (by omega) (by omega) (by omega) (by omega) W
  have CB1 := dHide fun W (v : Value) (set : List Int) (hv : RdAnswerS v (fromL set l) W) => dUnhide CBt W v set ((k : Int) + 1) y1 hv (by omega) (by omega) (by omega) (by omega)
  clear CBt
  have B0 := belowThen (belowThen (ba w (.cells #[.int .i64 ((k : Int) + 1), .int .i64 y1, .slice ra ms.length rc] 56)) (ba _ (.cells #[.slice ca ds.length cc, .int .i64 cop] 26))) (ba _ (.cells #[.slice ga rs.length gc, .int .i64 gt] 53))
  have HB : Hid (∀ W, Below (((w.alloc (.cells #[.int .i64 ((k : Int) + 1), .int .i64 y1, .slice ra ms.length rc] 56)).alloc (.cells #[.slice ca ds.length cc, .int .i64 cop] 26)).alloc (.cells #[.slice ga rs.length gc, .int .i64 gt] 53)).heap.size (((w.alloc (.cells #[.int .i64 ((k : Int) + 1), .int .i64 y1, .slice ra ms.length rc] 56)).alloc (.cells #[.slice ca ds.length cc, .int .i64 cop] 26)).alloc (.cells #[.slice ga rs.length gc, .int .i64 gt] 53)) W → Bx W w.heap.size [.int .i64 ((k : Int) + 1), .int .i64 y1, .slice ra ms.length rc] ∧ Bx W (w.heap.size + 1) [.slice ca ds.length cc, .int .i64 cop] ∧ Bx W (w.heap.size + 1 + 1) [.slice ga rs.length gc, .int .i64 gt]) := fun W hW => by
    have x0 := (Bx.new w [.int .i64 ((k : Int) + 1), .int .i64 y1, .slice ra ms.length rc] 56).below (belowThen (ba _ (.cells #[.slice ca ds.length cc, .int .i64 cop] 26)) (ba _ (.cells #[.slice ga rs.length gc, .int .i64 gt] 53)))
    have x1 := (Bx.new (w.alloc (.cells #[.int .i64 ((k : Int) + 1), .int .i64 y1, .slice ra ms.length rc] 56)) [.slice ca ds.length cc, .int .i64 cop] 26).below (ba _ (.cells #[.slice ga rs.length gc, .int .i64 gt] 53))
    have x2 := Bx.new ((w.alloc (.cells #[.int .i64 ((k : Int) + 1), .int .i64 y1, .slice ra ms.length rc] 56)).alloc (.cells #[.slice ca ds.length cc, .int .i64 cop] 26)) [.slice ga rs.length gc, .int .i64 gt] 53
    rw [show (w.alloc (.cells #[.int .i64 ((k : Int) + 1), .int .i64 y1, .slice ra ms.length rc] 56)).heap.size = w.heap.size + 1 from by simp] at x1
    rw [show ((w.alloc (.cells #[.int .i64 ((k : Int) + 1), .int .i64 y1, .slice ra ms.length rc] 56)).alloc (.cells #[.slice ca ds.length cc, .int .i64 cop] 26)).heap.size = w.heap.size + 1 + 1 from by simp] at x2
    exact ⟨x0.below hW, x1.below hW, x2.below hW⟩
  clear hr hl hns hm hf okg hsg okc okr hsc hP hfl hln hgl2 HP
  go_enter Tryz.func98, Tryz.ntmps98
  go_wp2_with fail
  generalize (((w.alloc (.cells #[.int .i64 ((k : Int) + 1), .int .i64 y1, .slice ra ms.length rc] 56)).alloc (.cells #[.slice ca ds.length cc, .int .i64 cop] 26)).alloc (.cells #[.slice ga rs.length gc, .int .i64 gt] 53)) = w0 at *
  refine (dUnhide CH _ B0).mono ?_
  rintro e w1 ⟨⟨b1, rfl, h1⟩, b01⟩
  have B1 := belowThen B0 b01
  clear CH
  obtain ⟨X0, X1, X2⟩ := dUnhide HB w1 b01
  obtain ⟨x0, x1, x2⟩ : _ ∧ _ ∧ _ := ⟨X0 0 _ rfl, X0 1 _ rfl, X0 2 _ rfl⟩
  obtain ⟨x5, x6⟩ : _ ∧ _ := ⟨X2 0 _ rfl, X2 1 _ rfl⟩
  clear X0 X1 X2
  cases b1
  · have F := dHide (dUnhide EW ((dUnhide PW).2 (.inl (by
      by_cases h : (rs.length : Int) < (k : Int) + 1
      · exact h
      · have := h1.2 ⟨by omega, by omega⟩; cases this))))
    clear EW E1 E2 E3 E4 E5 ER PT PW CA CNd CB1 CE HRS HNS HNL HNA HB CNm h1
    go_wp2_with fail
    exact bodyPost_ret (v := .tuple #[.nilIface, .int .i64 2]) (by simp [results, Tryz.results98, go_sem]) rfl ⟨dUnhide F, B1⟩
  have hE := (h1.1 rfl).2
  have hE' : k < rs.length := by omega
  clear h1
  by_cases hO : ms.length = 120
  · have hO' : ((ms.length : Int) == 120) = true := by simp; omega
    have F := dHide (dUnhide EW ((dUnhide PW).2 (.inr hO)))
    clear EW E1 E2 E3 E4 E5 ER PT PW CA CNd CB1 CE HRS HNS HNL HNA HB CNm hO
    go_wp2_with fail
    exact bodyPost_ret (v := .tuple #[.nilIface, .int .i64 2]) (by simp [results, Tryz.results98, go_sem]) rfl ⟨dUnhide F, B1⟩
  have HW : Hid (¬ nxW ⟨ers, gt⟩ ⟨(k : Int) + 1, y1, ms⟩) := fun h => by
    rcases (dUnhide PW).1 h with h | h
    · omega
    · exact hO h
  have hO' : ((ms.length : Int) == 120) = false := by simp; omega
  have e5 := dUnhide ER k hE' rfl
  rw [e5] at E2 E3 E4 E5
  have HNk := dHide fun W (hb : Below w.heap.size w W) => dUnhide HNS W hb k hE'
  have hnl := dUnhide HNL k hE'
  have HAk := dHide (dUnhide HNA k hE')
  have oH := (.cells #[.int .i64 ((k : Int) + 1), .int .i64 y1] 111 : Obj)
  have bH := ba w1 (.cells #[.int .i64 ((k : Int) + 1), .int .i64 y1] 111)
  obtain ⟨gb, go, rfl, hge⟩ := (dUnhide HRS _ (belowThen B1 bH)).era hE'
  obtain ⟨g0, g1, g2⟩ := hge k hE'
  generalize rs[k] = er at *
  obtain ⟨ea, ec, en, ecl, el⟩ := er
  simp only [Sv] at HNk
  simp only at hnl HAk g0 g1 g2 E2 E3 E4 E5
  clear e5 ER HNS HNL HNA HRS hge EW PW hO oH
  have t1 : IntKind.i64.wrap ((k : Int) + 1 - 1) = (k : Int) := by rw [IntKind.wrap_i64]; omega
  have t3 : (k : Int) < (rs.length : Int) := by omega
  have XH := Bx.new w1 [.int .i64 ((k : Int) + 1), .int .i64 y1] 111
  have EA := ba (w1.alloc (.cells #[.int .i64 ((k : Int) + 1), .int .i64 y1] 111)) (.cells #[.slice ea en.length ec, .bool ecl, .int .i64 el] 145)
  have XE := Bx.new (w1.alloc (.cells #[.int .i64 ((k : Int) + 1), .int .i64 y1] 111)) [.slice ea en.length ec, .bool ecl, .int .i64 el] 145
  rw [show (w1.alloc (.cells #[.int .i64 ((k : Int) + 1), .int .i64 y1] 111)).heap.size = w1.heap.size + 1 from by simp] at XE
  replace XH := XH.below EA
  have b04 := belowThen (belowThen b01 bH) EA
  have B4 := belowThen (belowThen B1 bH) EA
  obtain ⟨X0, X1, X2⟩ := dUnhide HB _ (belowThen b01 bH)
  obtain ⟨q0, q1, q2⟩ : _ ∧ _ ∧ _ := ⟨X0 0 _ rfl, X0 1 _ rfl, X0 2 _ rfl⟩
  obtain ⟨q5, q6⟩ : _ ∧ _ := ⟨X2 0 _ rfl, X2 1 _ rfl⟩
  clear X0 X1 X2 bH EA
  go_upto_region 5 with fail
  generalize hbH : w1.heap.size = bH at *
  generalize ((w1.alloc (.cells #[.int .i64 ((k : Int) + 1), .int .i64 y1] 111)).alloc (.cells #[.slice ea en.length ec, .bool ecl, .int .i64 el] 145)) = w4 at *
  clear x0 x1 x2 x5 x6 q0 q1 q2 q5 q6 g0 g1 g2
  have bd : Below w4.heap.size w4 w4.drew := (Below.refl _ _).drew
  have PN : Hid (∀ W, Below w4.heap.size w4 W → (W.cell? ⟨bH, 0, none⟩ = some (.int .i64 ((k : Int) + 1)) ∧ W.cell? ⟨bH, 1, none⟩ = some (.int .i64 y1)) ∧ W.cell? ⟨w.heap.size + 1 + 1, 1, none⟩ = some (.int .i64 gt)) := fun W hW => ⟨⟨XH.below hW 0 _ rfl, XH.below hW 1 _ rfl⟩, (dUnhide HB W (belowThen b04 hW)).2.2 1 _ rfl⟩
  have PE : Hid (∀ W, Below w4.heap.size w4 W → W.cell? ⟨bH + 1, 0, none⟩ = some (.slice ea en.length ec) ∧ W.cell? ⟨bH + 1, 1, none⟩ = some (.bool ecl) ∧ W.cell? ⟨bH + 1, 2, none⟩ = some (.int .i64 el)) := fun W hW => ⟨XE.below hW 0 _ rfl, XE.below hW 1 _ rfl, XE.below hW 2 _ rfl⟩
  have PR : Hid (∀ W, Below w4.heap.size w4 W → W.cell? ⟨w.heap.size, 0, none⟩ = some (.int .i64 ((k : Int) + 1)) ∧ W.cell? ⟨w.heap.size, 1, none⟩ = some (.int .i64 y1)) := fun W hW => ⟨(dUnhide HB W (belowThen b04 hW)).1 0 _ rfl, (dUnhide HB W (belowThen b04 hW)).1 1 _ rfl⟩
  have PC : Hid (∀ W, Below w4.heap.size w4 W → (W.cell? ⟨w.heap.size + 1, 0, none⟩ = some (.slice ca ds.length cc) ∧ W.cell? ⟨w.heap.size + 1, 1, none⟩ = some (.int .i64 cop)) ∧ W.cell? ⟨bH + 1, 0, none⟩ = some (.slice ea en.length ec)) := fun W hW => ⟨⟨(dUnhide HB W (belowThen b04 hW)).2.1 0 _ rfl, (dUnhide HB W (belowThen b04 hW)).2.1 1 _ rfl⟩, (dUnhide PE W hW).1⟩
  clear XH XE HB
  go_wp2_with fail
  go_region_held3 (fun W => (W.cell? ⟨bH, 0, none⟩ = some (.int .i64 ((k : Int) + 1)) ∧ W.cell? ⟨bH, 1, none⟩ = some (.int .i64 y1)) ∧ W.cell? ⟨w.heap.size + 1 + 1, 1, none⟩ = some (.int .i64 gt)) (first | exact dUnhide PN _ b5' | exact dUnhide PN _ bd | go_keep)
    (first
      | (go_at_call 154; refine (dUnhide CNm _).mono ?_; rintro e w5 ⟨rfl, b5⟩; have b5' := belowThen bd b5; clear b5))
  all_goals
    have B5 := belowThen B4 b5'
    obtain ⟨⟨n0, n1⟩, n2⟩ := dUnhide PN w5 b5'
    obtain ⟨u0, u1, u2⟩ := dUnhide PE w5 b5'
    obtain ⟨v0, v1⟩ := dUnhide PR w5 b5'
    clear CNm
    by_cases hT : ((k : Int) + 1) * 4294967296 + y1 ≤ gt
    · have hpl := dUnhide PT (by omega)
      have F := dHide (dUnhide E1 (dUnhide HW) (show 4294967296 * ((k : Int) + 1) + y1 ≤ gt by omega) hpl)
      have CS := dHide fun W => split_yes gt hpl.1 hpl.2.1 hpl.2.2.1 hpl.2.2.2.1 hpl.2.2.2.2 W
      clear E1 E2 E3 E4 E5 PT CA CNd CB1 CE HNk HAk HW PN PE PR PC hpl
      go_wp2_with fail
      refine (dUnhide CS _).mono ?_
      rintro e w6 ⟨rfl, b6⟩
      have B6 := belowThen B5 b6
      clear CS b6
      go_wp2_with fail
      exact bodyPost_ret (v := .tuple #[.iface 190 (.agg #[.int .i64 (gt / 4294967296), .int .i64 (gt % 4294967296)]), .int .i64 0]) (by simp [results, Tryz.results98, go_sem]) rfl ⟨dUnhide F, B6⟩
    have HT : Hid (¬ rrPl ⟨(k : Int) + 1, y1, ms⟩ ≤ gt) := show ¬ (4294967296 * ((k : Int) + 1) + y1 ≤ gt) by omega
    have HT2 : Hid (gt < rrPl ⟨(k : Int) + 1, y1, ms⟩) := Int.not_le.1 (dUnhide HT)
    clear E1 PT
    cases ecl
    · by_cases hS : sure < y1
      · have F := dHide (dUnhide E3 (dUnhide HW) (by first | exact dUnhide HT | exact dUnhide HT2) (show ¬ (false = true ∧ el < y1) from fun h => by cases h.1) (.inl ⟨rfl, hS⟩))
        clear E2 E3 E4 E5 CA CNd CB1 CE HNk HAk HW PN PE PR PC HT HT2
        go_wp2_with fail
        exact bodyPost_ret (v := .tuple #[.nilIface, .int .i64 2]) (by simp [results, Tryz.results98, go_sem]) rfl ⟨dUnhide F, B5⟩
      by_cases h6 : 60 < y1
      · have F := dHide (dUnhide E3 (dUnhide HW) (by first | exact dUnhide HT | exact dUnhide HT2) (show ¬ (false = true ∧ el < y1) from fun h => by cases h.1) (.inr h6))
        clear E2 E3 E4 E5 CA CNd CB1 CE HNk HAk HW PN PE PR PC HT HT2
        go_wp2_with fail
        exact bodyPost_ret (v := .tuple #[.nilIface, .int .i64 2]) (by simp [results, Tryz.results98, go_sem]) rfl ⟨dUnhide F, B5⟩
      have HL2 := dHide (show ¬ (false = true ∧ el < y1) from fun h => by cases h.1)
      have HS3 := dHide (show ¬ ((false = false ∧ sure < y1) ∨ 60 < y1) from fun h => h.elim (fun h => hS h.2) h6)
      have CA1 := dHide (dUnhide CA w5 B5 (.slice ea en.length ec) en (dUnhide HNk _ B5) (dUnhide HAk) hnl)
      clear E2 E3 CA
      go_wp2_with fail
      refine (dUnhide CA1).mono ?_
      rintro e w6 ⟨⟨hu, rfl, R6⟩, b6⟩
      have b6' := belowThen b5' b6
      have B6 := belowThen B5 b6
      have HR6 := dHide fun W (hW : Below w6.heap.size w6 W) => RdAnswerS.below R6 hW
      have bd6 : Below w6.heap.size w6 w6.drew := (Below.refl _ _).drew
      have PC6 := dHide fun W (hW : Below w6.heap.size w6 W) => dUnhide PC W (belowThen b6' hW)
      have CN6 := dHide (dUnhide CNd w6.drew hu en (dUnhide HR6 _ bd6))
      have CE6 := dHide fun W (hW : Below w6.heap.size w6 W) (o : Value) (ho : Ns W o ((fromL en l).map Aw.node)) => dUnhide CE W (belowThen B6 hW) (.slice ea en.length ec) o en (dUnhide HNk _ (belowThen B6 hW)) ho (dUnhide HAk) hnl
      clear CA1 R6 b6 CNd CE n0 n1 n2 u0 u1 u2 v0 v1
      go_upto_region 12 with fail
      go_wp2_with fail
      go_region_held3 (fun W => (W.cell? ⟨w.heap.size + 1, 0, none⟩ = some (.slice ca ds.length cc) ∧ W.cell? ⟨w.heap.size + 1, 1, none⟩ = some (.int .i64 cop)) ∧ W.cell? ⟨bH + 1, 0, none⟩ = some (.slice ea en.length ec)) (first | exact dUnhide PC6 _ b8' | exact dUnhide PC6 _ b7' | exact dUnhide PC6 _ bd6 | go_keep)
        (first
          | (go_at_call 97; refine (dUnhide CN6).mono ?_; rintro e w7 ⟨⟨o7, rfl, O7⟩, b7⟩; have b7' := belowThen bd6 b7; have HO7 := dHide O7.bs; clear O7 b7)
          | (go_at_call 34; refine (dUnhide CE6 _ b7' o7 (dUnhide HO7)).mono ?_; rintro e w8 ⟨⟨b8, rfl, h8⟩, bl8⟩; have b8' := belowThen b7' bl8; clear bl8))
      all_goals
        have B8 := belowThen B6 b8'
        cases b8
        · have F := dHide (dUnhide E4 (dUnhide HW) (by first | exact dUnhide HT | exact dUnhide HT2) (dUnhide HL2) (dUnhide HS3) (fun h => by have := h8.2 h; cases this))
          clear E4 E5 CB1 HNk HAk HW PN PE PR PC PC6 CN6 CE6 HT HT2 HL2 HS3 h8 HR6 HO7
          go_wp2_with fail
          exact bodyPost_ret (v := .tuple #[.nilIface, .int .i64 3]) (by simp [results, Tryz.results98, go_sem]) rfl ⟨dUnhide F, B8⟩
        · have F := dHide (dUnhide E5 (dUnhide HW) (by first | exact dUnhide HT | exact dUnhide HT2) (dUnhide HL2) (dUnhide HS3) (h8.1 rfl))
          have CB8 := dHide (dUnhide CB1 w8 hu en (dUnhide HR6 _ b8'))
          obtain ⟨⟨n0, n1⟩, n2⟩ := dUnhide PN w8 (belowThen b6' b8')
          (try simp only at F)
          generalize hapB ((k : Int) + 1) y1 (bestO (entL (((k : Int) + 1) * 4294967296 + y1) (fromL en l))) = hh at *
          clear E4 E5 CB1 HNk HAk HW PN PE PR PC PC6 CN6 CE6 HT HT2 HL2 HS3 h8 HR6 HO7
          go_wp2_with fail
          refine (dUnhide CB8).mono ?_
          rintro e w9 ⟨rfl, b9⟩
          have B9 := belowThen B8 b9
          generalize hh.val = hv at *
          clear CB8 n0 n1 n2 b9
          go_wp2_with fail
          exact bodyPost_ret (v := .tuple #[hv, .int .i64 0]) (by simp [results, Tryz.results98, go_sem]) rfl ⟨dUnhide F, B9⟩
    · by_cases hL : el < y1
      · have F := dHide (dUnhide E2 (dUnhide HW) (by first | exact dUnhide HT | exact dUnhide HT2) ⟨rfl, hL⟩)
        clear E2 E3 E4 E5 CA CNd CB1 CE HNk HAk HW PN PE PR PC HT HT2
        go_wp2_with fail
        exact bodyPost_ret (v := .tuple #[.iface 192 (.agg #[.int .i64 ((k : Int) + 1 + 1)]), .int .i64 0]) (by simp [results, Tryz.results98, go_sem]) rfl ⟨dUnhide F, B5⟩
      by_cases h6 : 60 < y1
      · have F := dHide (dUnhide E3 (dUnhide HW) (by first | exact dUnhide HT | exact dUnhide HT2) (show ¬ (true = true ∧ el < y1) from fun h => hL h.2) (.inr h6))
        clear E2 E3 E4 E5 CA CNd CB1 CE HNk HAk HW PN PE PR PC HT HT2
        go_wp2_with fail
        exact bodyPost_ret (v := .tuple #[.nilIface, .int .i64 2]) (by simp [results, Tryz.results98, go_sem]) rfl ⟨dUnhide F, B5⟩
      have HL2 := dHide (show ¬ (true = true ∧ el < y1) from fun h => hL h.2)
      have HS3 := dHide (show ¬ ((true = false ∧ sure < y1) ∨ 60 < y1) from fun h => h.elim (fun h => by cases h.1) h6)
      have CA1 := dHide (dUnhide CA w5 B5 (.slice ea en.length ec) en (dUnhide HNk _ B5) (dUnhide HAk) hnl)
      clear E2 E3 CA
      go_wp2_with fail
      refine (dUnhide CA1).mono ?_
      rintro e w6 ⟨⟨hu, rfl, R6⟩, b6⟩
      have b6' := belowThen b5' b6
      have B6 := belowThen B5 b6
      have HR6 := dHide fun W (hW : Below w6.heap.size w6 W) => RdAnswerS.below R6 hW
      have bd6 : Below w6.heap.size w6 w6.drew := (Below.refl _ _).drew
      have PC6 := dHide fun W (hW : Below w6.heap.size w6 W) => dUnhide PC W (belowThen b6' hW)
      have CN6 := dHide (dUnhide CNd w6.drew hu en (dUnhide HR6 _ bd6))
      have CE6 := dHide fun W (hW : Below w6.heap.size w6 W) (o : Value) (ho : Ns W o ((fromL en l).map Aw.node)) => dUnhide CE W (belowThen B6 hW) (.slice ea en.length ec) o en (dUnhide HNk _ (belowThen B6 hW)) ho (dUnhide HAk) hnl
      clear CA1 R6 b6 CNd CE n0 n1 n2 u0 u1 u2 v0 v1
      go_upto_region 12 with fail
      go_wp2_with fail
      go_region_held3 (fun W => (W.cell? ⟨w.heap.size + 1, 0, none⟩ = some (.slice ca ds.length cc) ∧ W.cell? ⟨w.heap.size + 1, 1, none⟩ = some (.int .i64 cop)) ∧ W.cell? ⟨bH + 1, 0, none⟩ = some (.slice ea en.length ec)) (first | exact dUnhide PC6 _ b8' | exact dUnhide PC6 _ b7' | exact dUnhide PC6 _ bd6 | go_keep)
        (first
          | (go_at_call 97; refine (dUnhide CN6).mono ?_; rintro e w7 ⟨⟨o7, rfl, O7⟩, b7⟩; have b7' := belowThen bd6 b7; have HO7 := dHide O7.bs; clear O7 b7)
          | (go_at_call 34; refine (dUnhide CE6 _ b7' o7 (dUnhide HO7)).mono ?_; rintro e w8 ⟨⟨b8, rfl, h8⟩, bl8⟩; have b8' := belowThen b7' bl8; clear bl8))
      all_goals
        have B8 := belowThen B6 b8'
        cases b8
        · have F := dHide (dUnhide E4 (dUnhide HW) (by first | exact dUnhide HT | exact dUnhide HT2) (dUnhide HL2) (dUnhide HS3) (fun h => by have := h8.2 h; cases this))
          clear E4 E5 CB1 HNk HAk HW PN PE PR PC PC6 CN6 CE6 HT HT2 HL2 HS3 h8 HR6 HO7
          go_wp2_with fail
          exact bodyPost_ret (v := .tuple #[.nilIface, .int .i64 3]) (by simp [results, Tryz.results98, go_sem]) rfl ⟨dUnhide F, B8⟩
        · have F := dHide (dUnhide E5 (dUnhide HW) (by first | exact dUnhide HT | exact dUnhide HT2) (dUnhide HL2) (dUnhide HS3) (h8.1 rfl))
          have CB8 := dHide (dUnhide CB1 w8 hu en (dUnhide HR6 _ b8'))
          obtain ⟨⟨n0, n1⟩, n2⟩ := dUnhide PN w8 (belowThen b6' b8')
          (try simp only at F)
          generalize hapB ((k : Int) + 1) y1 (bestO (entL (((k : Int) + 1) * 4294967296 + y1) (fromL en l))) = hh at *
          clear E4 E5 CB1 HNk HAk HW PN PE PR PC PC6 CN6 CE6 HT HT2 HL2 HS3 h8 HR6 HO7
          go_wp2_with fail
          refine (dUnhide CB8).mono ?_
          rintro e w9 ⟨rfl, b9⟩
          have B9 := belowThen B8 b9
          generalize hh.val = hv at *
          clear CB8 n0 n1 n2 b9
          go_wp2_with fail
          exact bodyPost_ret (v := .tuple #[hv, .int .i64 0]) (by simp [results, Tryz.results98, go_sem]) rfl ⟨dUnhide F, B9⟩
end Go.Proofs.YtapfdmmfhfkhkaaGreat
