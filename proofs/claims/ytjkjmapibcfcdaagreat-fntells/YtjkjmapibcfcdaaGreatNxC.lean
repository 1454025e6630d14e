/- spec's ReaderNext (printed by tools/mknxc.py). -/
import Derived.Test.YtjkjmapibcfcdaaGreatNxB
import Derived.Test.YtjkjmapibcfcdaaGreatGz21
import Derived.Deep.RegionHeld3
import Derived.Deep.DeepCutAuto
namespace Go.Proofs.YtjkjmapibcfcdaaGreat
open Go.ChangeShapes Go.WideShapes Go.ChangeAt Go.RowKit
set_option linter.unusedVariables false
set_option linter.unusedSimpArgs false
set_option maxRecDepth 100000

def AnsN (w : World) (M : Rr × Int) (e : Ending) (w' : World) : Prop := ∃ u, e = .returned (.tuple #[u, .int .i64 M.2]) ∧ OwReader w.heap.size w'.heap.size u M.1 w' ∧ Below w.heap.size w w'
theorem AnsN.mk {w W : World} {M : Rr × Int} {m : Rr} {cd : Int} {a : Option Addr} {c n base : Nat} (hM : M = (m, cd)) (hn : n = m.out.length) (h : ApV W base (.slice a n c) m.out) (hb : w.heap.size ≤ base) (bel : Below w.heap.size w W) : AnsN w M (.returned (.tuple #[.agg #[.int .i64 m.epoch, .int .i64 m.off, .slice a n c], .int .i64 cd])) W := by
 subst hM
 have o := (ApR.own elemEvent h).mono hb
 exact ⟨_, rfl, ⟨_, rfl, ⟨o, o.ltZ Ev.cl_len (by decide)⟩⟩, bel⟩
theorem AnsN.bad {w W : World} {M : Rr × Int} (hM : M = (⟨0, 0, []⟩, 1)) (bel : Below w.heap.size w W) : AnsN w M (.returned (.tuple #[.agg #[.int .i64 0, .int .i64 0, .slice none 0 0], .int .i64 1])) W := by
 subst hM
 exact ⟨_, rfl, ⟨_, rfl, ⟨OwnRw.nil _ _ _ _ (by omega), .inl rfl⟩⟩, bel⟩
theorem rrEr_at {g : Rg} {r : Rr} {rs : List (Nst Er)} {k : Nat} (hm : rs.map Nst.m = g.eras) (h : r.epoch = (k : Int) + 1) (hk : k < rs.length) : rrEr g r = rs[k].m := by
 unfold rrEr
 rw [h, ← hm]
 have e : ((k : Int) + 1 - 1).toNat = k := by omega
 rw [e, List.getD_eq_getElem?_getD, List.getElem?_map, List.getElem?_eq_getElem hk]
 rfl
set_option maxHeartbeats 16000000 in
theorem specNext_any (cv gv rv lv : Value) (c : List Int × Int) (g : Rg) (sure : Int) (r : Rr) (l : List Aw) (w : World) (hc : RdConfig cv c w) (hg : RdRegister gv g w) (hr : RdReader rv r w) (hl : RdAnswerS lv l w) (okg : okRegister g) (hf : ∀ a ∈ l, a.ent.fits) (hsg : sizRegister g ≤ 1048576) (hll : l.length ≤ 1048576) (hrl : r.out.length ≤ 1048576) :
  Calls Tryz.prog 15 #[cv, gv, .int .i64 sure, rv, lv] w (AnsN w (nextM c.1 c.2 g sure r l)) := by
 have ba : ∀ (w : World) o, Below w.heap.size w (w.alloc o) := fun w o => (Below.refl _ _).alloc (Nat.le_refl _) o
 have CR := dH fun W (hb : Below w.heap.size w W) => specRegOk_any cv gv c g W (hc.below hb) (hg.below hb) okg.2 hsg
 have CK := dH fun W (hb : Below w.heap.size w W) => specReaderOk_any rv r W (hr.below hb)
 have CC := dH fun W (hb : Below w.heap.size w W) => l10Copy_any rv r W (hr.below hb) hrl
 have CT : Hid (∀ W, Below w.heap.size w W → ∀ (e : Ev) (ep off : Int), Calls Tryz.prog 54 #[rv, .agg #[.int .i64 e.kind, .int .i64 e.pl, .string e.data], .int .i64 ep, .int .i64 off] W fun e' w' => ∃ (a : Option Addr) (c : Nat), e' = .returned (.agg #[.int .i64 ep, .int .i64 off, .slice a (r.out.length + 1) c]) ∧ ApV w' W.heap.size (.slice a (r.out.length + 1) c) (r.out ++ [e]) ∧ Below W.heap.size W w') := fun W hb e ep off => (l10Tell_any rv r e ep off W (hr.below hb) hrl).mono fun e' w' ⟨a, c, h1, h2, h3⟩ => ⟨a, c, by rw [h1]; simp [tellR], by simpa [tellR] using h2, h3⟩
 obtain ⟨ds, cop⟩ := c
 obtain ⟨cs, rfl, hcn⟩ := hc
 simp only at *
 have CN := dH fun W (hb : Below w.heap.size w W) => l10Nodes_any cs lv ds cop l W (hcn.below hb) (hl.below hb) hll
 obtain ⟨gs, rfl, rs, hm, hrs, hns⟩ := hg
 have HRS := dH fun W (hb : Below w.heap.size w W) => hrs.below hb
 have HNS := dH fun W (hb : Below w.heap.size w W) k (hk : k < rs.length) => (hns _ (List.getElem_mem hk)).below hb
 have HNL : Hid (∀ k (hk : k < rs.length), rs[k].m.nodes.length ≤ 1048576) := fun k hk => by
  have h1 := sumN_mem (ms := rs.map Nst.m) (k := k) (by simpa using hk)
  rw [List.getElem_map] at h1
  unfold sizRegister sizEraS at hsg
  rw [← hm] at hsg
  omega
 have CB := dH fun W (hb : Below w.heap.size w W) (sv : Value) (set : List Int) (pl : Int) (hs : Ns W sv set) => l10Best_any sv lv set pl l W hs (hl.below hb) hf
 have CE := dH fun W (hb : Below w.heap.size w W) (u v : Value) (xs ys : List Int) (hu : Ns W u xs) (hv : Ns W v ys) (h1 : xs.length ≤ 1000000000) (h2 : ys.length ≤ 1000000000) => specEnough_any cs u v ds xs ys cop W (hcn.below hb) hu hv h1 h2
 obtain ⟨-, ca, cc, rfl, -, -⟩ := hcn
 obtain ⟨ra, rc, rfl, -⟩ := formReader hr
 obtain ⟨la, lc, rfl, -⟩ := formAnswerS hl
 obtain ⟨hgl, ga, gc, rfl, -, -⟩ := hrs
 have EB : Hid (¬ nxP ds cop g r l → nextM ds cop g sure r l = (⟨0, 0, []⟩, 1)) := nextM_bad
 have EW : Hid (nxP ds cop g r l → nxW g r → nextM ds cop g sure r l = (r, 2)) := nextM_wait
 have E1 : Hid (nxP ds cop g r l → ¬ nxW g r → rrPl r ≤ g.trim → nextM ds cop g sure r l = (tellR r ⟨5, g.trim, ⟨#[]⟩⟩ (g.trim / 4294967296) (g.trim % 4294967296 + 1), 0)) := fun h1 h2 h3 => (nextM_step h1 h2).trans (stepM_trim h3)
 have E2 : Hid (nxP ds cop g r l → ¬ nxW g r → ¬ rrPl r ≤ g.trim → ((rrEr g r).closed = true ∧ (rrEr g r).last < r.off) → nextM ds cop g sure r l = (tellR r ⟨4, r.epoch + 1, ⟨#[]⟩⟩ (r.epoch + 1) 1, 0)) := fun h1 h2 h3 h4 => (nextM_step h1 h2).trans (stepM_era h3 h4)
 have E3 : Hid (nxP ds cop g r l → ¬ nxW g r → ¬ rrPl r ≤ g.trim → ¬ ((rrEr g r).closed = true ∧ (rrEr g r).last < r.off) → (((rrEr g r).closed = false ∧ sure < r.off) ∨ 60 < r.off) → nextM ds cop g sure r l = (r, 2)) := fun h1 h2 h3 h4 h5 => (nextM_step h1 h2).trans (stepM_wait h3 h4 h5)
 have E4 : Hid (nxP ds cop g r l → ¬ nxW g r → ¬ rrPl r ≤ g.trim → ¬ ((rrEr g r).closed = true ∧ (rrEr g r).last < r.off) → ¬ (((rrEr g r).closed = false ∧ sure < r.off) ∨ 60 < r.off) → ¬ enoughP ds cop (rrEr g r).nodes (bothL (l.map Aw.node) (rrEr g r).nodes) → nextM ds cop g sure r l = (r, 3)) := fun h1 h2 h3 h4 h5 h6 => (nextM_step h1 h2).trans (stepM_few h3 h4 h5 h6)
 have E5 : Hid (nxP ds cop g r l → ¬ nxW g r → ¬ rrPl r ≤ g.trim → ¬ ((rrEr g r).closed = true ∧ (rrEr g r).last < r.off) → ¬ (((rrEr g r).closed = false ∧ sure < r.off) ∨ 60 < r.off) → enoughP ds cop (rrEr g r).nodes (bothL (l.map Aw.node) (rrEr g r).nodes) → nextM ds cop g sure r l = (tellR r (evO (rrPl r) (bestO (goodL (rrEr g r).nodes (rrPl r) l))) r.epoch (r.off + 1), 0)) := fun h1 h2 h3 h4 h5 h6 => (nextM_step h1 h2).trans (stepM_tell h3 h4 h5 h6)
 have ER : Hid (∀ k (hk : k < rs.length), r.epoch = (k : Int) + 1 → rrEr g r = rs[k].m) := fun k hk h => rrEr_at hm h hk
 generalize nextM ds cop g sure r l = M at *
 have PD : Hid (nxP ds cop g r l ↔ regP ds cop g ∧ rrP r ∧ nodesP ds cop (l.map Aw.node)) := Iff.rfl
 have PT : Hid (regP ds cop g → ¬ g.trim = 0 → isPl g.trim) := fun h h0 => (h.2.2.1.resolve_left h0).1
 have PW : Hid (nxW g r ↔ ((rs.length : Int) < r.epoch ∨ r.out.length = 120)) := by unfold nxW; rw [Hid, ← hm, List.length_map]
 have PL : Hid (rrPl r = 4294967296 * r.epoch + r.off) := rfl
 have PR : Hid (rrP r → (1 ≤ r.epoch ∧ r.epoch ≤ 31) ∧ (1 ≤ r.off ∧ r.off ≤ 61)) := fun h => ⟨h.1, h.2.1⟩
 have HTE : Hid (∀ e ep off, (tellR r e ep off).epoch = ep ∧ (tellR r e ep off).off = off ∧ (tellR r e ep off).out = r.out ++ [e]) := fun _ _ _ => ⟨rfl, rfl, rfl⟩
 have hgt := okg.2
 obtain ⟨y0, y1, ms⟩ := r
 obtain ⟨ers, gt⟩ := g
 simp only at *
 have B0 := bT (bT (bT (ba w (.cells #[.slice ca ds.length cc, .int .i64 cop] 26)) (ba _ (.cells #[.slice ga rs.length gc, .int .i64 gt] 42))) (ba _ (.cells #[.int .i64 y0, .int .i64 y1, .slice ra ms.length rc] 45))) (ba _ (.cells #[.int .i64 0, .int .i64 0, .slice none 0 0] 45))
 have HB : Hid (∀ W, Below ((((w.alloc (.cells #[.slice ca ds.length cc, .int .i64 cop] 26)).alloc (.cells #[.slice ga rs.length gc, .int .i64 gt] 42)).alloc (.cells #[.int .i64 y0, .int .i64 y1, .slice ra ms.length rc] 45)).alloc (.cells #[.int .i64 0, .int .i64 0, .slice none 0 0] 45)).heap.size ((((w.alloc (.cells #[.slice ca ds.length cc, .int .i64 cop] 26)).alloc (.cells #[.slice ga rs.length gc, .int .i64 gt] 42)).alloc (.cells #[.int .i64 y0, .int .i64 y1, .slice ra ms.length rc] 45)).alloc (.cells #[.int .i64 0, .int .i64 0, .slice none 0 0] 45)) W → Bx W w.heap.size [.slice ca ds.length cc, .int .i64 cop] ∧ Bx W (w.heap.size + 1) [.slice ga rs.length gc, .int .i64 gt] ∧ Bx W (w.heap.size + 1 + 1) [.int .i64 y0, .int .i64 y1, .slice ra ms.length rc] ∧ BxZ W w.heap.size (w.heap.size + 1 + 1 + 1) [.int .i64 0, .int .i64 0, .slice none 0 0]) := fun W hW => by
  have x0 := (Bx.new w [.slice ca ds.length cc, .int .i64 cop] 26).below (bT (bT (ba _ (.cells #[.slice ga rs.length gc, .int .i64 gt] 42)) (ba _ (.cells #[.int .i64 y0, .int .i64 y1, .slice ra ms.length rc] 45))) (ba _ (.cells #[.int .i64 0, .int .i64 0, .slice none 0 0] 45)))
  have x1 := (Bx.new (w.alloc (.cells #[.slice ca ds.length cc, .int .i64 cop] 26)) [.slice ga rs.length gc, .int .i64 gt] 42).below (bT (ba _ (.cells #[.int .i64 y0, .int .i64 y1, .slice ra ms.length rc] 45)) (ba _ (.cells #[.int .i64 0, .int .i64 0, .slice none 0 0] 45)))
  have x2 := (Bx.new ((w.alloc (.cells #[.slice ca ds.length cc, .int .i64 cop] 26)).alloc (.cells #[.slice ga rs.length gc, .int .i64 gt] 42)) [.int .i64 y0, .int .i64 y1, .slice ra ms.length rc] 45).below (ba _ (.cells #[.int .i64 0, .int .i64 0, .slice none 0 0] 45))
  have x3 := BxZ.new (B := w.heap.size) (((w.alloc (.cells #[.slice ca ds.length cc, .int .i64 cop] 26)).alloc (.cells #[.slice ga rs.length gc, .int .i64 gt] 42)).alloc (.cells #[.int .i64 y0, .int .i64 y1, .slice ra ms.length rc] 45)) [.int .i64 0, .int .i64 0, .slice none 0 0] 45 (by simp; omega)
  rw [show (w.alloc (.cells #[.slice ca ds.length cc, .int .i64 cop] 26)).heap.size = w.heap.size + 1 from by simp] at x1
  rw [show ((w.alloc (.cells #[.slice ca ds.length cc, .int .i64 cop] 26)).alloc (.cells #[.slice ga rs.length gc, .int .i64 gt] 42)).heap.size = w.heap.size + 1 + 1 from by simp] at x2
  rw [show (((w.alloc (.cells #[.slice ca ds.length cc, .int .i64 cop] 26)).alloc (.cells #[.slice ga rs.length gc, .int .i64 gt] 42)).alloc (.cells #[.int .i64 y0, .int .i64 y1, .slice ra ms.length rc] 45)).heap.size = w.heap.size + 1 + 1 + 1 from by simp] at x3
  exact ⟨x0.below hW, x1.below hW, x2.below hW, x3.below hW⟩
 have hs0 : ((((w.alloc (.cells #[.slice ca ds.length cc, .int .i64 cop] 26)).alloc (.cells #[.slice ga rs.length gc, .int .i64 gt] 42)).alloc (.cells #[.int .i64 y0, .int .i64 y1, .slice ra ms.length rc] 45)).alloc (.cells #[.int .i64 0, .int .i64 0, .slice none 0 0] 45)).heap.size = w.heap.size + 4 := by simp
 clear hr hl hns hm hf okg hsg
 go_enter Tryz.func15, Tryz.ntmps15
 go_wp2_with fail
 generalize ((((w.alloc (.cells #[.slice ca ds.length cc, .int .i64 cop] 26)).alloc (.cells #[.slice ga rs.length gc, .int .i64 gt] 42)).alloc (.cells #[.int .i64 y0, .int .i64 y1, .slice ra ms.length rc] 45)).alloc (.cells #[.int .i64 0, .int .i64 0, .slice none 0 0] 45)) = w0 at *
 refine (dU CN _ B0).mono ?_
 rintro e w1 ⟨⟨nv, nb, rfl, N1, h1⟩, bl1⟩
 obtain ⟨-, na, nc, rfl, -, -⟩ := N1.bs
 have HN := dH fun W (hb : Below w1.heap.size w1 W) => (N1.below hb).bs
 have HLN : Hid ((l.map Aw.node).length ≤ 1048576) := by rw [Hid, List.length_map]; exact hll
 have H1 := dH h1
 have b01 := bl1
 have B1 := bT B0 b01
 clear CN N1 h1 bl1
 generalize hnn : (l.map Aw.node).length = nl at *
 clear hnn
 obtain ⟨X0, X1, X2, X3⟩ := dU HB w1 b01
 obtain ⟨x0, x1⟩ : _ ∧ _ := ⟨X0 0 _ rfl, X0 1 _ rfl⟩
 obtain ⟨x2, x3⟩ : _ ∧ _ := ⟨X1 0 _ rfl, X1 1 _ rfl⟩
 obtain ⟨x4, x5, x6⟩ : _ ∧ _ ∧ _ := ⟨X2 0 _ rfl, X2 1 _ rfl, X2 2 _ rfl⟩
 clear X0 X1 X2 X3
 go_wp2_with fail
 refine (dU CR _ B1).mono ?_
 rintro e w2 ⟨⟨b2, rfl, h2⟩, bl2⟩
 have b02 := bT b01 bl2
 have b12 := bl2
 have B2 := bT B1 bl2
 clear CR x0 x1 x2 x3 x4 x5 x6 bl2
 obtain ⟨X0, X1, X2, X3⟩ := dU HB w2 b02
 obtain ⟨x4, x5, x6⟩ : _ ∧ _ ∧ _ := ⟨X2 0 _ rfl, X2 1 _ rfl, X2 2 _ rfl⟩
 obtain ⟨z0, z1, z2⟩ : _ ∧ _ ∧ _ := ⟨X3.2 0 _ rfl, X3.2 1 _ rfl, X3.2 2 _ rfl⟩
 clear X0 X1 X2
 cases b2
 ·have F := dH (AnsN.bad (W := (((w2.setCell ⟨w.heap.size + 1 + 1 + 1, 0, none⟩ (.int .i64 0)).setCell ⟨w.heap.size + 1 + 1 + 1, 1, none⟩ (.int .i64 0)).setCell ⟨w.heap.size + 1 + 1 + 1, 2, none⟩ (.slice none 0 0))) (dU EB (fun h => by have := h2.2 ((dU PD).1 h).1; cases this)) (((B2.setCell (p := ⟨w.heap.size + 1 + 1 + 1, 0, none⟩) (by simp only; omega) (.int .i64 0)).setCell (p := ⟨w.heap.size + 1 + 1 + 1, 1, none⟩) (by simp only; omega) (.int .i64 0)).setCell (p := ⟨w.heap.size + 1 + 1 + 1, 2, none⟩) (by simp only; omega) (.slice none 0 0)))
  have YY := dH (((X3.put 0 (.int .i64 0)).put 1 (.int .i64 0)).put 2 (.slice none 0 0))
  obtain ⟨z0, f0⟩ := z0
  obtain ⟨z1, f1⟩ := z1
  obtain ⟨z2, f2⟩ := z2
  clear X3 CC CT CB CE HRS HNS HNL EB EW E1 E2 E3 E4 E5 ER PD PT PW PL PR HTE h2
  go_wp2_with fail
  generalize (((w2.setCell ⟨w.heap.size + 1 + 1 + 1, 0, none⟩ (.int .i64 0)).setCell ⟨w.heap.size + 1 + 1 + 1, 1, none⟩ (.int .i64 0)).setCell ⟨w.heap.size + 1 + 1 + 1, 2, none⟩ (.slice none 0 0)) = V at *
  have q0 := ((dU YY).2 0 _ rfl).1
  have q1 := ((dU YY).2 1 _ rfl).1
  have q2 := ((dU YY).2 2 _ rfl).1
  exact bodyPost_ret (v := .tuple #[.agg #[.int .i64 0, .int .i64 0, .slice none 0 0], .int .i64 1]) (by simp [results, Tryz.results15, go_sem, q0, q1, q2]) rfl (dU F)
 have H2 := dH (h2.1 rfl)
 clear h2
 go_wp2_with fail
 refine (dU CK _ B2).mono ?_
 rintro e w3 ⟨⟨b3, rfl, h3⟩, bl3⟩
 have b03 := bT b02 bl3
 have b13 := bT b12 bl3
 have B3 := bT B2 bl3
 clear CK x4 x5 x6 z0 z1 z2 X3 bl3 b12 b02
 obtain ⟨X0, X1, X2, X3⟩ := dU HB w3 b03
 obtain ⟨z0, z1, z2⟩ : _ ∧ _ ∧ _ := ⟨X3.2 0 _ rfl, X3.2 1 _ rfl, X3.2 2 _ rfl⟩
 obtain ⟨x2, x3⟩ : _ ∧ _ := ⟨X1 0 _ rfl, X1 1 _ rfl⟩
 obtain ⟨x4, x5, x6⟩ : _ ∧ _ ∧ _ := ⟨X2 0 _ rfl, X2 1 _ rfl, X2 2 _ rfl⟩
 clear X0 X1 X2
 cases b3
 ·have F := dH (AnsN.bad (W := (((w3.setCell ⟨w.heap.size + 1 + 1 + 1, 0, none⟩ (.int .i64 0)).setCell ⟨w.heap.size + 1 + 1 + 1, 1, none⟩ (.int .i64 0)).setCell ⟨w.heap.size + 1 + 1 + 1, 2, none⟩ (.slice none 0 0))) (dU EB (fun h => by have := h3.2 ((dU PD).1 h).2.1; cases this)) (((B3.setCell (p := ⟨w.heap.size + 1 + 1 + 1, 0, none⟩) (by simp only; omega) (.int .i64 0)).setCell (p := ⟨w.heap.size + 1 + 1 + 1, 1, none⟩) (by simp only; omega) (.int .i64 0)).setCell (p := ⟨w.heap.size + 1 + 1 + 1, 2, none⟩) (by simp only; omega) (.slice none 0 0)))
  have YY := dH (((X3.put 0 (.int .i64 0)).put 1 (.int .i64 0)).put 2 (.slice none 0 0))
  obtain ⟨z0, f0⟩ := z0
  obtain ⟨z1, f1⟩ := z1
  obtain ⟨z2, f2⟩ := z2
  clear X3 CC CT CB CE HRS HNS HNL EB EW E1 E2 E3 E4 E5 ER PD PT PW PL PR HTE h3
  go_wp2_with fail
  generalize (((w3.setCell ⟨w.heap.size + 1 + 1 + 1, 0, none⟩ (.int .i64 0)).setCell ⟨w.heap.size + 1 + 1 + 1, 1, none⟩ (.int .i64 0)).setCell ⟨w.heap.size + 1 + 1 + 1, 2, none⟩ (.slice none 0 0)) = V at *
  have q0 := ((dU YY).2 0 _ rfl).1
  have q1 := ((dU YY).2 1 _ rfl).1
  have q2 := ((dU YY).2 2 _ rfl).1
  exact bodyPost_ret (v := .tuple #[.agg #[.int .i64 0, .int .i64 0, .slice none 0 0], .int .i64 1]) (by simp [results, Tryz.results15, go_sem, q0, q1, q2]) rfl (dU F)
 have H3 := dH (h3.1 rfl)
 clear h3
 cases nb
 ·have F := dH (AnsN.bad (W := (((w3.setCell ⟨w.heap.size + 1 + 1 + 1, 0, none⟩ (.int .i64 0)).setCell ⟨w.heap.size + 1 + 1 + 1, 1, none⟩ (.int .i64 0)).setCell ⟨w.heap.size + 1 + 1 + 1, 2, none⟩ (.slice none 0 0))) (dU EB (fun h => by have := (dU H1).2 ((dU PD).1 h).2.2; cases this)) (((B3.setCell (p := ⟨w.heap.size + 1 + 1 + 1, 0, none⟩) (by simp only; omega) (.int .i64 0)).setCell (p := ⟨w.heap.size + 1 + 1 + 1, 1, none⟩) (by simp only; omega) (.int .i64 0)).setCell (p := ⟨w.heap.size + 1 + 1 + 1, 2, none⟩) (by simp only; omega) (.slice none 0 0)))
  have YY := dH (((X3.put 0 (.int .i64 0)).put 1 (.int .i64 0)).put 2 (.slice none 0 0))
  obtain ⟨z0, f0⟩ := z0
  obtain ⟨z1, f1⟩ := z1
  obtain ⟨z2, f2⟩ := z2
  clear X3 CC CT CB CE HRS HNS HNL EB EW E1 E2 E3 E4 E5 ER PD PT PW PL PR HTE 
  go_wp2_with fail
  generalize (((w3.setCell ⟨w.heap.size + 1 + 1 + 1, 0, none⟩ (.int .i64 0)).setCell ⟨w.heap.size + 1 + 1 + 1, 1, none⟩ (.int .i64 0)).setCell ⟨w.heap.size + 1 + 1 + 1, 2, none⟩ (.slice none 0 0)) = V at *
  have q0 := ((dU YY).2 0 _ rfl).1
  have q1 := ((dU YY).2 1 _ rfl).1
  have q2 := ((dU YY).2 2 _ rfl).1
  exact bodyPost_ret (v := .tuple #[.agg #[.int .i64 0, .int .i64 0, .slice none 0 0], .int .i64 1]) (by simp [results, Tryz.results15, go_sem, q0, q1, q2]) rfl (dU F)
 have HP := dH ((dU PD).2 ⟨dU H2, dU H3, (dU H1).1 rfl⟩)
 obtain ⟨⟨r0, r1⟩, r2, r3⟩ := dU PR (dU H3)
 obtain ⟨k, rfl⟩ : ∃ k : Nat, y0 = (k : Int) + 1 := ⟨(y0 - 1).toNat, by omega⟩
 have p0 : (0 : Int) ≤ (k : Int) + 1 := by omega
 have p1 : (k : Int) + 1 ≤ 1000 := by omega
 have p2 : 0 ≤ y1 := by omega
 have p3 : y1 ≤ 1000 := by omega
 have CP := dH fun W => l1Place_in ((k : Int) + 1) y1 p0 p1 p2 p3 W
 clear p0 p1 p2 p3
 have E9 : Hid (∀ (W : World) (m' : Rr) (cd : Int) (a : Option Addr) (c n base : Nat), M = (m', cd) → n = m'.out.length → ApV W base (.slice a n c) m'.out → w0.heap.size ≤ base → Below w.heap.size w W → AnsN w M (.returned (.tuple #[.agg #[.int .i64 m'.epoch, .int .i64 m'.off, .slice a n c], .int .i64 cd])) (((W.setCell ⟨w.heap.size + 1 + 1 + 1, 0, none⟩ (.int .i64 m'.epoch)).setCell ⟨w.heap.size + 1 + 1 + 1, 1, none⟩ (.int .i64 m'.off)).setCell ⟨w.heap.size + 1 + 1 + 1, 2, none⟩ (.slice a n c))) := fun W m' cd a c n base e1 e2 h hB bel => AnsN.mk e1 e2 (((ApR.far elemEvent (ApR.far elemEvent (ApR.far elemEvent h (b := w.heap.size + 1 + 1 + 1) (o' := 0) (by omega) (.int .i64 m'.epoch)) (b := w.heap.size + 1 + 1 + 1) (o' := 1) (by omega) (.int .i64 m'.off)) (b := w.heap.size + 1 + 1 + 1) (o' := 2) (by omega) (.slice a n c)))) (by omega) (((bel.setCell (p := ⟨w.heap.size + 1 + 1 + 1, 0, none⟩) (by simp only; omega) _).setCell (p := ⟨w.heap.size + 1 + 1 + 1, 1, none⟩) (by simp only; omega) _).setCell (p := ⟨w.heap.size + 1 + 1 + 1, 2, none⟩) (by simp only; omega) _)
 have Q9 : Hid (∀ (W : World) (a b c : Value), Below w0.heap.size w0 W → (((W.setCell ⟨w.heap.size + 1 + 1 + 1, 0, none⟩ a).setCell ⟨w.heap.size + 1 + 1 + 1, 1, none⟩ b).setCell ⟨w.heap.size + 1 + 1 + 1, 2, none⟩ c).cell? ⟨w.heap.size + 1 + 1 + 1, 0, none⟩ = some a ∧ (((W.setCell ⟨w.heap.size + 1 + 1 + 1, 0, none⟩ a).setCell ⟨w.heap.size + 1 + 1 + 1, 1, none⟩ b).setCell ⟨w.heap.size + 1 + 1 + 1, 2, none⟩ c).cell? ⟨w.heap.size + 1 + 1 + 1, 1, none⟩ = some b ∧ (((W.setCell ⟨w.heap.size + 1 + 1 + 1, 0, none⟩ a).setCell ⟨w.heap.size + 1 + 1 + 1, 1, none⟩ b).setCell ⟨w.heap.size + 1 + 1 + 1, 2, none⟩ c).cell? ⟨w.heap.size + 1 + 1 + 1, 2, none⟩ = some c) := fun W a b c hW => by
  have y := (((dU HB W hW).2.2.2.put 0 a).put 1 b).put 2 c
  exact ⟨(y.2 0 _ rfl).1, (y.2 1 _ rfl).1, (y.2 2 _ rfl).1⟩
 obtain ⟨z0, f0⟩ := z0
 obtain ⟨z1, f1⟩ := z1
 obtain ⟨z2, f2⟩ := z2
 clear X3 EB PD PR H1 H3 z0 z1 z2 f0 f1 f2
 by_cases hE : (rs.length : Int) < (k : Int) + 1
 ·have HM := dH (dU EW (dU HP) ((dU PW).2 (.inl hE)))
  clear x2 x3 x4 x5 x6
  obtain ⟨X0, X1, X2, X3⟩ := dU HB w3 b03
  obtain ⟨x2, x3⟩ : _ ∧ _ := ⟨X1 0 _ rfl, X1 1 _ rfl⟩
  clear X0 X1 X2 X3
  obtain ⟨X0, X1, X2, X3⟩ := dU HB w3 b03
  obtain ⟨x4, x5, x6⟩ : _ ∧ _ ∧ _ := ⟨X2 0 _ rfl, X2 1 _ rfl, X2 2 _ rfl⟩
  clear X0 X1 X2 X3
  go_wp2_with fail
  refine (dU CC _ B3).mono ?_
  rintro e w9 ⟨a9, c9, rfl, O9, bl9⟩
  have F := dH (dU E9 w9 ⟨(k : Int) + 1, y1, ms⟩ 2 a9 c9 ms.length _ (dU HM) rfl O9 (b03).size (bT B3 bl9))
  dsimp only at F
  have b09 := bT b03 bl9
  obtain ⟨⟨z0, f0⟩, ⟨z1, f1⟩, ⟨z2, f2⟩⟩ : _ ∧ _ ∧ _ := ⟨(dU HB w9 b09).2.2.2.2 0 _ rfl, (dU HB w9 b09).2.2.2.2 1 _ rfl, (dU HB w9 b09).2.2.2.2 2 _ rfl⟩
  obtain ⟨q0, q1, q2⟩ := dU Q9 w9 (.int .i64 ((k : Int) + 1)) (.int .i64 y1) (.slice a9 ms.length c9) b09
  clear O9 bl9 CC CT CB CE HRS HNS HNL EW E1 E2 E3 E4 E5 ER PT PW PL HTE E9 Q9 HB CP x4 x5 x6
  go_wp2_with fail
  generalize (((w9.setCell ⟨w.heap.size + 1 + 1 + 1, 0, none⟩ (.int .i64 ((k : Int) + 1))).setCell ⟨w.heap.size + 1 + 1 + 1, 1, none⟩ (.int .i64 y1)).setCell ⟨w.heap.size + 1 + 1 + 1, 2, none⟩ (.slice a9 ms.length c9)) = V at *
  exact bodyPost_ret (v := .tuple #[.agg #[.int .i64 ((k : Int) + 1), .int .i64 y1, .slice a9 ms.length c9], .int .i64 2]) (by simp [results, Tryz.results15, go_sem, q0, q1, q2]) rfl (dU F)
 have hE' : k < rs.length := by omega
 by_cases hO : ms.length = 120
 ·have HM := dH (dU EW (dU HP) ((dU PW).2 (.inr hO)))
  have hO' : ((ms.length : Int) == 120) = true := by simp; omega
  clear x4 x5 x6 hO
  obtain ⟨X0, X1, X2, X3⟩ := dU HB w3 b03
  obtain ⟨x4, x5, x6⟩ : _ ∧ _ ∧ _ := ⟨X2 0 _ rfl, X2 1 _ rfl, X2 2 _ rfl⟩
  clear X0 X1 X2 X3
  go_wp2_with fail
  refine (dU CC _ B3).mono ?_
  rintro e w9 ⟨a9, c9, rfl, O9, bl9⟩
  have F := dH (dU E9 w9 ⟨(k : Int) + 1, y1, ms⟩ 2 a9 c9 ms.length _ (dU HM) rfl O9 (b03).size (bT B3 bl9))
  dsimp only at F
  have b09 := bT b03 bl9
  obtain ⟨⟨z0, f0⟩, ⟨z1, f1⟩, ⟨z2, f2⟩⟩ : _ ∧ _ ∧ _ := ⟨(dU HB w9 b09).2.2.2.2 0 _ rfl, (dU HB w9 b09).2.2.2.2 1 _ rfl, (dU HB w9 b09).2.2.2.2 2 _ rfl⟩
  obtain ⟨q0, q1, q2⟩ := dU Q9 w9 (.int .i64 ((k : Int) + 1)) (.int .i64 y1) (.slice a9 ms.length c9) b09
  clear O9 bl9 CC CT CB CE HRS HNS HNL EW E1 E2 E3 E4 E5 ER PT PW PL HTE E9 Q9 HB CP x4 x5 x6
  go_wp2_with fail
  generalize (((w9.setCell ⟨w.heap.size + 1 + 1 + 1, 0, none⟩ (.int .i64 ((k : Int) + 1))).setCell ⟨w.heap.size + 1 + 1 + 1, 1, none⟩ (.int .i64 y1)).setCell ⟨w.heap.size + 1 + 1 + 1, 2, none⟩ (.slice a9 ms.length c9)) = V at *
  exact bodyPost_ret (v := .tuple #[.agg #[.int .i64 ((k : Int) + 1), .int .i64 y1, .slice a9 ms.length c9], .int .i64 2]) (by simp [results, Tryz.results15, go_sem, q0, q1, q2]) rfl (dU F)
 have HW : Hid (¬ nxW ⟨ers, gt⟩ ⟨(k : Int) + 1, y1, ms⟩) := fun h => by
  rcases (dU PW).1 h with h | h
  ·exact hE h
  ·exact hO h
 have hO' : ((ms.length : Int) == 120) = false := by simp; omega
 obtain ⟨gb, go, rfl, hge⟩ := (dU HRS w3 B3).era hE'
 obtain ⟨g0, g1, g2⟩ := hge k hE'
 have e5 := dU ER k hE' rfl
 rw [e5] at E2 E3 E4 E5
 have HNk := dH fun W (hb : Below w.heap.size w W) => dU HNS W hb k hE'
 have hnl := dU HNL k hE'
 generalize rs[k] = er at *
 obtain ⟨ea, ec, en, ecl, el⟩ := er
 simp only [Sv] at HNk
 simp only at hnl g0 g1 g2 E2 E3 E4 E5
 clear e5 ER HNS HNL HRS hge EW PW hE hO
 have t1 : IntKind.i64.wrap ((k : Int) + 1 - 1) = (k : Int) := by rw [IntKind.wrap_i64]; omega
 have t3 : (k : Int) < (rs.length : Int) := by omega
 have EA := ba w3 (.cells #[.slice ea en.length ec, .bool ecl, .int .i64 el] 98)
 have XE := Bx.new w3 [.slice ea en.length ec, .bool ecl, .int .i64 el] 98
 have b04 := bT b03 EA
 have b14 := bT b13 EA
 have B4 := bT B3 EA
 obtain ⟨X0, X1, X2, X3⟩ := dU HB _ b04
 obtain ⟨v2, v3⟩ : _ ∧ _ := ⟨X1 0 _ rfl, X1 1 _ rfl⟩
 obtain ⟨v4, v5, v6⟩ : _ ∧ _ ∧ _ := ⟨X2 0 _ rfl, X2 1 _ rfl, X2 2 _ rfl⟩
 clear X0 X1 X2 X3 EA
 go_wp2_with fail
 generalize hbE : w3.heap.size = bE at *
 generalize w3.alloc (.cells #[.slice ea en.length ec, .bool ecl, .int .i64 el] 98) = w4 at *
 refine (dU CP _).mono ?_
 rintro e w4' ⟨rfl, rfl⟩
 have HXE := dH fun W (hb : Below w4.heap.size w4 W) => XE.below hb
 clear CP x2 x3 x4 x5 x6 g0 g1 g2 XE
 have bd : Below w4.heap.size w4 w4.drew := (Below.refl _ _).drew
 have t2 : ((k : Int) + 1 + 1) ≤ 100 := by omega
 have PG : Hid (∀ W, Below w4.heap.size w4 W → W.cell? ⟨w.heap.size + 1 + 1, 0, none⟩ = some (.int .i64 ((k : Int) + 1)) ∧ W.cell? ⟨w.heap.size + 1 + 1, 1, none⟩ = some (.int .i64 y1) ∧ W.cell? ⟨w.heap.size + 1 + 1, 2, none⟩ = some (.slice ra ms.length rc) ∧ W.cell? ⟨w.heap.size + 1, 1, none⟩ = some (.int .i64 gt)) := fun W hW => by
  obtain ⟨X0, X1, X2, X3⟩ := dU HB W (bT b04 hW)
  exact ⟨X2 0 _ rfl, X2 1 _ rfl, X2 2 _ rfl, X1 1 _ rfl⟩
 have PK : Hid (∀ (W : World) (a b c : Value) (u : Nat) (o : Nat) (v : Value), u ≠ w.heap.size + 1 + 1 + 1 → W.cell? ⟨u, o, none⟩ = some v → (((W.setCell ⟨w.heap.size + 1 + 1 + 1, 0, none⟩ a).setCell ⟨w.heap.size + 1 + 1 + 1, 1, none⟩ b).setCell ⟨w.heap.size + 1 + 1 + 1, 2, none⟩ c).cell? ⟨u, o, none⟩ = some v) := fun W a b c u o v hu h => sO (sO (sO h (.inl hu)) (.inl hu)) (.inl hu)
 have FZ : Hid (∀ W, Below w4.heap.size w4 W → (W.cell? ⟨w.heap.size + 1 + 1 + 1, 0, none⟩ = some (.int .i64 0) ∧ W.frozen? ⟨w.heap.size + 1 + 1 + 1, 0, none⟩ = false) ∧ (W.cell? ⟨w.heap.size + 1 + 1 + 1, 1, none⟩ = some (.int .i64 0) ∧ W.frozen? ⟨w.heap.size + 1 + 1 + 1, 1, none⟩ = false) ∧ (W.cell? ⟨w.heap.size + 1 + 1 + 1, 2, none⟩ = some (.slice none 0 0) ∧ W.frozen? ⟨w.heap.size + 1 + 1 + 1, 2, none⟩ = false)) := fun W hW => by
  obtain ⟨X0, X1, X2, X3⟩ := dU HB W (bT b04 hW)
  exact ⟨X3.2 0 _ rfl, X3.2 1 _ rfl, X3.2 2 _ rfl⟩
 have hne1 : w.heap.size + 1 + 1 ≠ w.heap.size + 1 + 1 + 1 := by omega
 have hne2 : w.heap.size + 1 ≠ w.heap.size + 1 + 1 + 1 := by omega
 have hne3 : bE ≠ w.heap.size + 1 + 1 + 1 := by have := b03.size; omega
 have HNE := dH (And.intro hne1 (And.intro hne2 hne3))
 clear hne1 hne2 hne3
 by_cases hT : 4294967296 * ((k : Int) + 1) + y1 ≤ gt
 ·have hpl := dU PT (dU H2) (by omega)
  have HM : Hid (M = ((⟨gt / 4294967296, gt % 4294967296 + 1, ms ++ [⟨5, gt, ⟨#[]⟩⟩]⟩ : Rr), (0 : Int))) := dU E1 (dU HP) (dU HW) hT
  have C1 := dH fun W => specEpoch_yes gt hpl W
  have C2 := dH fun W => specOff_yes gt hpl W
  have C3 := dH fun W (hW : Below w4.heap.size w4 W) => dU CT W (bT B4 hW) ⟨5, gt, ⟨#[]⟩⟩ (gt / 4294967296) (gt % 4294967296 + 1)
  simp only at C3
  have tW : IntKind.i64.wrap (gt % 4294967296 + 1) = gt % 4294967296 + 1 := by rw [IntKind.wrap_i64]; omega
  have F := dH fun (W : World) (hW : Below w4.heap.size w4 W) (a : Option Addr) (c base : Nat) (O : ApV W base (.slice a (ms.length + 1) c) (ms ++ [⟨5, gt, ⟨#[]⟩⟩])) (hB : w0.heap.size ≤ base) => dU E9 W ⟨gt / 4294967296, gt % 4294967296 + 1, ms ++ [⟨5, gt, ⟨#[]⟩⟩]⟩ 0 a c (ms.length + 1) base (dU HM) (by simp) O hB (bT B4 hW)
  dsimp only at F
  have hw04 : w0.heap.size ≤ w4.drew.heap.size := Nat.le_trans b04.size bd.size
  clear hpl CT CC CB CE E1 E2 E3 E4 E5 E9 PT PL HTE HN HLN HNk H2 HP HW t1 t3 HXE HM HB
  go_wp2_with fail
  go_region_held3 (fun W => W.cell? ⟨w.heap.size + 1 + 1, 0, none⟩ = some (.int .i64 ((k : Int) + 1)) ∧ W.cell? ⟨w.heap.size + 1 + 1, 1, none⟩ = some (.int .i64 y1) ∧ W.cell? ⟨w.heap.size + 1 + 1, 2, none⟩ = some (.slice ra ms.length rc) ∧ W.cell? ⟨w.heap.size + 1, 1, none⟩ = some (.int .i64 gt)) (first | exact dU PG _ b5' | exact dU PG _ bd | exact ⟨dU PK _ _ _ _ _ _ _ (dU HNE).1 (dU PG _ b5').1, dU PK _ _ _ _ _ _ _ (dU HNE).1 (dU PG _ b5').2.1, dU PK _ _ _ _ _ _ _ (dU HNE).1 (dU PG _ b5').2.2.1, dU PK _ _ _ _ _ _ _ (dU HNE).2.1 (dU PG _ b5').2.2.2⟩ | go_keep)
   (first
    | (go_at_call 35; refine (dU C1 _).mono ?_; rintro e w5 ⟨rfl, rfl⟩)
    | (go_at_call 28; refine (dU C2 _).mono ?_; rintro e w5 ⟨rfl, rfl⟩)
    | (go_at_call 54; refine (dU C3 _ bd).mono ?_; rintro e w5 ⟨a5, c5, rfl, O5, b5⟩; have b5' := bT bd b5; have F5 := dH (dU F _ b5' _ _ _ O5 hw04); obtain ⟨⟨z0, f0⟩, ⟨z1, f1⟩, ⟨z2, f2⟩⟩ := dU FZ _ b5'; clear O5 b5))
  all_goals
   obtain ⟨q0, q1, q2⟩ := dU Q9 w5 (.int .i64 (gt / 4294967296)) (.int .i64 (gt % 4294967296 + 1)) (.slice a5 (ms.length + 1) c5) (bT b04 b5')
   clear PG PK FZ Q9
   go_wp2_with fail
   generalize (((w5.setCell ⟨w.heap.size + 1 + 1 + 1, 0, none⟩ (.int .i64 (gt / 4294967296))).setCell ⟨w.heap.size + 1 + 1 + 1, 1, none⟩ (.int .i64 (gt % 4294967296 + 1))).setCell ⟨w.heap.size + 1 + 1 + 1, 2, none⟩ (.slice a5 (ms.length + 1) c5)) = V at *
   exact bodyPost_ret (v := .tuple #[.agg #[.int .i64 (gt / 4294967296), .int .i64 (gt % 4294967296 + 1), .slice a5 (ms.length + 1) c5], .int .i64 0]) (by simp [results, Tryz.results15, go_sem, q0, q1, q2]) rfl (dU F5)
 have HT : Hid (¬ rrPl ⟨(k : Int) + 1, y1, ms⟩ ≤ gt) := hT
 have HT2 : Hid (gt < rrPl ⟨(k : Int) + 1, y1, ms⟩) := Int.not_le.1 hT
 obtain ⟨u0, u1, u2⟩ : _ ∧ _ ∧ _ := ⟨dU HXE w4 (Below.refl _ _) 0 _ rfl, dU HXE w4 (Below.refl _ _) 1 _ rfl, dU HXE w4 (Below.refl _ _) 2 _ rfl⟩
 clear E1 PT PL HTE H2
 cases ecl
 ·by_cases hS : sure < y1
  ·have HM := dH (dU E3 (dU HP) (dU HW) (by first | exact dU HT | exact dU HT2) (show ¬ (false = true ∧ el < y1) from fun h => by cases h.1) (.inl ⟨rfl, hS⟩))
   go_wp2_with fail
   refine (dU CC _ B4).mono ?_
   rintro e w9 ⟨a9, c9, rfl, O9, bl9⟩
   have F := dH (dU E9 w9 ⟨(k : Int) + 1, y1, ms⟩ 2 a9 c9 ms.length _ (dU HM) rfl O9 b04.size (bT B4 bl9))
   dsimp only at F
   have b09 := bT b04 bl9
   obtain ⟨⟨z0, f0⟩, ⟨z1, f1⟩, ⟨z2, f2⟩⟩ := dU FZ w9 bl9
   obtain ⟨q0, q1, q2⟩ := dU Q9 w9 (.int .i64 ((k : Int) + 1)) (.int .i64 y1) (.slice a9 ms.length c9) b09
   clear O9 bl9 CC CT CB CE E2 E3 E4 E5 E9 Q9 HB HN HLN HNk HP HW PG PK FZ HNE HXE v2 v3 v4 v5 v6 u0 u1 u2
   go_wp2_with fail
   generalize (((w9.setCell ⟨w.heap.size + 1 + 1 + 1, 0, none⟩ (.int .i64 ((k : Int) + 1))).setCell ⟨w.heap.size + 1 + 1 + 1, 1, none⟩ (.int .i64 y1)).setCell ⟨w.heap.size + 1 + 1 + 1, 2, none⟩ (.slice a9 ms.length c9)) = V at *
   exact bodyPost_ret (v := .tuple #[.agg #[.int .i64 ((k : Int) + 1), .int .i64 y1, .slice a9 ms.length c9], .int .i64 2]) (by simp [results, Tryz.results15, go_sem, q0, q1, q2]) rfl (dU F)
  by_cases h6 : 60 < y1
  ·have HM := dH (dU E3 (dU HP) (dU HW) (by first | exact dU HT | exact dU HT2) (show ¬ (false = true ∧ el < y1) from fun h => by cases h.1) (.inr h6))
   go_wp2_with fail
   refine (dU CC _ B4).mono ?_
   rintro e w9 ⟨a9, c9, rfl, O9, bl9⟩
   have F := dH (dU E9 w9 ⟨(k : Int) + 1, y1, ms⟩ 2 a9 c9 ms.length _ (dU HM) rfl O9 b04.size (bT B4 bl9))
   dsimp only at F
   have b09 := bT b04 bl9
   obtain ⟨⟨z0, f0⟩, ⟨z1, f1⟩, ⟨z2, f2⟩⟩ := dU FZ w9 bl9
   obtain ⟨q0, q1, q2⟩ := dU Q9 w9 (.int .i64 ((k : Int) + 1)) (.int .i64 y1) (.slice a9 ms.length c9) b09
   clear O9 bl9 CC CT CB CE E2 E3 E4 E5 E9 Q9 HB HN HLN HNk HP HW PG PK FZ HNE HXE v2 v3 v4 v5 v6 u0 u1 u2
   go_wp2_with fail
   generalize (((w9.setCell ⟨w.heap.size + 1 + 1 + 1, 0, none⟩ (.int .i64 ((k : Int) + 1))).setCell ⟨w.heap.size + 1 + 1 + 1, 1, none⟩ (.int .i64 y1)).setCell ⟨w.heap.size + 1 + 1 + 1, 2, none⟩ (.slice a9 ms.length c9)) = V at *
   exact bodyPost_ret (v := .tuple #[.agg #[.int .i64 ((k : Int) + 1), .int .i64 y1, .slice a9 ms.length c9], .int .i64 2]) (by simp [results, Tryz.results15, go_sem, q0, q1, q2]) rfl (dU F)
  have HL2 := dH (show ¬ (false = true ∧ el < y1) from fun h => by cases h.1)
  have HS3 := dH (show ¬ ((false = false ∧ sure < y1) ∨ 60 < y1) from fun h => h.elim (fun h => hS h.2) h6)
  have PC : Hid (∀ W, Below w4.heap.size w4 W → (W.cell? ⟨w.heap.size, 0, none⟩ = some (.slice ca ds.length cc) ∧ W.cell? ⟨w.heap.size, 1, none⟩ = some (.int .i64 cop)) ∧ W.cell? ⟨bE, 0, none⟩ = some (.slice ea en.length ec)) := fun W hW => by
   obtain ⟨X0, X1, X2, X3⟩ := dU HB W (bT b04 hW)
   exact ⟨⟨X0 0 _ rfl, X0 1 _ rfl⟩, dU HXE W hW 0 _ rfl⟩
  have CL := dH (l9Both_any (.slice na nl nc) (.slice ea en.length ec) (l.map Aw.node) en w4.drew (dU HN _ (bT b14 bd)) (dU HNk _ (bT B4 bd)) (by rw [List.length_map]; omega))
  have CQ := dH fun (W : World) (hW : Below w4.heap.size w4 W) (o : Value) (ho : Ns W o (bothL (l.map Aw.node) en)) => dU CE W (bT B4 hW) (.slice ea en.length ec) o en (bothL (l.map Aw.node) en) (dU HNk _ (bT B4 hW)) ho (by omega) (by have := bothL_len (l.map Aw.node) en; rw [List.length_map] at this; omega)
  clear CE HN HLN E2 E3
  go_wp2_with fail
  go_region_held3 (fun W => (W.cell? ⟨w.heap.size, 0, none⟩ = some (.slice ca ds.length cc) ∧ W.cell? ⟨w.heap.size, 1, none⟩ = some (.int .i64 cop)) ∧ W.cell? ⟨bE, 0, none⟩ = some (.slice ea en.length ec)) (first | exact dU PC _ b6' | exact dU PC _ b5' | exact dU PC _ bd | go_keep)
   (first
    | (go_at_call 56; refine (dU CL).mono ?_; rintro e w5 ⟨⟨o5, rfl, O5⟩, b5⟩; have b5' := bT bd b5; have HO5 := dH O5.bs; clear O5 b5)
    | (go_at_call 55; refine (dU CQ _ b5' o5 (dU HO5)).mono ?_; rintro e w6 ⟨⟨b6, rfl, h6⟩, bl6⟩; have b6' := bT b5' bl6; clear bl6))
  all_goals
   clear CL CQ PC HO5 b5' v2 v3 v4 v5 v6 u0 u1 u2
   have b06 := bT b04 b6'
   have B6 := bT B4 b6'
   obtain ⟨x4, x5, x6, x3⟩ := dU PG w6 b6'
   cases b6
   ·have HM := dH (dU E4 (dU HP) (dU HW) (by first | exact dU HT | exact dU HT2) (dU HL2) (dU HS3) (fun h => by have := h6.2 h; cases this))
    clear h6 E4 E5
    go_wp2_with fail
    refine (dU CC _ B6).mono ?_
    rintro e w9 ⟨a9, c9, rfl, O9, bl9⟩
    have F := dH (dU E9 w9 ⟨(k : Int) + 1, y1, ms⟩ 3 a9 c9 ms.length _ (dU HM) rfl O9 b06.size (bT B6 bl9))
    dsimp only at F
    have b09 := bT b06 bl9
    obtain ⟨⟨z0, f0⟩, ⟨z1, f1⟩, ⟨z2, f2⟩⟩ := dU FZ w9 (bT b6' bl9)
    obtain ⟨q0, q1, q2⟩ := dU Q9 w9 (.int .i64 ((k : Int) + 1)) (.int .i64 y1) (.slice a9 ms.length c9) b09
    clear O9 bl9 CC CT CB E9 Q9 HB HNk HP HW PG PK FZ HNE HXE HM x3 x4 x5 x6
    go_wp2_with fail
    generalize (((w9.setCell ⟨w.heap.size + 1 + 1 + 1, 0, none⟩ (.int .i64 ((k : Int) + 1))).setCell ⟨w.heap.size + 1 + 1 + 1, 1, none⟩ (.int .i64 y1)).setCell ⟨w.heap.size + 1 + 1 + 1, 2, none⟩ (.slice a9 ms.length c9)) = V at *
    exact bodyPost_ret (v := .tuple #[.agg #[.int .i64 ((k : Int) + 1), .int .i64 y1, .slice a9 ms.length c9], .int .i64 3]) (by simp [results, Tryz.results15, go_sem, q0, q1, q2]) rfl (dU F)
   ·have HM := dH (dU E5 (dU HP) (dU HW) (by first | exact dU HT | exact dU HT2) (dU HL2) (dU HS3) (h6.1 rfl))
    have bd6 : Below w6.heap.size w6 w6.drew := (Below.refl _ _).drew
    have CB1 := dH (dU CB w6.drew (bT B6 bd6) (.slice ea en.length ec) en (4294967296 * ((k : Int) + 1) + y1) (dU HNk _ (bT B6 bd6)))
    have epl : rrPl ⟨(k : Int) + 1, y1, ms⟩ = 4294967296 * ((k : Int) + 1) + y1 := rfl
    rw [epl] at HM
    generalize evO (4294967296 * ((k : Int) + 1) + y1) (bestO (goodL en (4294967296 * ((k : Int) + 1) + y1) l)) = ev at *
    obtain ⟨k0, k1, k2⟩ := ev
    unfold Ev.val at CB1
    simp only at CB1
    have HM2 : Hid (M = ((⟨(k : Int) + 1, y1 + 1, ms ++ [⟨k0, k1, k2⟩]⟩ : Rr), (0 : Int))) := dU HM
    have C3 := dH fun W (hW : Below w6.heap.size w6 W) => dU CT W (bT B6 hW) ⟨k0, k1, k2⟩ ((k : Int) + 1) (y1 + 1)
    simp only at C3
    have tW : IntKind.i64.wrap (y1 + 1) = y1 + 1 := by rw [IntKind.wrap_i64]; omega
    have PR6 : Hid (∀ W, Below w6.heap.size w6 W → (W.cell? ⟨w.heap.size + 1 + 1, 0, none⟩ = some (.int .i64 ((k : Int) + 1)) ∧ W.cell? ⟨w.heap.size + 1 + 1, 1, none⟩ = some (.int .i64 y1) ∧ W.cell? ⟨w.heap.size + 1 + 1, 2, none⟩ = some (.slice ra ms.length rc)) ∧ W.cell? ⟨bE, 0, none⟩ = some (.slice ea en.length ec)) := fun W hW => by
     have q := dU PG W (bT b6' hW)
     exact ⟨⟨q.1, q.2.1, q.2.2.1⟩, dU HXE W (bT b6' hW) 0 _ rfl⟩
    have F := dH fun (W : World) (hW : Below w6.heap.size w6 W) (a : Option Addr) (c base : Nat) (O : ApV W base (.slice a (ms.length + 1) c) (ms ++ [⟨k0, k1, k2⟩])) (hB : w0.heap.size ≤ base) => dU E9 W ⟨(k : Int) + 1, y1 + 1, ms ++ [⟨k0, k1, k2⟩]⟩ 0 a c (ms.length + 1) base (dU HM2) (by simp) O hB (bT B6 hW)
    dsimp only at F
    have FZ6 := dH fun W (hW : Below w6.heap.size w6 W) => dU FZ W (bT b6' hW)
    have hw06 := b06.size
    clear h6 E4 E5 CT CC CB HM HM2 HNk HP HW HT HT2 HL2 HS3 E9 HB epl PG HXE FZ
    go_wp2_with fail
    go_region_held3 (fun W => (W.cell? ⟨w.heap.size + 1 + 1, 0, none⟩ = some (.int .i64 ((k : Int) + 1)) ∧ W.cell? ⟨w.heap.size + 1 + 1, 1, none⟩ = some (.int .i64 y1) ∧ W.cell? ⟨w.heap.size + 1 + 1, 2, none⟩ = some (.slice ra ms.length rc)) ∧ W.cell? ⟨bE, 0, none⟩ = some (.slice ea en.length ec)) (first | exact dU PR6 _ b8' | exact dU PR6 _ b7' | exact dU PR6 _ bd6 | exact ⟨⟨dU PK _ _ _ _ _ _ _ (dU HNE).1 (dU PR6 _ b8').1.1, dU PK _ _ _ _ _ _ _ (dU HNE).1 (dU PR6 _ b8').1.2.1, dU PK _ _ _ _ _ _ _ (dU HNE).1 (dU PR6 _ b8').1.2.2⟩, dU PK _ _ _ _ _ _ _ (dU HNE).2.2 (dU PR6 _ b8').2⟩ | go_keep)
     (first
      | (go_at_call 57; refine (dU CB1).mono ?_; rintro e w7 ⟨rfl, b7⟩; have b7' := bT bd6 b7; clear b7)
      | (go_at_call 54; refine (dU C3 _ b7').mono ?_; rintro e w8 ⟨a5, c5, rfl, O5, b8⟩; have b8' := bT b7' b8; have F5 := dH (dU F _ b8' _ _ _ O5 (Nat.le_trans hw06 b7'.size)); obtain ⟨⟨z0, f0⟩, ⟨z1, f1⟩, ⟨z2, f2⟩⟩ := dU FZ6 _ b8'; clear O5 b8))
    all_goals
     obtain ⟨q0, q1, q2⟩ := dU Q9 w8 (.int .i64 ((k : Int) + 1)) (.int .i64 (y1 + 1)) (.slice a5 (ms.length + 1) c5) (bT b06 b8')
     clear PK FZ6 Q9 PR6 F
     go_wp2_with fail
     generalize (((w8.setCell ⟨w.heap.size + 1 + 1 + 1, 0, none⟩ (.int .i64 ((k : Int) + 1))).setCell ⟨w.heap.size + 1 + 1 + 1, 1, none⟩ (.int .i64 (y1 + 1))).setCell ⟨w.heap.size + 1 + 1 + 1, 2, none⟩ (.slice a5 (ms.length + 1) c5)) = V at *
     exact bodyPost_ret (v := .tuple #[.agg #[.int .i64 ((k : Int) + 1), .int .i64 (y1 + 1), .slice a5 (ms.length + 1) c5], .int .i64 0]) (by simp [results, Tryz.results15, go_sem, q0, q1, q2]) rfl (dU F5)
 ·by_cases hL : el < y1
  ·have HM : Hid (M = ((⟨(k : Int) + 1 + 1, 1, ms ++ [⟨4, (k : Int) + 1 + 1, ⟨#[]⟩⟩]⟩ : Rr), (0 : Int))) := dU E2 (dU HP) (dU HW) (by first | exact dU HT | exact dU HT2) ⟨rfl, hL⟩
   have C3 := dH (dU CT w4 B4 ⟨4, (k : Int) + 1 + 1, ⟨#[]⟩⟩ ((k : Int) + 1 + 1) 1)
   simp only at C3
   go_wp2_with fail
   refine (dU C3).mono ?_
   rintro e w9 ⟨a9, c9, rfl, O9, bl9⟩
   have F := dH (dU E9 w9 ⟨(k : Int) + 1 + 1, 1, ms ++ [⟨4, (k : Int) + 1 + 1, ⟨#[]⟩⟩]⟩ 0 a9 c9 (ms.length + 1) _ (dU HM) (by simp) O9 b04.size (bT B4 bl9))
   dsimp only at F
   have b09 := bT b04 bl9
   obtain ⟨⟨z0, f0⟩, ⟨z1, f1⟩, ⟨z2, f2⟩⟩ := dU FZ w9 bl9
   obtain ⟨q0, q1, q2⟩ := dU Q9 w9 (.int .i64 ((k : Int) + 1 + 1)) (.int .i64 1) (.slice a9 (ms.length + 1) c9) b09
   clear O9 bl9 CC CT CB CE E2 E3 E4 E5 E9 Q9 HB HN HLN HNk HP HW PG PK FZ HNE HXE v2 v3 v4 v5 v6 u0 u1 u2 C3 HM
   go_wp2_with fail
   generalize (((w9.setCell ⟨w.heap.size + 1 + 1 + 1, 0, none⟩ (.int .i64 ((k : Int) + 1 + 1))).setCell ⟨w.heap.size + 1 + 1 + 1, 1, none⟩ (.int .i64 1)).setCell ⟨w.heap.size + 1 + 1 + 1, 2, none⟩ (.slice a9 (ms.length + 1) c9)) = V at *
   exact bodyPost_ret (v := .tuple #[.agg #[.int .i64 ((k : Int) + 1 + 1), .int .i64 1, .slice a9 (ms.length + 1) c9], .int .i64 0]) (by simp [results, Tryz.results15, go_sem, q0, q1, q2]) rfl (dU F)
  by_cases h6 : 60 < y1
  ·have HM := dH (dU E3 (dU HP) (dU HW) (by first | exact dU HT | exact dU HT2) (show ¬ (true = true ∧ el < y1) from fun h => hL h.2) (.inr h6))
   go_wp2_with fail
   refine (dU CC _ B4).mono ?_
   rintro e w9 ⟨a9, c9, rfl, O9, bl9⟩
   have F := dH (dU E9 w9 ⟨(k : Int) + 1, y1, ms⟩ 2 a9 c9 ms.length _ (dU HM) rfl O9 b04.size (bT B4 bl9))
   dsimp only at F
   have b09 := bT b04 bl9
   obtain ⟨⟨z0, f0⟩, ⟨z1, f1⟩, ⟨z2, f2⟩⟩ := dU FZ w9 bl9
   obtain ⟨q0, q1, q2⟩ := dU Q9 w9 (.int .i64 ((k : Int) + 1)) (.int .i64 y1) (.slice a9 ms.length c9) b09
   clear O9 bl9 CC CT CB CE E2 E3 E4 E5 E9 Q9 HB HN HLN HNk HP HW PG PK FZ HNE HXE v2 v3 v4 v5 v6 u0 u1 u2
   go_wp2_with fail
   generalize (((w9.setCell ⟨w.heap.size + 1 + 1 + 1, 0, none⟩ (.int .i64 ((k : Int) + 1))).setCell ⟨w.heap.size + 1 + 1 + 1, 1, none⟩ (.int .i64 y1)).setCell ⟨w.heap.size + 1 + 1 + 1, 2, none⟩ (.slice a9 ms.length c9)) = V at *
   exact bodyPost_ret (v := .tuple #[.agg #[.int .i64 ((k : Int) + 1), .int .i64 y1, .slice a9 ms.length c9], .int .i64 2]) (by simp [results, Tryz.results15, go_sem, q0, q1, q2]) rfl (dU F)
  have HL2 := dH (show ¬ (true = true ∧ el < y1) from fun h => hL h.2)
  have HS3 := dH (show ¬ ((true = false ∧ sure < y1) ∨ 60 < y1) from fun h => h.elim (fun h => by cases h.1) h6)
  have PC : Hid (∀ W, Below w4.heap.size w4 W → (W.cell? ⟨w.heap.size, 0, none⟩ = some (.slice ca ds.length cc) ∧ W.cell? ⟨w.heap.size, 1, none⟩ = some (.int .i64 cop)) ∧ W.cell? ⟨bE, 0, none⟩ = some (.slice ea en.length ec)) := fun W hW => by
   obtain ⟨X0, X1, X2, X3⟩ := dU HB W (bT b04 hW)
   exact ⟨⟨X0 0 _ rfl, X0 1 _ rfl⟩, dU HXE W hW 0 _ rfl⟩
  have CL := dH (l9Both_any (.slice na nl nc) (.slice ea en.length ec) (l.map Aw.node) en w4.drew (dU HN _ (bT b14 bd)) (dU HNk _ (bT B4 bd)) (by rw [List.length_map]; omega))
  have CQ := dH fun (W : World) (hW : Below w4.heap.size w4 W) (o : Value) (ho : Ns W o (bothL (l.map Aw.node) en)) => dU CE W (bT B4 hW) (.slice ea en.length ec) o en (bothL (l.map Aw.node) en) (dU HNk _ (bT B4 hW)) ho (by omega) (by have := bothL_len (l.map Aw.node) en; rw [List.length_map] at this; omega)
  clear CE HN HLN E2 E3
  go_wp2_with fail
  go_region_held3 (fun W => (W.cell? ⟨w.heap.size, 0, none⟩ = some (.slice ca ds.length cc) ∧ W.cell? ⟨w.heap.size, 1, none⟩ = some (.int .i64 cop)) ∧ W.cell? ⟨bE, 0, none⟩ = some (.slice ea en.length ec)) (first | exact dU PC _ b6' | exact dU PC _ b5' | exact dU PC _ bd | go_keep)
   (first
    | (go_at_call 56; refine (dU CL).mono ?_; rintro e w5 ⟨⟨o5, rfl, O5⟩, b5⟩; have b5' := bT bd b5; have HO5 := dH O5.bs; clear O5 b5)
    | (go_at_call 55; refine (dU CQ _ b5' o5 (dU HO5)).mono ?_; rintro e w6 ⟨⟨b6, rfl, h6⟩, bl6⟩; have b6' := bT b5' bl6; clear bl6))
  all_goals
   clear CL CQ PC HO5 b5' v2 v3 v4 v5 v6 u0 u1 u2
   have b06 := bT b04 b6'
   have B6 := bT B4 b6'
   obtain ⟨x4, x5, x6, x3⟩ := dU PG w6 b6'
   cases b6
   ·have HM := dH (dU E4 (dU HP) (dU HW) (by first | exact dU HT | exact dU HT2) (dU HL2) (dU HS3) (fun h => by have := h6.2 h; cases this))
    clear h6 E4 E5
    go_wp2_with fail
    refine (dU CC _ B6).mono ?_
    rintro e w9 ⟨a9, c9, rfl, O9, bl9⟩
    have F := dH (dU E9 w9 ⟨(k : Int) + 1, y1, ms⟩ 3 a9 c9 ms.length _ (dU HM) rfl O9 b06.size (bT B6 bl9))
    dsimp only at F
    have b09 := bT b06 bl9
    obtain ⟨⟨z0, f0⟩, ⟨z1, f1⟩, ⟨z2, f2⟩⟩ := dU FZ w9 (bT b6' bl9)
    obtain ⟨q0, q1, q2⟩ := dU Q9 w9 (.int .i64 ((k : Int) + 1)) (.int .i64 y1) (.slice a9 ms.length c9) b09
    clear O9 bl9 CC CT CB E9 Q9 HB HNk HP HW PG PK FZ HNE HXE HM x3 x4 x5 x6
    go_wp2_with fail
    generalize (((w9.setCell ⟨w.heap.size + 1 + 1 + 1, 0, none⟩ (.int .i64 ((k : Int) + 1))).setCell ⟨w.heap.size + 1 + 1 + 1, 1, none⟩ (.int .i64 y1)).setCell ⟨w.heap.size + 1 + 1 + 1, 2, none⟩ (.slice a9 ms.length c9)) = V at *
    exact bodyPost_ret (v := .tuple #[.agg #[.int .i64 ((k : Int) + 1), .int .i64 y1, .slice a9 ms.length c9], .int .i64 3]) (by simp [results, Tryz.results15, go_sem, q0, q1, q2]) rfl (dU F)
   ·have HM := dH (dU E5 (dU HP) (dU HW) (by first | exact dU HT | exact dU HT2) (dU HL2) (dU HS3) (h6.1 rfl))
    have bd6 : Below w6.heap.size w6 w6.drew := (Below.refl _ _).drew
    have CB1 := dH (dU CB w6.drew (bT B6 bd6) (.slice ea en.length ec) en (4294967296 * ((k : Int) + 1) + y1) (dU HNk _ (bT B6 bd6)))
    have epl : rrPl ⟨(k : Int) + 1, y1, ms⟩ = 4294967296 * ((k : Int) + 1) + y1 := rfl
    rw [epl] at HM
    generalize evO (4294967296 * ((k : Int) + 1) + y1) (bestO (goodL en (4294967296 * ((k : Int) + 1) + y1) l)) = ev at *
    obtain ⟨k0, k1, k2⟩ := ev
    unfold Ev.val at CB1
    simp only at CB1
    have HM2 : Hid (M = ((⟨(k : Int) + 1, y1 + 1, ms ++ [⟨k0, k1, k2⟩]⟩ : Rr), (0 : Int))) := dU HM
    have C3 := dH fun W (hW : Below w6.heap.size w6 W) => dU CT W (bT B6 hW) ⟨k0, k1, k2⟩ ((k : Int) + 1) (y1 + 1)
    simp only at C3
    have tW : IntKind.i64.wrap (y1 + 1) = y1 + 1 := by rw [IntKind.wrap_i64]; omega
    have PR6 : Hid (∀ W, Below w6.heap.size w6 W → (W.cell? ⟨w.heap.size + 1 + 1, 0, none⟩ = some (.int .i64 ((k : Int) + 1)) ∧ W.cell? ⟨w.heap.size + 1 + 1, 1, none⟩ = some (.int .i64 y1) ∧ W.cell? ⟨w.heap.size + 1 + 1, 2, none⟩ = some (.slice ra ms.length rc)) ∧ W.cell? ⟨bE, 0, none⟩ = some (.slice ea en.length ec)) := fun W hW => by
     have q := dU PG W (bT b6' hW)
     exact ⟨⟨q.1, q.2.1, q.2.2.1⟩, dU HXE W (bT b6' hW) 0 _ rfl⟩
    have F := dH fun (W : World) (hW : Below w6.heap.size w6 W) (a : Option Addr) (c base : Nat) (O : ApV W base (.slice a (ms.length + 1) c) (ms ++ [⟨k0, k1, k2⟩])) (hB : w0.heap.size ≤ base) => dU E9 W ⟨(k : Int) + 1, y1 + 1, ms ++ [⟨k0, k1, k2⟩]⟩ 0 a c (ms.length + 1) base (dU HM2) (by simp) O hB (bT B6 hW)
    dsimp only at F
    have FZ6 := dH fun W (hW : Below w6.heap.size w6 W) => dU FZ W (bT b6' hW)
    have hw06 := b06.size
    clear h6 E4 E5 CT CC CB HM HM2 HNk HP HW HT HT2 HL2 HS3 E9 HB epl PG HXE FZ
    go_wp2_with fail
    go_region_held3 (fun W => (W.cell? ⟨w.heap.size + 1 + 1, 0, none⟩ = some (.int .i64 ((k : Int) + 1)) ∧ W.cell? ⟨w.heap.size + 1 + 1, 1, none⟩ = some (.int .i64 y1) ∧ W.cell? ⟨w.heap.size + 1 + 1, 2, none⟩ = some (.slice ra ms.length rc)) ∧ W.cell? ⟨bE, 0, none⟩ = some (.slice ea en.length ec)) (first | exact dU PR6 _ b8' | exact dU PR6 _ b7' | exact dU PR6 _ bd6 | exact ⟨⟨dU PK _ _ _ _ _ _ _ (dU HNE).1 (dU PR6 _ b8').1.1, dU PK _ _ _ _ _ _ _ (dU HNE).1 (dU PR6 _ b8').1.2.1, dU PK _ _ _ _ _ _ _ (dU HNE).1 (dU PR6 _ b8').1.2.2⟩, dU PK _ _ _ _ _ _ _ (dU HNE).2.2 (dU PR6 _ b8').2⟩ | go_keep)
     (first
      | (go_at_call 57; refine (dU CB1).mono ?_; rintro e w7 ⟨rfl, b7⟩; have b7' := bT bd6 b7; clear b7)
      | (go_at_call 54; refine (dU C3 _ b7').mono ?_; rintro e w8 ⟨a5, c5, rfl, O5, b8⟩; have b8' := bT b7' b8; have F5 := dH (dU F _ b8' _ _ _ O5 (Nat.le_trans hw06 b7'.size)); obtain ⟨⟨z0, f0⟩, ⟨z1, f1⟩, ⟨z2, f2⟩⟩ := dU FZ6 _ b8'; clear O5 b8))
    all_goals
     obtain ⟨q0, q1, q2⟩ := dU Q9 w8 (.int .i64 ((k : Int) + 1)) (.int .i64 (y1 + 1)) (.slice a5 (ms.length + 1) c5) (bT b06 b8')
     clear PK FZ6 Q9 PR6 F
     go_wp2_with fail
     generalize (((w8.setCell ⟨w.heap.size + 1 + 1 + 1, 0, none⟩ (.int .i64 ((k : Int) + 1))).setCell ⟨w.heap.size + 1 + 1 + 1, 1, none⟩ (.int .i64 (y1 + 1))).setCell ⟨w.heap.size + 1 + 1 + 1, 2, none⟩ (.slice a5 (ms.length + 1) c5)) = V at *
     exact bodyPost_ret (v := .tuple #[.agg #[.int .i64 ((k : Int) + 1), .int .i64 (y1 + 1), .slice a5 (ms.length + 1) c5], .int .i64 0]) (by simp [results, Tryz.results15, go_sem, q0, q1, q2]) rfl (dU F5)
end Go.Proofs.YtjkjmapibcfcdaaGreat
