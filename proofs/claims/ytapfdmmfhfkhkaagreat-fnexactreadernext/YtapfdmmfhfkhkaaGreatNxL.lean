/- impl's ReaderNext; both answers (printed by tools/mknxl.py). -/
import Derived.Test.YtapfdmmfhfkhkaaGreatNxK
import Derived.Test.YtapfdmmfhfkhkaaGreatNxH
import Derived.Test.YtapfdmmfhfkhkaaGreatNxC
import Derived.Test.YtapfdmmfhfkhkaaGreatImGb
import Derived.Test.YtapfdmmfhfkhkaaGreatOpenX
import Derived.Deep.RegionHeld3
import Derived.Deep.DeepCutAuto
namespace Go.Proofs.YtapfdmmfhfkhkaaGreat
open Go.ChangeShapes Go.WideShapes Go.ChangeAt Go.RowKit
set_option linter.unusedVariables false
set_option linter.unusedSimpArgs false
set_option maxRecDepth 100000

set_option maxHeartbeats 16000000 in
theorem implNext_any (cv gv rv lv : Value) (c : List Int × Int) (g : Rg) (sure : Int) (r : Rr) (l : List Aw) (w : World) (hc : RdConfig cv c w) (hg : RdRegister gv g w) (hr : RdReader rv r w) (hl : RdAnswerS lv l w) (okc : okConfig c) (okg : okRegister g) (okr : okInt r.epoch) (hf : ∀ a ∈ l, fitAw a) (hsc : sizConfig c ≤ 1048576) (hsg : sizRegister g ≤ 1048576) (hll : l.length ≤ 1048576) (hrl : r.out.length ≤ 1048576) :
    Calls Tryz.prog 29 #[cv, gv, .int .i64 sure, rv, lv] w (AnsN w (nextM c.1 c.2 g sure r l)) := by
  have ba : ∀ (w : World) o, Below w.heap.size w (w.alloc o) := fun w o => (Below.refl _ _).alloc (Nat.le_refl _) o
  have CR := dHide fun W (hb : Below w.heap.size w W) => implRegOk_any cv gv c g W (hc.below hb) (hg.below hb) okc okg hsc hsg
  have CK := dHide fun W (hb : Below w.heap.size w W) => implReaderOk_any rv r W (hr.below hb)
  have CA := dHide fun W (hb : Below w.heap.size w W) => answeringNodes_any lv l W (hl.below hb) hll
  have CC := dHide fun W (hb : Below w.heap.size w W) => copied_any rv r W (hr.below hb) hrl
  have CT := dHide fun W (hb : Below w.heap.size w W) (h : Hap) (hh : h.fits) => told_any rv r h hh W (hr.below hb) hrl
  have CM := dHide fun W (hb : Below w.heap.size w W) (hP : nxP c.1 c.2 g r l) => comesTo_any cv gv rv lv c g sure r l W hP (hc.below hb) (hg.below hb) (hr.below hb) (hl.below hb) okc okg okr hf hsc hsg hll
  obtain ⟨ds, cop⟩ := c
  obtain ⟨cs, rfl, hcn⟩ := hc
  simp only at *
  have CN := dHide fun W (hb : Below w.heap.size w W) (o : Value) (ho : Ns W o (l.map Aw.node)) => implNodes_any cs o ds (l.map Aw.node) cop W (hcn.below hb) ho okc.1 (fun x hx => by
    obtain ⟨a, ha, rfl⟩ := List.mem_map.1 hx
    exact (hf a ha).1) hsc (by rw [List.length_map]; exact hll) okc.2.1 okc.2.2
  obtain ⟨-, ca, cc, rfl, -, -⟩ := hcn
  obtain ⟨ga, gc, rfl, -⟩ := formRegister hg
  obtain ⟨ra, rc, rfl, -⟩ := formReader hr
  obtain ⟨la, lc, rfl, -⟩ := formAnswerS hl
  have EB : Hid (¬ nxP ds cop g r l → nextM ds cop g sure r l = (⟨0, 0, []⟩, 1)) := nextM_bad
  have PD : Hid (nxP ds cop g r l ↔ regP ds cop g ∧ rrP r ∧ nodesP ds cop (l.map Aw.node)) := Iff.rfl
  unfold ComeQ at CM
  generalize nextM ds cop g sure r l = M at *
  generalize nxP ds cop g r l = PP at *
  generalize regP ds cop g = P1 at *
  generalize rrP r = P2 at *
  generalize nodesP ds cop (l.map Aw.node) = P3 at *
  obtain ⟨y0, y1, ms⟩ := r
  obtain ⟨ers, gt⟩ := g
  simp only at *
  have hsc' := hsc
  have B0 := belowThen (belowThen (belowThen (ba w (.cells #[.slice ca ds.length cc, .int .i64 cop] 26)) (ba _ (.cells #[.slice ga ers.length gc, .int .i64 gt] 53))) (ba _ (.cells #[.int .i64 y0, .int .i64 y1, .slice ra ms.length rc] 56))) (ba _ (.cells #[.int .i64 0, .int .i64 0, .slice none 0 0] 56))
  have HB : Hid (∀ W, Below ((((w.alloc (.cells #[.slice ca ds.length cc, .int .i64 cop] 26)).alloc (.cells #[.slice ga ers.length gc, .int .i64 gt] 53)).alloc (.cells #[.int .i64 y0, .int .i64 y1, .slice ra ms.length rc] 56)).alloc (.cells #[.int .i64 0, .int .i64 0, .slice none 0 0] 56)).heap.size ((((w.alloc (.cells #[.slice ca ds.length cc, .int .i64 cop] 26)).alloc (.cells #[.slice ga ers.length gc, .int .i64 gt] 53)).alloc (.cells #[.int .i64 y0, .int .i64 y1, .slice ra ms.length rc] 56)).alloc (.cells #[.int .i64 0, .int .i64 0, .slice none 0 0] 56)) W → Bx W w.heap.size [.slice ca ds.length cc, .int .i64 cop] ∧ Bx W (w.heap.size + 1) [.slice ga ers.length gc, .int .i64 gt] ∧ Bx W (w.heap.size + 1 + 1) [.int .i64 y0, .int .i64 y1, .slice ra ms.length rc] ∧ BxZ W w.heap.size (w.heap.size + 1 + 1 + 1) [.int .i64 0, .int .i64 0, .slice none 0 0]) := fun W hW => by
    have x0 := (Bx.new w [.slice ca ds.length cc, .int .i64 cop] 26).below (belowThen (belowThen (ba _ (.cells #[.slice ga ers.length gc, .int .i64 gt] 53)) (ba _ (.cells #[.int .i64 y0, .int .i64 y1, .slice ra ms.length rc] 56))) (ba _ (.cells #[.int .i64 0, .int .i64 0, .slice none 0 0] 56)))
    have x1 := (Bx.new (w.alloc (.cells #[.slice ca ds.length cc, .int .i64 cop] 26)) [.slice ga ers.length gc, .int .i64 gt] 53).below (belowThen (ba _ (.cells #[.int .i64 y0, .int .i64 y1, .slice ra ms.length rc] 56)) (ba _ (.cells #[.int .i64 0, .int .i64 0, .slice none 0 0] 56)))
    have x2 := (Bx.new ((w.alloc (.cells #[.slice ca ds.length cc, .int .i64 cop] 26)).alloc (.cells #[.slice ga ers.length gc, .int .i64 gt] 53)) [.int .i64 y0, .int .i64 y1, .slice ra ms.length rc] 56).below (ba _ (.cells #[.int .i64 0, .int .i64 0, .slice none 0 0] 56))
    have x3 := BxZ.new (B := w.heap.size) (((w.alloc (.cells #[.slice ca ds.length cc, .int .i64 cop] 26)).alloc (.cells #[.slice ga ers.length gc, .int .i64 gt] 53)).alloc (.cells #[.int .i64 y0, .int .i64 y1, .slice ra ms.length rc] 56)) [.int .i64 0, .int .i64 0, .slice none 0 0] 56 (by simp; omega)
    rw [show (w.alloc (.cells #[.slice ca ds.length cc, .int .i64 cop] 26)).heap.size = w.heap.size + 1 from by simp] at x1
    rw [show ((w.alloc (.cells #[.slice ca ds.length cc, .int .i64 cop] 26)).alloc (.cells #[.slice ga ers.length gc, .int .i64 gt] 53)).heap.size = w.heap.size + 1 + 1 from by simp] at x2
    rw [show (((w.alloc (.cells #[.slice ca ds.length cc, .int .i64 cop] 26)).alloc (.cells #[.slice ga ers.length gc, .int .i64 gt] 53)).alloc (.cells #[.int .i64 y0, .int .i64 y1, .slice ra ms.length rc] 56)).heap.size = w.heap.size + 1 + 1 + 1 from by simp] at x3
    exact ⟨x0.below hW, x1.below hW, x2.below hW, x3.below hW⟩
  have hs0 : Hid (((((w.alloc (.cells #[.slice ca ds.length cc, .int .i64 cop] 26)).alloc (.cells #[.slice ga ers.length gc, .int .i64 gt] 53)).alloc (.cells #[.int .i64 y0, .int .i64 y1, .slice ra ms.length rc] 56)).alloc (.cells #[.int .i64 0, .int .i64 0, .slice none 0 0] 56)).heap.size = w.heap.size + 4) := by simp [Hid]
  clear hg hr hl hf okc okg okr hsc hsc' hsg hll hrl
  go_enter Tryz.func29, Tryz.ntmps29
  go_upto_region 1 with fail
  generalize ((((w.alloc (.cells #[.slice ca ds.length cc, .int .i64 cop] 26)).alloc (.cells #[.slice ga ers.length gc, .int .i64 gt] 53)).alloc (.cells #[.int .i64 y0, .int .i64 y1, .slice ra ms.length rc] 56)).alloc (.cells #[.int .i64 0, .int .i64 0, .slice none 0 0] 56)) = w0 at *
  have hw0 := dUnhide hs0
  have bdr : Below w0.heap.size w0 w0.drew := (Below.refl _ _).drew
  have PS : Hid (∀ W, Below w0.heap.size w0 W → (W.cell? ⟨w.heap.size, 0, none⟩ = some (.slice ca ds.length cc) ∧ W.cell? ⟨w.heap.size, 1, none⟩ = some (.int .i64 cop)) ∧ (W.cell? ⟨w.heap.size + 1, 0, none⟩ = some (.slice ga ers.length gc) ∧ W.cell? ⟨w.heap.size + 1, 1, none⟩ = some (.int .i64 gt)) ∧ W.cell? ⟨w.heap.size + 1 + 1, 0, none⟩ = some (.int .i64 y0) ∧ W.cell? ⟨w.heap.size + 1 + 1, 1, none⟩ = some (.int .i64 y1) ∧ W.cell? ⟨w.heap.size + 1 + 1, 2, none⟩ = some (.slice ra ms.length rc)) := fun W hW => by
    obtain ⟨X0, X1, X2, X3⟩ := dUnhide HB W hW
    exact ⟨⟨X0 0 _ rfl, X0 1 _ rfl⟩, ⟨X1 0 _ rfl, X1 1 _ rfl⟩, X2 0 _ rfl, X2 1 _ rfl, X2 2 _ rfl⟩
  have E9 : Hid (∀ (W : World) (m' : Rr) (cd : Int) (a : Option Addr) (c n base : Nat), M = (m', cd) → n = m'.out.length → ApV W base (.slice a n c) m'.out → w0.heap.size ≤ base → Below w.heap.size w W → AnsN w M (.returned (.tuple #[.agg #[.int .i64 m'.epoch, .int .i64 m'.off, .slice a n c], .int .i64 cd])) (((W.setCell ⟨w.heap.size + 1 + 1 + 1, 0, none⟩ (.int .i64 m'.epoch)).setCell ⟨w.heap.size + 1 + 1 + 1, 1, none⟩ (.int .i64 m'.off)).setCell ⟨w.heap.size + 1 + 1 + 1, 2, none⟩ (.slice a n c))) := fun W m' cd a c n base e1 e2 h hB bel => AnsN.mk e1 e2 (((ApR.far elemEvent (ApR.far elemEvent (ApR.far elemEvent h (b := w.heap.size + 1 + 1 + 1) (o' := 0) (by omega) (.int .i64 m'.epoch)) (b := w.heap.size + 1 + 1 + 1) (o' := 1) (by omega) (.int .i64 m'.off)) (b := w.heap.size + 1 + 1 + 1) (o' := 2) (by omega) (.slice a n c)))) (by omega) (((bel.setCell (p := ⟨w.heap.size + 1 + 1 + 1, 0, none⟩) (by simp only; omega) _).setCell (p := ⟨w.heap.size + 1 + 1 + 1, 1, none⟩) (by simp only; omega) _).setCell (p := ⟨w.heap.size + 1 + 1 + 1, 2, none⟩) (by simp only; omega) _)
  have Q9 : Hid (∀ (W : World) (a b c : Value), Below w0.heap.size w0 W → (((W.setCell ⟨w.heap.size + 1 + 1 + 1, 0, none⟩ a).setCell ⟨w.heap.size + 1 + 1 + 1, 1, none⟩ b).setCell ⟨w.heap.size + 1 + 1 + 1, 2, none⟩ c).cell? ⟨w.heap.size + 1 + 1 + 1, 0, none⟩ = some a ∧ (((W.setCell ⟨w.heap.size + 1 + 1 + 1, 0, none⟩ a).setCell ⟨w.heap.size + 1 + 1 + 1, 1, none⟩ b).setCell ⟨w.heap.size + 1 + 1 + 1, 2, none⟩ c).cell? ⟨w.heap.size + 1 + 1 + 1, 1, none⟩ = some b ∧ (((W.setCell ⟨w.heap.size + 1 + 1 + 1, 0, none⟩ a).setCell ⟨w.heap.size + 1 + 1 + 1, 1, none⟩ b).setCell ⟨w.heap.size + 1 + 1 + 1, 2, none⟩ c).cell? ⟨w.heap.size + 1 + 1 + 1, 2, none⟩ = some c) := fun W a b c hW => by
    have y := (((dUnhide HB W hW).2.2.2.put 0 a).put 1 b).put 2 c
    exact ⟨(y.2 0 _ rfl).1, (y.2 1 _ rfl).1, (y.2 2 _ rfl).1⟩
  have FZ : Hid (∀ W, Below w0.heap.size w0 W → (W.cell? ⟨w.heap.size + 1 + 1 + 1, 0, none⟩ = some (.int .i64 0) ∧ W.frozen? ⟨w.heap.size + 1 + 1 + 1, 0, none⟩ = false) ∧ (W.cell? ⟨w.heap.size + 1 + 1 + 1, 1, none⟩ = some (.int .i64 0) ∧ W.frozen? ⟨w.heap.size + 1 + 1 + 1, 1, none⟩ = false) ∧ (W.cell? ⟨w.heap.size + 1 + 1 + 1, 2, none⟩ = some (.slice none 0 0) ∧ W.frozen? ⟨w.heap.size + 1 + 1 + 1, 2, none⟩ = false)) := fun W hW => by
    obtain ⟨X0, X1, X2, X3⟩ := dUnhide HB W hW
    exact ⟨X3.2 0 _ rfl, X3.2 1 _ rfl, X3.2 2 _ rfl⟩
  clear hw0 hs0 HB
  go_wp2_with fail
  by_cases hp1 : P1
  case neg =>
    have hcur := bdr
    refine wp_region_noPanic ?_
    refine wp_region_held_drew (S := fun W => (W.cell? ⟨w.heap.size, 0, none⟩ = some (.slice ca ds.length cc) ∧ W.cell? ⟨w.heap.size, 1, none⟩ = some (.int .i64 cop)) ∧ (W.cell? ⟨w.heap.size + 1, 0, none⟩ = some (.slice ga ers.length gc) ∧ W.cell? ⟨w.heap.size + 1, 1, none⟩ = some (.int .i64 gt)) ∧ W.cell? ⟨w.heap.size + 1 + 1, 0, none⟩ = some (.int .i64 y0) ∧ W.cell? ⟨w.heap.size + 1 + 1, 1, none⟩ = some (.int .i64 y1) ∧ W.cell? ⟨w.heap.size + 1 + 1, 2, none⟩ = some (.slice ra ms.length rc)) (by kernel_rfl) (by first | exact dUnhide PS _ hcur | exact dUnhide PS _ bdr) (fun hHeld => ?_)
    generalize w0.drew = wd at *
    refine wpAnyH_take (i := 0) (oi := { dst := some 14, op := Op.load 26 (Operand.tmp 5), type := 26, pos := "l10_reader.go:180", after := #[], guard := none }) (v := ?_) rfl (by kernel_rfl) (by kernel_rfl) (by kernel_rfl) (fun _ _ _ h => h) (Or.inl ⟨by rfl, ?_⟩) (by assumption) ?_
    rotate_left 1
    · intro w hSw
      (try dsimp only at hSw)
      first | (go_simp; done) | (go_simp; with_reducible rfl)
    try simp only [Act.put, List.setIfInBounds_toArray, List.set_cons_zero, List.set_cons_succ]
    refine wpAnyH_take (i := 1) (oi := { dst := some 15, op := Op.load 53 (Operand.tmp 6), type := 53, pos := "l10_reader.go:180", after := #[], guard := none }) (v := ?_) rfl (by kernel_rfl) (by kernel_rfl) (by kernel_rfl) (fun _ _ _ h => h) (Or.inl ⟨by rfl, ?_⟩) (by assumption) ?_
    rotate_left 1
    · intro w hSw
      (try dsimp only at hSw)
      first | (go_simp; done) | (go_simp; with_reducible rfl)
    try simp only [Act.put, List.setIfInBounds_toArray, List.set_cons_zero, List.set_cons_succ]
    refine wpAnyH_ready (rs := [2]) (by kernel_rfl) (by simp) ?_
    refine AllReadyH.cons (o := { dst := some 16, op := Op.call { callee := Callee.value (Operand.func 96), args := #[Operand.tmp 14, Operand.tmp 15], argTypes := #[26, 53] }, type := 4, pos := "l10_reader.go:180", after := #[{ on := 0, ground := Ground.data }, { on := 1, ground := Ground.data }], guard := none }) rfl (fun K hK => ?_) AllReadyH.nil
    go_simp
    refine (dUnhide CR _ (belowThen B0 hcur)).mono ?_
    rintro e w1 ⟨⟨b1, rfl, h1⟩, bl1⟩
    obtain rfl : b1 = false := by
      cases b1
      · rfl
      · exact absurd (h1.1 rfl) hp1
    replace hcur := belowThen hcur bl1
    clear h1 bl1
    (try go_wp2_with fail)
    refine hK.out _ _ (by first | exact dUnhide PS _ hcur | exact dUnhide PS _ bdr) (fun hHeld => ?_)
    clear hK K
    try simp only [Act.put, List.setIfInBounds_toArray, List.set_cons_zero, List.set_cons_succ]
    refine wpAnyH_take (i := 3) (oi := { dst := some 17, op := Op.unOp UnOp.not 4 (Operand.tmp 16), type := 4, pos := "l10_reader.go:180", after := #[{ on := 2, ground := Ground.data }], guard := none }) (v := ?_) rfl (by kernel_rfl) (by kernel_rfl) (by kernel_rfl) (fun _ _ _ h => h) (Or.inl ⟨by rfl, ?_⟩) (by assumption) ?_
    rotate_left 1
    · intro w hSw
      (try dsimp only at hSw)
      first | (go_simp; done) | (go_simp; with_reducible rfl)
    try simp only [Act.put, List.setIfInBounds_toArray, List.set_cons_zero, List.set_cons_succ]
    refine wpAnyH_take (i := 4) (oi := { dst := some 18, op := Op.move (Operand.tmp 17), type := 4, pos := "l10_reader.go:180", after := #[{ on := 3, ground := Ground.data }, { on := 2, ground := Ground.chain }], guard := none }) (v := ?_) rfl (by kernel_rfl) (by kernel_rfl) (by kernel_rfl) (fun _ _ _ h => h) (Or.inl ⟨by rfl, ?_⟩) (by assumption) ?_
    rotate_left 1
    · intro w hSw
      (try dsimp only at hSw)
      first | (go_simp; done) | (go_simp; with_reducible rfl)
    try simp only [Act.put, List.setIfInBounds_toArray, List.set_cons_zero, List.set_cons_succ]
    refine wpAnyH_take (i := 5) (oi := { dst := some 19, op := Op.load 56 (Operand.tmp 8), type := 56, pos := "l10_reader.go:180", after := #[{ on := 4, ground := Ground.guard }], guard := some (4, false) }) (v := undef) rfl (by kernel_rfl) (by kernel_rfl) (by kernel_rfl) (fun _ _ _ h => h) (Or.inr ⟨by rfl, rfl⟩) (by assumption) ?_
    try simp only [Act.put, List.setIfInBounds_toArray, List.set_cons_zero, List.set_cons_succ]
    refine wpAnyH_take (i := 6) (oi := { dst := some 20, op := Op.call { callee := Callee.value (Operand.func 32), args := #[Operand.tmp 19], argTypes := #[56] }, type := 4, pos := "l10_reader.go:180", after := #[{ on := 5, ground := Ground.data }, { on := 4, ground := Ground.chain }, { on := 4, ground := Ground.guard }], guard := some (4, false) }) (v := undef) rfl (by kernel_rfl) (by kernel_rfl) (by kernel_rfl) (fun _ _ _ h => h) (Or.inr ⟨by rfl, rfl⟩) (by assumption) ?_
    try simp only [Act.put, List.setIfInBounds_toArray, List.set_cons_zero, List.set_cons_succ]
    refine wpAnyH_take (i := 7) (oi := { dst := some 21, op := Op.unOp UnOp.not 4 (Operand.tmp 20), type := 4, pos := "l10_reader.go:180", after := #[{ on := 6, ground := Ground.data }, { on := 4, ground := Ground.guard }], guard := some (4, false) }) (v := undef) rfl (by kernel_rfl) (by kernel_rfl) (by kernel_rfl) (fun _ _ _ h => h) (Or.inr ⟨by rfl, rfl⟩) (by assumption) ?_
    try simp only [Act.put, List.setIfInBounds_toArray, List.set_cons_zero, List.set_cons_succ]
    refine wpAnyH_take (i := 8) (oi := { dst := some 22, op := Op.pick (Operand.tmp 18) (Operand.const (Value.bool true)) (Operand.tmp 21), type := 4, pos := "l10_reader.go:180", after := #[{ on := 4, ground := Ground.data }, { on := 7, ground := Ground.data }], guard := none }) (v := ?_) rfl (by kernel_rfl) (by kernel_rfl) (by kernel_rfl) (fun _ _ _ h => h) (Or.inl ⟨by rfl, ?_⟩) (by assumption) ?_
    rotate_left 1
    · intro w hSw
      (try dsimp only at hSw)
      first | (go_simp; done) | (go_simp; with_reducible rfl)
    try simp only [Act.put, List.setIfInBounds_toArray, List.set_cons_zero, List.set_cons_succ]
    refine wpAnyH_take (i := 9) (oi := { dst := some 23, op := Op.move (Operand.tmp 22), type := 4, pos := "l10_reader.go:180", after := #[{ on := 8, ground := Ground.data }, { on := 6, ground := Ground.chain }], guard := none }) (v := ?_) rfl (by kernel_rfl) (by kernel_rfl) (by kernel_rfl) (fun _ _ _ h => h) (Or.inl ⟨by rfl, ?_⟩) (by assumption) ?_
    rotate_left 1
    · intro w hSw
      (try dsimp only at hSw)
      first | (go_simp; done) | (go_simp; with_reducible rfl)
    try simp only [Act.put, List.setIfInBounds_toArray, List.set_cons_zero, List.set_cons_succ]
    refine wpAnyH_take (i := 10) (oi := { dst := some 24, op := Op.load 26 (Operand.tmp 5), type := 26, pos := "l10_reader.go:180", after := #[{ on := 9, ground := Ground.guard }], guard := some (9, false) }) (v := undef) rfl (by kernel_rfl) (by kernel_rfl) (by kernel_rfl) (fun _ _ _ h => h) (Or.inr ⟨by rfl, rfl⟩) (by assumption) ?_
    try simp only [Act.put, List.setIfInBounds_toArray, List.set_cons_zero, List.set_cons_succ]
    refine wpAnyH_take (i := 11) (oi := { dst := some 25, op := Op.move (Operand.tmp 4), type := 57, pos := "l10_reader.go:180", after := #[{ on := 9, ground := Ground.guard }], guard := some (9, false) }) (v := undef) rfl (by kernel_rfl) (by kernel_rfl) (by kernel_rfl) (fun _ _ _ h => h) (Or.inr ⟨by rfl, rfl⟩) (by assumption) ?_
    try simp only [Act.put, List.setIfInBounds_toArray, List.set_cons_zero, List.set_cons_succ]
    refine wpAnyH_take (i := 12) (oi := { dst := some 26, op := Op.call { callee := Callee.value (Operand.func 97), args := #[Operand.tmp 25], argTypes := #[57] }, type := 24, pos := "l10_reader.go:180", after := #[{ on := 11, ground := Ground.data }, { on := 9, ground := Ground.chain }, { on := 9, ground := Ground.guard }], guard := some (9, false) }) (v := undef) rfl (by kernel_rfl) (by kernel_rfl) (by kernel_rfl) (fun _ _ _ h => h) (Or.inr ⟨by rfl, rfl⟩) (by assumption) ?_
    try simp only [Act.put, List.setIfInBounds_toArray, List.set_cons_zero, List.set_cons_succ]
    refine wpAnyH_take (i := 13) (oi := { dst := some 27, op := Op.call { callee := Callee.value (Operand.func 90), args := #[Operand.tmp 24, Operand.tmp 26], argTypes := #[26, 24] }, type := 4, pos := "l10_reader.go:180", after := #[{ on := 10, ground := Ground.data }, { on := 12, ground := Ground.data }, { on := 12, ground := Ground.chain }, { on := 9, ground := Ground.guard }], guard := some (9, false) }) (v := undef) rfl (by kernel_rfl) (by kernel_rfl) (by kernel_rfl) (fun _ _ _ h => h) (Or.inr ⟨by rfl, rfl⟩) (by assumption) ?_
    try simp only [Act.put, List.setIfInBounds_toArray, List.set_cons_zero, List.set_cons_succ]
    refine wpAnyH_take (i := 14) (oi := { dst := some 28, op := Op.unOp UnOp.not 4 (Operand.tmp 27), type := 4, pos := "l10_reader.go:180", after := #[{ on := 13, ground := Ground.data }, { on := 9, ground := Ground.guard }], guard := some (9, false) }) (v := undef) rfl (by kernel_rfl) (by kernel_rfl) (by kernel_rfl) (fun _ _ _ h => h) (Or.inr ⟨by rfl, rfl⟩) (by assumption) ?_
    try simp only [Act.put, List.setIfInBounds_toArray, List.set_cons_zero, List.set_cons_succ]
    refine wpAnyH_take (i := 15) (oi := { dst := some 29, op := Op.pick (Operand.tmp 23) (Operand.const (Value.bool true)) (Operand.tmp 28), type := 4, pos := "l10_reader.go:180", after := #[{ on := 9, ground := Ground.data }, { on := 14, ground := Ground.data }], guard := none }) (v := ?_) rfl (by kernel_rfl) (by kernel_rfl) (by kernel_rfl) (fun _ _ _ h => h) (Or.inl ⟨by rfl, ?_⟩) (by assumption) ?_
    rotate_left 1
    · intro w hSw
      (try dsimp only at hSw)
      first | (go_simp; done) | (go_simp; with_reducible rfl)
    try simp only [Act.put, List.setIfInBounds_toArray, List.set_cons_zero, List.set_cons_succ]
    refine wpAnyH_done (by kernel_rfl) ?_ _
    refine NoPanic.normal ?_
    have NP : ¬ PP := fun h => hp1 ((dUnhide PD).1 h).1
    have F := dHide (AnsN.bad (W := (((w1.setCell ⟨w.heap.size + 1 + 1 + 1, 0, none⟩ (.int .i64 0)).setCell ⟨w.heap.size + 1 + 1 + 1, 1, none⟩ (.int .i64 0)).setCell ⟨w.heap.size + 1 + 1 + 1, 2, none⟩ (.slice none 0 0))) (dUnhide EB NP) ((((belowThen B0 hcur).setCell (p := ⟨w.heap.size + 1 + 1 + 1, 0, none⟩) (by simp only; omega) (.int .i64 0)).setCell (p := ⟨w.heap.size + 1 + 1 + 1, 1, none⟩) (by simp only; omega) (.int .i64 0)).setCell (p := ⟨w.heap.size + 1 + 1 + 1, 2, none⟩) (by simp only; omega) (.slice none 0 0)))
    obtain ⟨q0, q1, q2⟩ := dUnhide Q9 w1 (.int .i64 0) (.int .i64 0) (.slice none 0 0) hcur
    obtain ⟨⟨z0, f0⟩, ⟨z1, f1⟩, ⟨z2, f2⟩⟩ := dUnhide FZ w1 hcur
    clear CR CK CA CC CT CM CN EB PD E9 Q9 FZ PS
    go_wp2_with fail
    generalize (((w1.setCell ⟨w.heap.size + 1 + 1 + 1, 0, none⟩ (.int .i64 0)).setCell ⟨w.heap.size + 1 + 1 + 1, 1, none⟩ (.int .i64 0)).setCell ⟨w.heap.size + 1 + 1 + 1, 2, none⟩ (.slice none 0 0)) = V at *
    exact bodyPost_ret (v := .tuple #[.agg #[.int .i64 0, .int .i64 0, .slice none 0 0], .int .i64 1]) (by simp [results, Tryz.results29, go_sem, q0, q1, q2]) rfl (dUnhide F)
  case pos =>
    by_cases hp2 : P2
    case neg =>
      have hcur := bdr
      refine wp_region_noPanic ?_
      refine wp_region_held_drew (S := fun W => (W.cell? ⟨w.heap.size, 0, none⟩ = some (.slice ca ds.length cc) ∧ W.cell? ⟨w.heap.size, 1, none⟩ = some (.int .i64 cop)) ∧ (W.cell? ⟨w.heap.size + 1, 0, none⟩ = some (.slice ga ers.length gc) ∧ W.cell? ⟨w.heap.size + 1, 1, none⟩ = some (.int .i64 gt)) ∧ W.cell? ⟨w.heap.size + 1 + 1, 0, none⟩ = some (.int .i64 y0) ∧ W.cell? ⟨w.heap.size + 1 + 1, 1, none⟩ = some (.int .i64 y1) ∧ W.cell? ⟨w.heap.size + 1 + 1, 2, none⟩ = some (.slice ra ms.length rc)) (by kernel_rfl) (by first | exact dUnhide PS _ hcur | exact dUnhide PS _ bdr) (fun hHeld => ?_)
      generalize w0.drew = wd at *
      refine wpAnyH_take (i := 0) (oi := { dst := some 14, op := Op.load 26 (Operand.tmp 5), type := 26, pos := "l10_reader.go:180", after := #[], guard := none }) (v := ?_) rfl (by kernel_rfl) (by kernel_rfl) (by kernel_rfl) (fun _ _ _ h => h) (Or.inl ⟨by rfl, ?_⟩) (by assumption) ?_
      rotate_left 1
      · intro w hSw
        (try dsimp only at hSw)
        first | (go_simp; done) | (go_simp; with_reducible rfl)
      try simp only [Act.put, List.setIfInBounds_toArray, List.set_cons_zero, List.set_cons_succ]
      refine wpAnyH_take (i := 1) (oi := { dst := some 15, op := Op.load 53 (Operand.tmp 6), type := 53, pos := "l10_reader.go:180", after := #[], guard := none }) (v := ?_) rfl (by kernel_rfl) (by kernel_rfl) (by kernel_rfl) (fun _ _ _ h => h) (Or.inl ⟨by rfl, ?_⟩) (by assumption) ?_
      rotate_left 1
      · intro w hSw
        (try dsimp only at hSw)
        first | (go_simp; done) | (go_simp; with_reducible rfl)
      try simp only [Act.put, List.setIfInBounds_toArray, List.set_cons_zero, List.set_cons_succ]
      refine wpAnyH_ready (rs := [2]) (by kernel_rfl) (by simp) ?_
      refine AllReadyH.cons (o := { dst := some 16, op := Op.call { callee := Callee.value (Operand.func 96), args := #[Operand.tmp 14, Operand.tmp 15], argTypes := #[26, 53] }, type := 4, pos := "l10_reader.go:180", after := #[{ on := 0, ground := Ground.data }, { on := 1, ground := Ground.data }], guard := none }) rfl (fun K hK => ?_) AllReadyH.nil
      go_simp
      refine (dUnhide CR _ (belowThen B0 hcur)).mono ?_
      rintro e w1 ⟨⟨b1, rfl, h1⟩, bl1⟩
      obtain rfl : b1 = true := h1.2 hp1
      replace hcur := belowThen hcur bl1
      clear h1 bl1
      (try go_wp2_with fail)
      refine hK.out _ _ (by first | exact dUnhide PS _ hcur | exact dUnhide PS _ bdr) (fun hHeld => ?_)
      clear hK K
      try simp only [Act.put, List.setIfInBounds_toArray, List.set_cons_zero, List.set_cons_succ]
      refine wpAnyH_take (i := 3) (oi := { dst := some 17, op := Op.unOp UnOp.not 4 (Operand.tmp 16), type := 4, pos := "l10_reader.go:180", after := #[{ on := 2, ground := Ground.data }], guard := none }) (v := ?_) rfl (by kernel_rfl) (by kernel_rfl) (by kernel_rfl) (fun _ _ _ h => h) (Or.inl ⟨by rfl, ?_⟩) (by assumption) ?_
      rotate_left 1
      · intro w hSw
        (try dsimp only at hSw)
        first | (go_simp; done) | (go_simp; with_reducible rfl)
      try simp only [Act.put, List.setIfInBounds_toArray, List.set_cons_zero, List.set_cons_succ]
      refine wpAnyH_take (i := 4) (oi := { dst := some 18, op := Op.move (Operand.tmp 17), type := 4, pos := "l10_reader.go:180", after := #[{ on := 3, ground := Ground.data }, { on := 2, ground := Ground.chain }], guard := none }) (v := ?_) rfl (by kernel_rfl) (by kernel_rfl) (by kernel_rfl) (fun _ _ _ h => h) (Or.inl ⟨by rfl, ?_⟩) (by assumption) ?_
      rotate_left 1
      · intro w hSw
        (try dsimp only at hSw)
        first | (go_simp; done) | (go_simp; with_reducible rfl)
      try simp only [Act.put, List.setIfInBounds_toArray, List.set_cons_zero, List.set_cons_succ]
      refine wpAnyH_take (i := 5) (oi := { dst := some 19, op := Op.load 56 (Operand.tmp 8), type := 56, pos := "l10_reader.go:180", after := #[{ on := 4, ground := Ground.guard }], guard := some (4, false) }) (v := ?_) rfl (by kernel_rfl) (by kernel_rfl) (by kernel_rfl) (fun _ _ _ h => h) (Or.inl ⟨by rfl, ?_⟩) (by assumption) ?_
      rotate_left 1
      · intro w hSw
        (try dsimp only at hSw)
        first | (go_simp; done) | (go_simp; with_reducible rfl)
      try simp only [Act.put, List.setIfInBounds_toArray, List.set_cons_zero, List.set_cons_succ]
      refine wpAnyH_ready (rs := [6]) (by kernel_rfl) (by simp) ?_
      refine AllReadyH.cons (o := { dst := some 20, op := Op.call { callee := Callee.value (Operand.func 32), args := #[Operand.tmp 19], argTypes := #[56] }, type := 4, pos := "l10_reader.go:180", after := #[{ on := 5, ground := Ground.data }, { on := 4, ground := Ground.chain }, { on := 4, ground := Ground.guard }], guard := some (4, false) }) rfl (fun K hK => ?_) AllReadyH.nil
      go_simp
      refine (dUnhide CK _ (belowThen B0 hcur)).mono ?_
      rintro e w2 ⟨⟨b2, rfl, h2⟩, bl2⟩
      obtain rfl : b2 = false := by
        cases b2
        · rfl
        · exact absurd (h2.1 rfl) hp2
      replace hcur := belowThen hcur bl2
      clear h2 bl2
      (try go_wp2_with fail)
      refine hK.out _ _ (by first | exact dUnhide PS _ hcur | exact dUnhide PS _ bdr) (fun hHeld => ?_)
      clear hK K
      try simp only [Act.put, List.setIfInBounds_toArray, List.set_cons_zero, List.set_cons_succ]
      refine wpAnyH_take (i := 7) (oi := { dst := some 21, op := Op.unOp UnOp.not 4 (Operand.tmp 20), type := 4, pos := "l10_reader.go:180", after := #[{ on := 6, ground := Ground.data }, { on := 4, ground := Ground.guard }], guard := some (4, false) }) (v := ?_) rfl (by kernel_rfl) (by kernel_rfl) (by kernel_rfl) (fun _ _ _ h => h) (Or.inl ⟨by rfl, ?_⟩) (by assumption) ?_
      rotate_left 1
      · intro w hSw
        (try dsimp only at hSw)
        first | (go_simp; done) | (go_simp; with_reducible rfl)
      try simp only [Act.put, List.setIfInBounds_toArray, List.set_cons_zero, List.set_cons_succ]
      refine wpAnyH_take (i := 8) (oi := { dst := some 22, op := Op.pick (Operand.tmp 18) (Operand.const (Value.bool true)) (Operand.tmp 21), type := 4, pos := "l10_reader.go:180", after := #[{ on := 4, ground := Ground.data }, { on := 7, ground := Ground.data }], guard := none }) (v := ?_) rfl (by kernel_rfl) (by kernel_rfl) (by kernel_rfl) (fun _ _ _ h => h) (Or.inl ⟨by rfl, ?_⟩) (by assumption) ?_
      rotate_left 1
      · intro w hSw
        (try dsimp only at hSw)
        first | (go_simp; done) | (go_simp; with_reducible rfl)
      try simp only [Act.put, List.setIfInBounds_toArray, List.set_cons_zero, List.set_cons_succ]
      refine wpAnyH_take (i := 9) (oi := { dst := some 23, op := Op.move (Operand.tmp 22), type := 4, pos := "l10_reader.go:180", after := #[{ on := 8, ground := Ground.data }, { on := 6, ground := Ground.chain }], guard := none }) (v := ?_) rfl (by kernel_rfl) (by kernel_rfl) (by kernel_rfl) (fun _ _ _ h => h) (Or.inl ⟨by rfl, ?_⟩) (by assumption) ?_
      rotate_left 1
      · intro w hSw
        (try dsimp only at hSw)
        first | (go_simp; done) | (go_simp; with_reducible rfl)
      try simp only [Act.put, List.setIfInBounds_toArray, List.set_cons_zero, List.set_cons_succ]
      refine wpAnyH_take (i := 10) (oi := { dst := some 24, op := Op.load 26 (Operand.tmp 5), type := 26, pos := "l10_reader.go:180", after := #[{ on := 9, ground := Ground.guard }], guard := some (9, false) }) (v := undef) rfl (by kernel_rfl) (by kernel_rfl) (by kernel_rfl) (fun _ _ _ h => h) (Or.inr ⟨by rfl, rfl⟩) (by assumption) ?_
      try simp only [Act.put, List.setIfInBounds_toArray, List.set_cons_zero, List.set_cons_succ]
      refine wpAnyH_take (i := 11) (oi := { dst := some 25, op := Op.move (Operand.tmp 4), type := 57, pos := "l10_reader.go:180", after := #[{ on := 9, ground := Ground.guard }], guard := some (9, false) }) (v := undef) rfl (by kernel_rfl) (by kernel_rfl) (by kernel_rfl) (fun _ _ _ h => h) (Or.inr ⟨by rfl, rfl⟩) (by assumption) ?_
      try simp only [Act.put, List.setIfInBounds_toArray, List.set_cons_zero, List.set_cons_succ]
      refine wpAnyH_take (i := 12) (oi := { dst := some 26, op := Op.call { callee := Callee.value (Operand.func 97), args := #[Operand.tmp 25], argTypes := #[57] }, type := 24, pos := "l10_reader.go:180", after := #[{ on := 11, ground := Ground.data }, { on := 9, ground := Ground.chain }, { on := 9, ground := Ground.guard }], guard := some (9, false) }) (v := undef) rfl (by kernel_rfl) (by kernel_rfl) (by kernel_rfl) (fun _ _ _ h => h) (Or.inr ⟨by rfl, rfl⟩) (by assumption) ?_
      try simp only [Act.put, List.setIfInBounds_toArray, List.set_cons_zero, List.set_cons_succ]
      refine wpAnyH_take (i := 13) (oi := { dst := some 27, op := Op.call { callee := Callee.value (Operand.func 90), args := #[Operand.tmp 24, Operand.tmp 26], argTypes := #[26, 24] }, type := 4, pos := "l10_reader.go:180", after := #[{ on := 10, ground := Ground.data }, { on := 12, ground := Ground.data }, { on := 12, ground := Ground.chain }, { on := 9, ground := Ground.guard }], guard := some (9, false) }) (v := undef) rfl (by kernel_rfl) (by kernel_rfl) (by kernel_rfl) (fun _ _ _ h => h) (Or.inr ⟨by rfl, rfl⟩) (by assumption) ?_
      try simp only [Act.put, List.setIfInBounds_toArray, List.set_cons_zero, List.set_cons_succ]
      refine wpAnyH_take (i := 14) (oi := { dst := some 28, op := Op.unOp UnOp.not 4 (Operand.tmp 27), type := 4, pos := "l10_reader.go:180", after := #[{ on := 13, ground := Ground.data }, { on := 9, ground := Ground.guard }], guard := some (9, false) }) (v := undef) rfl (by kernel_rfl) (by kernel_rfl) (by kernel_rfl) (fun _ _ _ h => h) (Or.inr ⟨by rfl, rfl⟩) (by assumption) ?_
      try simp only [Act.put, List.setIfInBounds_toArray, List.set_cons_zero, List.set_cons_succ]
      refine wpAnyH_take (i := 15) (oi := { dst := some 29, op := Op.pick (Operand.tmp 23) (Operand.const (Value.bool true)) (Operand.tmp 28), type := 4, pos := "l10_reader.go:180", after := #[{ on := 9, ground := Ground.data }, { on := 14, ground := Ground.data }], guard := none }) (v := ?_) rfl (by kernel_rfl) (by kernel_rfl) (by kernel_rfl) (fun _ _ _ h => h) (Or.inl ⟨by rfl, ?_⟩) (by assumption) ?_
      rotate_left 1
      · intro w hSw
        (try dsimp only at hSw)
        first | (go_simp; done) | (go_simp; with_reducible rfl)
      try simp only [Act.put, List.setIfInBounds_toArray, List.set_cons_zero, List.set_cons_succ]
      refine wpAnyH_done (by kernel_rfl) ?_ _
      refine NoPanic.normal ?_
      have NP : ¬ PP := fun h => hp2 ((dUnhide PD).1 h).2.1
      have F := dHide (AnsN.bad (W := (((w2.setCell ⟨w.heap.size + 1 + 1 + 1, 0, none⟩ (.int .i64 0)).setCell ⟨w.heap.size + 1 + 1 + 1, 1, none⟩ (.int .i64 0)).setCell ⟨w.heap.size + 1 + 1 + 1, 2, none⟩ (.slice none 0 0))) (dUnhide EB NP) ((((belowThen B0 hcur).setCell (p := ⟨w.heap.size + 1 + 1 + 1, 0, none⟩) (by simp only; omega) (.int .i64 0)).setCell (p := ⟨w.heap.size + 1 + 1 + 1, 1, none⟩) (by simp only; omega) (.int .i64 0)).setCell (p := ⟨w.heap.size + 1 + 1 + 1, 2, none⟩) (by simp only; omega) (.slice none 0 0)))
      obtain ⟨q0, q1, q2⟩ := dUnhide Q9 w2 (.int .i64 0) (.int .i64 0) (.slice none 0 0) hcur
      obtain ⟨⟨z0, f0⟩, ⟨z1, f1⟩, ⟨z2, f2⟩⟩ := dUnhide FZ w2 hcur
      clear CR CK CA CC CT CM CN EB PD E9 Q9 FZ PS
      go_wp2_with fail
      generalize (((w2.setCell ⟨w.heap.size + 1 + 1 + 1, 0, none⟩ (.int .i64 0)).setCell ⟨w.heap.size + 1 + 1 + 1, 1, none⟩ (.int .i64 0)).setCell ⟨w.heap.size + 1 + 1 + 1, 2, none⟩ (.slice none 0 0)) = V at *
      exact bodyPost_ret (v := .tuple #[.agg #[.int .i64 0, .int .i64 0, .slice none 0 0], .int .i64 1]) (by simp [results, Tryz.results29, go_sem, q0, q1, q2]) rfl (dUnhide F)
    case pos =>
      have hcur := bdr
      refine wp_region_noPanic ?_
      refine wp_region_held_drew (S := fun W => (W.cell? ⟨w.heap.size, 0, none⟩ = some (.slice ca ds.length cc) ∧ W.cell? ⟨w.heap.size, 1, none⟩ = some (.int .i64 cop)) ∧ (W.cell? ⟨w.heap.size + 1, 0, none⟩ = some (.slice ga ers.length gc) ∧ W.cell? ⟨w.heap.size + 1, 1, none⟩ = some (.int .i64 gt)) ∧ W.cell? ⟨w.heap.size + 1 + 1, 0, none⟩ = some (.int .i64 y0) ∧ W.cell? ⟨w.heap.size + 1 + 1, 1, none⟩ = some (.int .i64 y1) ∧ W.cell? ⟨w.heap.size + 1 + 1, 2, none⟩ = some (.slice ra ms.length rc)) (by kernel_rfl) (by first | exact dUnhide PS _ hcur | exact dUnhide PS _ bdr) (fun hHeld => ?_)
      generalize w0.drew = wd at *
      refine wpAnyH_take (i := 0) (oi := { dst := some 14, op := Op.load 26 (Operand.tmp 5), type := 26, pos := "l10_reader.go:180", after := #[], guard := none }) (v := ?_) rfl (by kernel_rfl) (by kernel_rfl) (by kernel_rfl) (fun _ _ _ h => h) (Or.inl ⟨by rfl, ?_⟩) (by assumption) ?_
      rotate_left 1
      · intro w hSw
        (try dsimp only at hSw)
        first | (go_simp; done) | (go_simp; with_reducible rfl)
      try simp only [Act.put, List.setIfInBounds_toArray, List.set_cons_zero, List.set_cons_succ]
      refine wpAnyH_take (i := 1) (oi := { dst := some 15, op := Op.load 53 (Operand.tmp 6), type := 53, pos := "l10_reader.go:180", after := #[], guard := none }) (v := ?_) rfl (by kernel_rfl) (by kernel_rfl) (by kernel_rfl) (fun _ _ _ h => h) (Or.inl ⟨by rfl, ?_⟩) (by assumption) ?_
      rotate_left 1
      · intro w hSw
        (try dsimp only at hSw)
        first | (go_simp; done) | (go_simp; with_reducible rfl)
      try simp only [Act.put, List.setIfInBounds_toArray, List.set_cons_zero, List.set_cons_succ]
      refine wpAnyH_ready (rs := [2]) (by kernel_rfl) (by simp) ?_
      refine AllReadyH.cons (o := { dst := some 16, op := Op.call { callee := Callee.value (Operand.func 96), args := #[Operand.tmp 14, Operand.tmp 15], argTypes := #[26, 53] }, type := 4, pos := "l10_reader.go:180", after := #[{ on := 0, ground := Ground.data }, { on := 1, ground := Ground.data }], guard := none }) rfl (fun K hK => ?_) AllReadyH.nil
      go_simp
      refine (dUnhide CR _ (belowThen B0 hcur)).mono ?_
      rintro e w1 ⟨⟨b1, rfl, h1⟩, bl1⟩
      obtain rfl : b1 = true := h1.2 hp1
      replace hcur := belowThen hcur bl1
      clear h1 bl1
      (try go_wp2_with fail)
      refine hK.out _ _ (by first | exact dUnhide PS _ hcur | exact dUnhide PS _ bdr) (fun hHeld => ?_)
      clear hK K
      try simp only [Act.put, List.setIfInBounds_toArray, List.set_cons_zero, List.set_cons_succ]
      refine wpAnyH_take (i := 3) (oi := { dst := some 17, op := Op.unOp UnOp.not 4 (Operand.tmp 16), type := 4, pos := "l10_reader.go:180", after := #[{ on := 2, ground := Ground.data }], guard := none }) (v := ?_) rfl (by kernel_rfl) (by kernel_rfl) (by kernel_rfl) (fun _ _ _ h => h) (Or.inl ⟨by rfl, ?_⟩) (by assumption) ?_
      rotate_left 1
      · intro w hSw
        (try dsimp only at hSw)
        first | (go_simp; done) | (go_simp; with_reducible rfl)
      try simp only [Act.put, List.setIfInBounds_toArray, List.set_cons_zero, List.set_cons_succ]
      refine wpAnyH_take (i := 4) (oi := { dst := some 18, op := Op.move (Operand.tmp 17), type := 4, pos := "l10_reader.go:180", after := #[{ on := 3, ground := Ground.data }, { on := 2, ground := Ground.chain }], guard := none }) (v := ?_) rfl (by kernel_rfl) (by kernel_rfl) (by kernel_rfl) (fun _ _ _ h => h) (Or.inl ⟨by rfl, ?_⟩) (by assumption) ?_
      rotate_left 1
      · intro w hSw
        (try dsimp only at hSw)
        first | (go_simp; done) | (go_simp; with_reducible rfl)
      try simp only [Act.put, List.setIfInBounds_toArray, List.set_cons_zero, List.set_cons_succ]
      refine wpAnyH_take (i := 5) (oi := { dst := some 19, op := Op.load 56 (Operand.tmp 8), type := 56, pos := "l10_reader.go:180", after := #[{ on := 4, ground := Ground.guard }], guard := some (4, false) }) (v := ?_) rfl (by kernel_rfl) (by kernel_rfl) (by kernel_rfl) (fun _ _ _ h => h) (Or.inl ⟨by rfl, ?_⟩) (by assumption) ?_
      rotate_left 1
      · intro w hSw
        (try dsimp only at hSw)
        first | (go_simp; done) | (go_simp; with_reducible rfl)
      try simp only [Act.put, List.setIfInBounds_toArray, List.set_cons_zero, List.set_cons_succ]
      refine wpAnyH_ready (rs := [6]) (by kernel_rfl) (by simp) ?_
      refine AllReadyH.cons (o := { dst := some 20, op := Op.call { callee := Callee.value (Operand.func 32), args := #[Operand.tmp 19], argTypes := #[56] }, type := 4, pos := "l10_reader.go:180", after := #[{ on := 5, ground := Ground.data }, { on := 4, ground := Ground.chain }, { on := 4, ground := Ground.guard }], guard := some (4, false) }) rfl (fun K hK => ?_) AllReadyH.nil
      go_simp
      refine (dUnhide CK _ (belowThen B0 hcur)).mono ?_
      rintro e w2 ⟨⟨b2, rfl, h2⟩, bl2⟩
      obtain rfl : b2 = true := h2.2 hp2
      replace hcur := belowThen hcur bl2
      clear h2 bl2
      (try go_wp2_with fail)
      refine hK.out _ _ (by first | exact dUnhide PS _ hcur | exact dUnhide PS _ bdr) (fun hHeld => ?_)
      clear hK K
      try simp only [Act.put, List.setIfInBounds_toArray, List.set_cons_zero, List.set_cons_succ]
      refine wpAnyH_take (i := 7) (oi := { dst := some 21, op := Op.unOp UnOp.not 4 (Operand.tmp 20), type := 4, pos := "l10_reader.go:180", after := #[{ on := 6, ground := Ground.data }, { on := 4, ground := Ground.guard }], guard := some (4, false) }) (v := ?_) rfl (by kernel_rfl) (by kernel_rfl) (by kernel_rfl) (fun _ _ _ h => h) (Or.inl ⟨by rfl, ?_⟩) (by assumption) ?_
      rotate_left 1
      · intro w hSw
        (try dsimp only at hSw)
        first | (go_simp; done) | (go_simp; with_reducible rfl)
      try simp only [Act.put, List.setIfInBounds_toArray, List.set_cons_zero, List.set_cons_succ]
      refine wpAnyH_take (i := 8) (oi := { dst := some 22, op := Op.pick (Operand.tmp 18) (Operand.const (Value.bool true)) (Operand.tmp 21), type := 4, pos := "l10_reader.go:180", after := #[{ on := 4, ground := Ground.data }, { on := 7, ground := Ground.data }], guard := none }) (v := ?_) rfl (by kernel_rfl) (by kernel_rfl) (by kernel_rfl) (fun _ _ _ h => h) (Or.inl ⟨by rfl, ?_⟩) (by assumption) ?_
      rotate_left 1
      · intro w hSw
        (try dsimp only at hSw)
        first | (go_simp; done) | (go_simp; with_reducible rfl)
      try simp only [Act.put, List.setIfInBounds_toArray, List.set_cons_zero, List.set_cons_succ]
      refine wpAnyH_take (i := 9) (oi := { dst := some 23, op := Op.move (Operand.tmp 22), type := 4, pos := "l10_reader.go:180", after := #[{ on := 8, ground := Ground.data }, { on := 6, ground := Ground.chain }], guard := none }) (v := ?_) rfl (by kernel_rfl) (by kernel_rfl) (by kernel_rfl) (fun _ _ _ h => h) (Or.inl ⟨by rfl, ?_⟩) (by assumption) ?_
      rotate_left 1
      · intro w hSw
        (try dsimp only at hSw)
        first | (go_simp; done) | (go_simp; with_reducible rfl)
      try simp only [Act.put, List.setIfInBounds_toArray, List.set_cons_zero, List.set_cons_succ]
      refine wpAnyH_take (i := 10) (oi := { dst := some 24, op := Op.load 26 (Operand.tmp 5), type := 26, pos := "l10_reader.go:180", after := #[{ on := 9, ground := Ground.guard }], guard := some (9, false) }) (v := ?_) rfl (by kernel_rfl) (by kernel_rfl) (by kernel_rfl) (fun _ _ _ h => h) (Or.inl ⟨by rfl, ?_⟩) (by assumption) ?_
      rotate_left 1
      · intro w hSw
        (try dsimp only at hSw)
        first | (go_simp; done) | (go_simp; with_reducible rfl)
      try simp only [Act.put, List.setIfInBounds_toArray, List.set_cons_zero, List.set_cons_succ]
      refine wpAnyH_take (i := 11) (oi := { dst := some 25, op := Op.move (Operand.tmp 4), type := 57, pos := "l10_reader.go:180", after := #[{ on := 9, ground := Ground.guard }], guard := some (9, false) }) (v := ?_) rfl (by kernel_rfl) (by kernel_rfl) (by kernel_rfl) (fun _ _ _ h => h) (Or.inl ⟨by rfl, ?_⟩) (by assumption) ?_
      rotate_left 1
      · intro w hSw
        (try dsimp only at hSw)
        first | (go_simp; done) | (go_simp; with_reducible rfl)
      try simp only [Act.put, List.setIfInBounds_toArray, List.set_cons_zero, List.set_cons_succ]
      refine wpAnyH_ready (rs := [12]) (by kernel_rfl) (by simp) ?_
      refine AllReadyH.cons (o := { dst := some 26, op := Op.call { callee := Callee.value (Operand.func 97), args := #[Operand.tmp 25], argTypes := #[57] }, type := 24, pos := "l10_reader.go:180", after := #[{ on := 11, ground := Ground.data }, { on := 9, ground := Ground.chain }, { on := 9, ground := Ground.guard }], guard := some (9, false) }) rfl (fun K hK => ?_) AllReadyH.nil
      go_simp
      refine (dUnhide CA _ (belowThen B0 hcur)).mono ?_
      rintro e w3 ⟨⟨o3, rfl, O3⟩, bl3⟩
      replace hcur := belowThen hcur bl3
      have HO3 := dHide O3.bs
      clear O3 bl3
      (try go_wp2_with fail)
      refine hK.out _ _ (by first | exact dUnhide PS _ hcur | exact dUnhide PS _ bdr) (fun hHeld => ?_)
      clear hK K
      try simp only [Act.put, List.setIfInBounds_toArray, List.set_cons_zero, List.set_cons_succ]
      refine wpAnyH_ready (rs := [13]) (by kernel_rfl) (by simp) ?_
      refine AllReadyH.cons (o := { dst := some 27, op := Op.call { callee := Callee.value (Operand.func 90), args := #[Operand.tmp 24, Operand.tmp 26], argTypes := #[26, 24] }, type := 4, pos := "l10_reader.go:180", after := #[{ on := 10, ground := Ground.data }, { on := 12, ground := Ground.data }, { on := 12, ground := Ground.chain }, { on := 9, ground := Ground.guard }], guard := some (9, false) }) rfl (fun K hK => ?_) AllReadyH.nil
      go_simp
      refine (dUnhide CN _ (belowThen B0 hcur) o3 (dUnhide HO3)).mono ?_
      rintro e w4 ⟨⟨b4, rfl, h4⟩, bl4⟩
      replace hcur := belowThen hcur bl4
      clear bl4 HO3
      (try go_wp2_with fail)
      refine hK.out _ _ (by first | exact dUnhide PS _ hcur | exact dUnhide PS _ bdr) (fun hHeld => ?_)
      clear hK K
      try simp only [Act.put, List.setIfInBounds_toArray, List.set_cons_zero, List.set_cons_succ]
      refine wpAnyH_take (i := 14) (oi := { dst := some 28, op := Op.unOp UnOp.not 4 (Operand.tmp 27), type := 4, pos := "l10_reader.go:180", after := #[{ on := 13, ground := Ground.data }, { on := 9, ground := Ground.guard }], guard := some (9, false) }) (v := ?_) rfl (by kernel_rfl) (by kernel_rfl) (by kernel_rfl) (fun _ _ _ h => h) (Or.inl ⟨by rfl, ?_⟩) (by assumption) ?_
      rotate_left 1
      · intro w hSw
        (try dsimp only at hSw)
        first | (go_simp; done) | (go_simp; with_reducible rfl)
      try simp only [Act.put, List.setIfInBounds_toArray, List.set_cons_zero, List.set_cons_succ]
      refine wpAnyH_take (i := 15) (oi := { dst := some 29, op := Op.pick (Operand.tmp 23) (Operand.const (Value.bool true)) (Operand.tmp 28), type := 4, pos := "l10_reader.go:180", after := #[{ on := 9, ground := Ground.data }, { on := 14, ground := Ground.data }], guard := none }) (v := ?_) rfl (by kernel_rfl) (by kernel_rfl) (by kernel_rfl) (fun _ _ _ h => h) (Or.inl ⟨by rfl, ?_⟩) (by assumption) ?_
      rotate_left 1
      · intro w hSw
        (try dsimp only at hSw)
        first | (go_simp; done) | (go_simp; with_reducible rfl)
      try simp only [Act.put, List.setIfInBounds_toArray, List.set_cons_zero, List.set_cons_succ]
      refine wpAnyH_done (by kernel_rfl) ?_ _
      refine NoPanic.normal ?_
      cases b4
      · have NP : ¬ PP := fun h => by have := h4.2 ((dUnhide PD).1 h).2.2; cases this
        clear h4
        have F := dHide (AnsN.bad (W := (((w4.setCell ⟨w.heap.size + 1 + 1 + 1, 0, none⟩ (.int .i64 0)).setCell ⟨w.heap.size + 1 + 1 + 1, 1, none⟩ (.int .i64 0)).setCell ⟨w.heap.size + 1 + 1 + 1, 2, none⟩ (.slice none 0 0))) (dUnhide EB NP) ((((belowThen B0 hcur).setCell (p := ⟨w.heap.size + 1 + 1 + 1, 0, none⟩) (by simp only; omega) (.int .i64 0)).setCell (p := ⟨w.heap.size + 1 + 1 + 1, 1, none⟩) (by simp only; omega) (.int .i64 0)).setCell (p := ⟨w.heap.size + 1 + 1 + 1, 2, none⟩) (by simp only; omega) (.slice none 0 0)))
        obtain ⟨q0, q1, q2⟩ := dUnhide Q9 w4 (.int .i64 0) (.int .i64 0) (.slice none 0 0) hcur
        obtain ⟨⟨z0, f0⟩, ⟨z1, f1⟩, ⟨z2, f2⟩⟩ := dUnhide FZ w4 hcur
        clear CR CK CA CC CT CM CN EB PD E9 Q9 FZ PS
        go_wp2_with fail
        generalize (((w4.setCell ⟨w.heap.size + 1 + 1 + 1, 0, none⟩ (.int .i64 0)).setCell ⟨w.heap.size + 1 + 1 + 1, 1, none⟩ (.int .i64 0)).setCell ⟨w.heap.size + 1 + 1 + 1, 2, none⟩ (.slice none 0 0)) = V at *
        exact bodyPost_ret (v := .tuple #[.agg #[.int .i64 0, .int .i64 0, .slice none 0 0], .int .i64 1]) (by simp [results, Tryz.results29, go_sem, q0, q1, q2]) rfl (dUnhide F)
      · have CM4 := dHide (dUnhide CM w4 (belowThen B0 hcur) ((dUnhide PD).2 ⟨hp1, hp2, h4.1 rfl⟩))
        obtain ⟨⟨x0, x1⟩, ⟨x2, x3⟩, x4, x5, x6⟩ := dUnhide PS w4 hcur
        clear h4 hp1 hp2 CR CK CA CN EB PD CM
        go_wp2_with fail
        refine (dUnhide CM4).mono ?_
        rintro e w5 ⟨hq, bl5⟩
        replace hcur := belowThen hcur bl5
        clear CM4 x0 x1 x2 x3 x4 x5 x6 bl5
        obtain ⟨⟨x0, x1⟩, ⟨x2, x3⟩, x4, x5, x6⟩ := dUnhide PS w5 hcur
        rcases hq with ⟨hh, hfit, rfl, hM⟩ | ⟨cd, hcd, rfl, hM⟩
        · have CT5 := dHide (dUnhide CT w5 (belowThen B0 hcur) hh hfit)
          unfold AnsV at CT5
          simp only [tellR] at CT5 hM
          have HM := dHide hM
          generalize hh.val = hv at *
          generalize hh.ev = ev at *
          clear hM hfit CC CT
          go_wp2_with fail
          refine (dUnhide CT5).mono ?_
          rintro e w9 ⟨a9, c9, rfl, O9, bl9⟩
          have b09 := belowThen hcur bl9
          have O9' : ApV w9 w5.heap.size (.slice a9 (ms.length + 1) c9) (ms ++ [ev]) := by simpa using O9
          have F := dHide (dUnhide E9 w9 ⟨hh.on.1, hh.on.2, ms ++ [ev]⟩ 0 a9 c9 (ms.length + 1) _ (dUnhide HM) (by simp) O9' hcur.size (belowThen B0 b09))
          dsimp only at F
          obtain ⟨q0, q1, q2⟩ := dUnhide Q9 w9 (.int .i64 hh.on.1) (.int .i64 hh.on.2) (.slice a9 (ms.length + 1) c9) b09
          obtain ⟨⟨z0, f0⟩, ⟨z1, f1⟩, ⟨z2, f2⟩⟩ := dUnhide FZ w9 b09
          simp only [List.length_append, List.length_cons, List.length_nil, Nat.zero_add]
          clear O9 O9' bl9 E9 Q9 FZ PS CT5 HM x0 x1 x2 x3 x4 x5 x6
          go_wp2_with fail
          generalize (((w9.setCell ⟨w.heap.size + 1 + 1 + 1, 0, none⟩ (.int .i64 hh.on.1)).setCell ⟨w.heap.size + 1 + 1 + 1, 1, none⟩ (.int .i64 hh.on.2)).setCell ⟨w.heap.size + 1 + 1 + 1, 2, none⟩ (.slice a9 (ms.length + 1) c9)) = V at *
          exact bodyPost_ret (v := .tuple #[.agg #[.int .i64 hh.on.1, .int .i64 hh.on.2, .slice a9 (ms.length + 1) c9], .int .i64 0]) (by simp [results, Tryz.results29, go_sem, q0, q1, q2]) rfl (dUnhide F)
        · have hn : (cd != 0) = true := by rcases hcd with rfl | rfl <;> rfl
          have CC5 := dHide (dUnhide CC w5 (belowThen B0 hcur))
          unfold AnsV at CC5
          have HM := dHide hM
          clear hM hcd CC CT
          go_wp2_with fail
          refine (dUnhide CC5).mono ?_
          rintro e w9 ⟨a9, c9, rfl, O9, bl9⟩
          have b09 := belowThen hcur bl9
          have F := dHide (dUnhide E9 w9 ⟨y0, y1, ms⟩ cd a9 c9 ms.length _ (dUnhide HM) rfl O9 hcur.size (belowThen B0 b09))
          dsimp only at F
          obtain ⟨q0, q1, q2⟩ := dUnhide Q9 w9 (.int .i64 y0) (.int .i64 y1) (.slice a9 ms.length c9) b09
          obtain ⟨⟨z0, f0⟩, ⟨z1, f1⟩, ⟨z2, f2⟩⟩ := dUnhide FZ w9 b09
          clear O9 bl9 E9 Q9 FZ PS CC5 HM x0 x1 x2 x3 x4 x5 x6
          go_wp2_with fail
          generalize (((w9.setCell ⟨w.heap.size + 1 + 1 + 1, 0, none⟩ (.int .i64 y0)).setCell ⟨w.heap.size + 1 + 1 + 1, 1, none⟩ (.int .i64 y1)).setCell ⟨w.heap.size + 1 + 1 + 1, 2, none⟩ (.slice a9 ms.length c9)) = V at *
          exact bodyPost_ret (v := .tuple #[.agg #[.int .i64 y0, .int .i64 y1, .slice a9 ms.length c9], .int .i64 cd]) (by simp [results, Tryz.results29, go_sem, q0, q1, q2]) rfl (dUnhide F)
theorem AnsN.sits {w w' : World} {M : Rr × Int} {e : Ending} (h : AnsN w M e w') : ∃ u, e = .returned (.tuple #[u, .int .i64 M.2]) ∧ Sits (OwReader w.heap.size w'.heap.size u M.1) w.heap.size w'.heap.size w' ∧ Below w.heap.size w w' := by
  obtain ⟨u, h1, h2, h3⟩ := h
  exact ⟨u, h1, h2.sits (Nat.le_refl _), h3⟩
theorem nextM_len (ds : List Int) (cop : Int) (g : Rg) (sure : Int) (r : Rr) (l : List Aw) : (nextM ds cop g sure r l).1.out.length ≤ r.out.length + 1 := by
  unfold nextM stepM
  repeat' split
  all_goals simp [tellR]
theorem bothReaderNext_ (m0 : List Int × Int) (m1 : Rg) (m2 : Int) (m3 : Rr) (m4 : List Aw) (ok0 : okConfig m0) (ok1 : okRegister m1) (ok2 : okInt m2) (ok3 : okReader m3) (ok4 : okAnswerS m4) (hs0 : sizConfig m0 ≤ 1048576) (hs1 : sizRegister m1 ≤ 1048576) (hs3 : sizReader m3 ≤ 1048576) (hs4 : sizAnswerS m4 ≤ 1048576) : ∃ (R : Rr) (s1 : Int), cntReader R ≤ 8388608 ∧ (∀ W v0 v1 v3 v4, RdConfig v0 m0 W → RdRegister v1 m1 W → RdReader v3 m3 W → RdAnswerS v4 m4 W → Calls Tryz.prog 30 #[v0, v1, .int .i64 m2, v3, v4] W fun e w' => ∃ u, e = .returned (.tuple #[u, .int .i64 s1]) ∧ Sits (OwReader W.heap.size w'.heap.size u R) W.heap.size w'.heap.size w' ∧ Below W.heap.size W w') ∧ (∀ W v0 v1 v3 v4, RdConfig v0 m0 W → RdRegister v1 m1 W → RdReader v3 m3 W → RdAnswerS v4 m4 W → Calls Tryz.prog 29 #[v0, v1, .int .i64 m2, v3, v4] W fun e w' => ∃ u, e = .returned (.tuple #[u, .int .i64 s1]) ∧ Sits (OwReader W.heap.size w'.heap.size u R) W.heap.size w'.heap.size w' ∧ Below W.heap.size W w') := by
  have hl3 : m3.out.length ≤ 1048576 := by unfold sizReader sizEventS at hs3; omega
  have hl4 : m4.length ≤ 1048576 := by unfold sizAnswerS at hs4; omega
  refine ⟨(nextM m0.1 m0.2 m1 m2 m3 m4).1, (nextM m0.1 m0.2 m1 m2 m3 m4).2, ?_, fun W v0 v1 v3 v4 h0 h1 h3 h4 => (specNext_any v0 v1 v3 v4 m0 m1 m2 m3 m4 W h0 h1 h3 h4 ok1 (fun a ha => (ok4 a ha).2) hs1 hl4 hl3).mono fun e w' h => h.sits, fun W v0 v1 v3 v4 h0 h1 h3 h4 => (implNext_any v0 v1 v3 v4 m0 m1 m2 m3 m4 W h0 h1 h3 h4 ok0 ok1 ok3.1 ok4 hs0 hs1 hl4 hl3).mono fun e w' h => h.sits⟩
  have := nextM_len m0.1 m0.2 m1 m2 m3 m4
  unfold cntReader cntEventS
  omega
end Go.Proofs.YtapfdmmfhfkhkaaGreat
