/- Writers drawn: l8Draw (printed by tools/mkdwd.py). -/
import Derived.Test.YthndkkjgjhgdnaaGreatDoorGk78
import Derived.Deep.RegionLaw
import Derived.Deep.RegionHeld3
import Derived.Deep.DeepCutAuto
namespace Go.Proofs.YthndkkjgjhgdnaaGreatDoor
open Go.ChangeShapes Go.WideShapes Go.ChangeAt Go.RowKit
set_option linter.unusedVariables false
set_option linter.unusedSimpArgs false
set_option maxRecDepth 100000

set_option maxHeartbeats 16000000 in
theorem l8Draw_any (bk : Nat) (ca : Option Addr) (cc : Nat) (ds : List Int) (cop : Int) (w : World) (hc : Cur w bk) (hv : Ns w (.slice ca ds.length cc) ds) (hl : ds.length ≤ 9) (hne : ds = [] ∨ blockOf (.slice ca ds.length cc) ≠ bk) :
    Calls Tryz.prog 66 #[.pointer (some ⟨bk, 0, none⟩), .agg #[.slice ca ds.length cc, .int .i64 cop]] w fun e w' => (∃ (u : Value) (m : Wt), e = .returned (.agg #[.int .i64 m.epoch, u]) ∧ RdW w.heap.size u m.words w' ∧ fitW 60 m) ∧ Cur w' bk ∧ Drawn bk w w' := by
  have ba : ∀ (w : World) o, Below w.heap.size w (w.alloc o) := fun w o => (Below.refl _ _).alloc (Nat.le_refl _) o
  have hk := hc.lt
  have b1 := ba w (.cells #[.slice ca ds.length cc, .int .i64 cop] 26)
  have b2 := ba (w.alloc (.cells #[.slice ca ds.length cc, .int .i64 cop] 26)) (.cells #[.int .i64 0, .slice none 0 0] 40)
  have bb := belowThen b1 b2
  have e1 : (w.alloc (.cells #[.slice ca ds.length cc, .int .i64 cop] 26)).heap.size = w.heap.size + 1 := by simp
  have e2 : ((w.alloc (.cells #[.slice ca ds.length cc, .int .i64 cop] 26)).alloc (.cells #[.int .i64 0, .slice none 0 0] 40)).heap.size = w.heap.size + 2 := by simp
  have R0 := BxZ.new (B := w.heap.size) (w.alloc (.cells #[.slice ca ds.length cc, .int .i64 cop] 26)) [.int .i64 0, .slice none 0 0] 40 (by rw [e1]; omega)
  rw [e1] at R0
  have hc0 := hc.below bb
  have hv0 := hv.below bb
  have D0 := Drawn.of_below (bk := bk) bb
  clear b1 b2 bb hc hv e1
  go_enter Tryz.func66, Tryz.ntmps66
  go_wp2_with fail
  generalize (w.alloc (.cells #[.slice ca ds.length cc, .int .i64 cop] 26)).alloc (.cells #[.int .i64 0, .slice none 0 0] 40) = w0 at *
  refine (l8DrawRight_any bk ca cc ds cop w0 hc0 hv0 hl hne).mono ?_
  rintro e w1 ⟨⟨m, a, c, rfl, O1, fit1⟩, hc1, hd1⟩
  have hs1 := hd1.size
  have hel : m.words.length ≤ 14 := fit1.1
  have bA := ba w1 (.cells #[.int .i64 m.epoch, .slice a m.words.length c] 40)
  have DB2 := DV.made O1 (Nat.le_refl _)
  have res2 := (R0.drawn hd1 (by omega)).below bA
  have hc2 := hc1.below bA
  have D2 := (D0.trans hd1).trans (Drawn.of_below bA)
  clear R0 hc0 hv0 D0 O1 hc1 hd1 bA
  go_wp2_with fail
  generalize hrb : w1.heap.size = rb at *
  generalize w1.alloc (.cells #[.int .i64 m.epoch, .slice a m.words.length c] 40) = w2 at *
  refine (l1Below_any bk 25 (by omega) (by omega) _ hc2).mono ?_
  rintro r w3 ⟨⟨x, hx, rfl⟩, hc3, hd3⟩
  have DB3 := DB2.drawn hd3 (by omega) (by omega)
  have res3 := res2.drawn hd3 (by omega)
  have D3 := D2.trans hd3
  clear DB2 res2 hc2 D2 hd3 hrb
  by_cases hx0 : x = 0
  · subst hx0
    go_wp2_with fail
    refine (pick_new hc3 [0, 30, 31] _ (by simp) (by simp) _).mono ?_
    rintro r w5 ⟨⟨y, hy, rfl⟩, hc5, hd5⟩
    have hy0 : 0 ≤ y ∧ y ≤ 31 := by
      simp only [List.mem_cons, List.mem_nil_iff, or_false] at hy
      omega
    have DB5 := DB3.drawn hd5 (by omega) (by omega)
    obtain ⟨n0, g0⟩ := DB5.box.2 0 _ rfl
    have hap := DB5.apart
    have hres := (res3.drawn hd5 (by omega)).far (b' := rb) (o := 0) (by omega) (.int .i64 y)
    have hbox := DB5.box.put 0 (.int .i64 y)
    have hrd : RdW w0.heap.size (.slice a m.words.length c) m.words (w5.setCell ⟨rb, 0, none⟩ (.int .i64 y)) := RdW.of (DB5.own.same fun j h1 h2 => Below.heap_setCell _ _ _ j (by simp only; omega))
    have hcur := hc5.setNew4 (b := rb) (by omega) 0 (.int .i64 y)
    have hdr := (D3.trans hd5).setNew (b := rb) (by omega) 0 (.int .i64 y)
    have hfit : fitW 60 ⟨y, m.words⟩ := ⟨by have := fit1.1; simp only; omega, fun e he => (fit1.more (show 14 ≤ 60 by omega)).2.1 e he, by simp only; omega, by simp only; omega⟩
    clear DB5 DB3 res3 D3 hc3 hc5 hd5 hy
    obtain ⟨z0, f0⟩ := hres.2 0 _ rfl
    obtain ⟨z1, f1⟩ := hres.2 1 _ rfl
    have k0 := (hbox.2 0 _ rfl).1
    have k1 := (hbox.2 1 _ rfl).1
    have ZZ := dHide ((hres.put 0 (.int .i64 y)).put 1 (.slice a m.words.length c))
    have OO := dHide ((hrd.far (b := w.heap.size + 1) (o := 0) (by omega) (.int .i64 y)).far (b := w.heap.size + 1) (o := 1) (by omega) (.slice a m.words.length c))
    have CC := dHide ((hcur.setNew4 (b := w.heap.size + 1) (by omega) 0 (.int .i64 y)).setNew4 (b := w.heap.size + 1) (by omega) 1 (.slice a m.words.length c))
    have DD := dHide ((hdr.setNew (b := w.heap.size + 1) (by omega) 0 (.int .i64 y)).setNew (b := w.heap.size + 1) (by omega) 1 (.slice a m.words.length c))
    have FF := dHide hfit
    clear hres hbox hrd hcur hdr hfit
    go_wp2_with fail
    generalize ((w5.setCell ⟨rb, 0, none⟩ (.int .i64 y)).setCell ⟨w.heap.size + 1, 0, none⟩ (.int .i64 y)).setCell ⟨w.heap.size + 1, 1, none⟩ (.slice a m.words.length c) = V at *
    have qq0 := ((dUnhide ZZ).2 0 _ rfl).1
    have qq1 := ((dUnhide ZZ).2 1 _ rfl).1
    refine bodyPost_ret (v := .agg #[.int .i64 y, .slice a m.words.length c]) (by simp [results, Tryz.results66, go_sem, qq0, qq1]) rfl ⟨⟨_, ⟨y, m.words⟩, rfl, (dUnhide OO).mono (by omega), dUnhide FF⟩, dUnhide CC, dUnhide DD⟩
  by_cases hx1 : x = 1
  · subst hx1
    by_cases hn : (0 : Int) < (m.words.length : Int)
    case neg =>
      have hres := res3
      have hbox := DB3.box
      have hrd := RdW.of DB3.own
      have hcur := hc3
      have hdr := D3
      have hfit := fit1.more (show 14 ≤ 60 by omega)
      obtain ⟨z0, f0⟩ := hres.2 0 _ rfl
      obtain ⟨z1, f1⟩ := hres.2 1 _ rfl
      have k0 := (hbox.2 0 _ rfl).1
      have k1 := (hbox.2 1 _ rfl).1
      have ZZ := dHide ((hres.put 0 (.int .i64 m.epoch)).put 1 (.slice a m.words.length c))
      have OO := dHide ((hrd.far (b := w.heap.size + 1) (o := 0) (by omega) (.int .i64 m.epoch)).far (b := w.heap.size + 1) (o := 1) (by omega) (.slice a m.words.length c))
      have CC := dHide ((hcur.setNew4 (b := w.heap.size + 1) (by omega) 0 (.int .i64 m.epoch)).setNew4 (b := w.heap.size + 1) (by omega) 1 (.slice a m.words.length c))
      have DD := dHide ((hdr.setNew (b := w.heap.size + 1) (by omega) 0 (.int .i64 m.epoch)).setNew (b := w.heap.size + 1) (by omega) 1 (.slice a m.words.length c))
      have FF := dHide hfit
      clear hres hbox hrd hcur hdr hfit
      go_wp2_with fail
      generalize (w3.setCell ⟨w.heap.size + 1, 0, none⟩ (.int .i64 m.epoch)).setCell ⟨w.heap.size + 1, 1, none⟩ (.slice a m.words.length c) = V at *
      have qq0 := ((dUnhide ZZ).2 0 _ rfl).1
      have qq1 := ((dUnhide ZZ).2 1 _ rfl).1
      refine bodyPost_ret (v := .agg #[.int .i64 m.epoch, .slice a m.words.length c]) (by simp [results, Tryz.results66, go_sem, qq0, qq1]) rfl ⟨⟨_, m, rfl, (dUnhide OO).mono (by omega), dUnhide FF⟩, dUnhide CC, dUnhide DD⟩
    · have hkl : 0 < m.words.length := by omega
      have DBd := DB3.below (Below.refl _ _).drew
      have resd := res3.below (Below.refl _ _).drew
      have hcd := hc3.below (Below.refl _ _).drew
      have Dd := D3.drew
      obtain ⟨rs, m1, PW, tl, al⟩ := DBd.own
      have hrl : rs.length = m.words.length := by rw [← m1, List.length_map]
      have hk0 : 0 < rs.length := by omega
      obtain ⟨g, cap', eg, -, hgb, hgl, htg⟩ := PW.head hk0
      simp only [Value.slice.injEq] at eg
      obtain ⟨rfl, -, rfl⟩ := eg
      have hgr : g < rb := tl g htg
      obtain ⟨⟨-, -, c2⟩, -, f2⟩ := PW.cells hk0
      simp only [Nat.zero_mul, Nat.zero_add] at c2 f2
      have em : rs[0].m = m.words[0] := by
        have : m.words[0] = (rs.map Nst.m)[0]'(by simpa using hk0) := by simp only [m1]
        rw [this, List.getElem_map]
      obtain ⟨dn, hdn⟩ : ∃ dn, rs[0].m.done = dn := ⟨_, rfl⟩
      rw [hdn] at c2
      have Q2 := PW.done hk0 (!dn)
      simp only [Nat.zero_mul, Nat.zero_add] at Q2
      have k1d := (DBd.box.2 1 _ rfl).1
      have hres := resd.far (b' := g) (o := 2) (by omega) (.bool (!dn))
      have hbox := DBd.box.far (b' := g) (o := 2) (by omega) (.bool (!dn))
      have hrd : RdW w0.heap.size (.slice (some ⟨g, 0, none⟩) m.words.length c) (m.words.set 0 ⟨m.words[0].data, m.words[0].acks, !dn⟩) (w3.drew.setCell ⟨g, 2, none⟩ (.bool (!dn))) := ⟨_, by rw [List.map_set, m1, em], ApR.own elemW Q2.1, Q2.2.1⟩
      have hcur := hcd.setNew4 (b := g) (by omega) 2 (.bool (!dn))
      have hdr := Dd.setNew (b := g) (by omega) 2 (.bool (!dn))
      have hfit : fitW 60 ⟨m.epoch, m.words.set 0 ⟨m.words[0].data, m.words[0].acks, !dn⟩⟩ := by
        have f := fit1.more (show 14 ≤ 60 by omega)
        refine ⟨by simp only [List.length_set]; exact f.1, fun e he => ?_, f.2.2⟩
        rcases List.mem_or_eq_of_mem_set he with he | he
        · exact f.2.1 e he
        · have q := f.2.1 _ (List.getElem_mem hkl)
          rw [he]; exact ⟨q.1, q.2.1, q.2.2⟩
      clear Q2 PW m1 em DBd DB3 res3 resd hcd hc3 D3 Dd tl al
      have kk1 : w3.cell? ⟨rb, 1, none⟩ = some (.slice (some ⟨g, 0, none⟩) m.words.length c) := k1d
      go_wp2_with fail
      refine wp_region_noPanic ?_
      refine wp_region_held_drew (S := fun W => W.cell? ⟨rb, 1, none⟩ = some (.slice (some ⟨g, 0, none⟩) m.words.length c)) (by kernel_rfl) (by first | exact k1d | exact set_other k1d (.inl (by omega)) | go_keep) (fun hHeld => ?_)
      generalize w3.drew = wd at *
      refine wpAnyH_take (i := 0) (oi := { dst := some 23, op := Op.fieldAddr 40 (Operand.tmp 5) 1, type := 0, pos := "l08_writer.go:99", after := #[], guard := none }) (v := ?_) rfl (by kernel_rfl) (by kernel_rfl) (by kernel_rfl) (fun _ _ _ h => h) (Or.inl ⟨by rfl, ?_⟩) (by assumption) ?_
      rotate_left 1
      · intro w hSw
        (try dsimp only at hSw)
        first | (go_simp; done) | (go_simp; with_reducible rfl)
      try simp only [Act.put, List.setIfInBounds_toArray, List.set_cons_zero, List.set_cons_succ]
      refine wpAnyH_take (i := 1) (oi := { dst := some 24, op := Op.load 38 (Operand.tmp 23), type := 38, pos := "l08_writer.go:99", after := #[{ on := 0, ground := Ground.data }], guard := none }) (v := ?_) rfl (by kernel_rfl) (by kernel_rfl) (by kernel_rfl) (fun _ _ _ h => h) (Or.inl ⟨by rfl, ?_⟩) (by assumption) ?_
      rotate_left 1
      · intro w hSw
        (try dsimp only at hSw)
        first | (go_simp; done) | (go_simp; with_reducible rfl)
      try simp only [Act.put, List.setIfInBounds_toArray, List.set_cons_zero, List.set_cons_succ]
      refine wpAnyH_take (i := 2) (oi := { dst := some 25, op := Op.fieldAddr 40 (Operand.tmp 5) 1, type := 0, pos := "l08_writer.go:99", after := #[], guard := none }) (v := ?_) rfl (by kernel_rfl) (by kernel_rfl) (by kernel_rfl) (fun _ _ _ h => h) (Or.inl ⟨by rfl, ?_⟩) (by assumption) ?_
      rotate_left 1
      · intro w hSw
        (try dsimp only at hSw)
        first | (go_simp; done) | (go_simp; with_reducible rfl)
      try simp only [Act.put, List.setIfInBounds_toArray, List.set_cons_zero, List.set_cons_succ]
      refine wpAnyH_take (i := 3) (oi := { dst := some 26, op := Op.load 38 (Operand.tmp 25), type := 38, pos := "l08_writer.go:99", after := #[{ on := 2, ground := Ground.data }], guard := none }) (v := ?_) rfl (by kernel_rfl) (by kernel_rfl) (by kernel_rfl) (fun _ _ _ h => h) (Or.inl ⟨by rfl, ?_⟩) (by assumption) ?_
      rotate_left 1
      · intro w hSw
        (try dsimp only at hSw)
        first | (go_simp; done) | (go_simp; with_reducible rfl)
      try simp only [Act.put, List.setIfInBounds_toArray, List.set_cons_zero, List.set_cons_succ]
      refine wpAnyH_take (i := 4) (oi := { dst := some 27, op := Op.indexAddr 38 (Operand.tmp 26) (Operand.const (Value.int IntKind.i64 0)), type := 0, pos := "l08_writer.go:99", after := #[{ on := 3, ground := Ground.data }], guard := none }) (v := ?_) rfl (by kernel_rfl) (by kernel_rfl) (by kernel_rfl) (fun _ _ _ h => h) (Or.inl ⟨by rfl, ?_⟩) (by assumption) ?_
      rotate_left 1
      · intro w hSw
        (try dsimp only at hSw)
        first | (go_simp; done) | (go_simp; with_reducible rfl)
      try simp only [Act.put, List.setIfInBounds_toArray, List.set_cons_zero, List.set_cons_succ]
      refine wpAnyH_take (i := 5) (oi := { dst := some 28, op := Op.fieldAddr 82 (Operand.tmp 27) 2, type := 0, pos := "l08_writer.go:99", after := #[{ on := 4, ground := Ground.data }], guard := none }) (v := ?_) rfl (by kernel_rfl) (by kernel_rfl) (by kernel_rfl) (fun _ _ _ h => h) (Or.inl ⟨by rfl, ?_⟩) (by assumption) ?_
      rotate_left 1
      · intro w hSw
        (try dsimp only at hSw)
        first | (go_simp; done) | (go_simp; with_reducible rfl)
      try simp only [Act.put, List.setIfInBounds_toArray, List.set_cons_zero, List.set_cons_succ]
      refine wpAnyH_ready (rs := [6]) (by kernel_rfl) (by simp) ?_
      refine AllReadyH.cons (o := { dst := some 29, op := Op.load 4 (Operand.tmp 28), type := 4, pos := "l08_writer.go:99", after := #[{ on := 5, ground := Ground.data }], guard := none }) rfl (fun K hK => ?_) AllReadyH.nil
      go_simp
      refine hK.out _ _ (by first | exact k1d | exact set_other k1d (.inl (by omega)) | go_keep) (fun hHeld => ?_)
      clear hK K
      try simp only [Act.put, List.setIfInBounds_toArray, List.set_cons_zero, List.set_cons_succ]
      refine wpAnyH_take (i := 7) (oi := { dst := some 30, op := Op.unOp UnOp.not 4 (Operand.tmp 29), type := 4, pos := "l08_writer.go:99", after := #[{ on := 6, ground := Ground.data }], guard := none }) (v := ?_) rfl (by kernel_rfl) (by kernel_rfl) (by kernel_rfl) (fun _ _ _ h => h) (Or.inl ⟨by rfl, ?_⟩) (by assumption) ?_
      rotate_left 1
      · intro w hSw
        (try dsimp only at hSw)
        first | (go_simp; done) | (go_simp; with_reducible rfl)
      try simp only [Act.put, List.setIfInBounds_toArray, List.set_cons_zero, List.set_cons_succ]
      refine wpAnyH_take (i := 8) (oi := { dst := some 31, op := Op.indexAddr 38 (Operand.tmp 24) (Operand.const (Value.int IntKind.i64 0)), type := 0, pos := "l08_writer.go:99", after := #[{ on := 1, ground := Ground.data }, { on := 0, ground := Ground.phase }, { on := 1, ground := Ground.phase }, { on := 2, ground := Ground.phase }, { on := 3, ground := Ground.phase }, { on := 4, ground := Ground.phase }, { on := 5, ground := Ground.phase }, { on := 6, ground := Ground.phase }, { on := 7, ground := Ground.phase }], guard := none }) (v := ?_) rfl (by kernel_rfl) (by kernel_rfl) (by kernel_rfl) (fun _ _ _ h => h) (Or.inl ⟨by rfl, ?_⟩) (by assumption) ?_
      rotate_left 1
      · intro w hSw
        (try dsimp only at hSw)
        first | (go_simp; done) | (go_simp; with_reducible rfl)
      try simp only [Act.put, List.setIfInBounds_toArray, List.set_cons_zero, List.set_cons_succ]
      refine wpAnyH_take (i := 9) (oi := { dst := some 32, op := Op.fieldAddr 82 (Operand.tmp 31) 2, type := 0, pos := "l08_writer.go:99", after := #[{ on := 8, ground := Ground.data }, { on := 0, ground := Ground.phase }, { on := 1, ground := Ground.phase }, { on := 2, ground := Ground.phase }, { on := 3, ground := Ground.phase }, { on := 4, ground := Ground.phase }, { on := 5, ground := Ground.phase }, { on := 6, ground := Ground.phase }, { on := 7, ground := Ground.phase }], guard := none }) (v := ?_) rfl (by kernel_rfl) (by kernel_rfl) (by kernel_rfl) (fun _ _ _ h => h) (Or.inl ⟨by rfl, ?_⟩) (by assumption) ?_
      rotate_left 1
      · intro w hSw
        (try dsimp only at hSw)
        first | (go_simp; done) | (go_simp; with_reducible rfl)
      try simp only [Act.put, List.setIfInBounds_toArray, List.set_cons_zero, List.set_cons_succ]
      refine wpAnyH_ready (rs := [10]) (by kernel_rfl) (by simp) ?_
      refine AllReadyH.cons (o := { dst := none, op := Op.store 4 (Operand.tmp 32) (Operand.tmp 30), type := 0, pos := "l08_writer.go:99", after := #[{ on := 9, ground := Ground.data }, { on := 7, ground := Ground.data }, { on := 0, ground := Ground.phase }, { on := 1, ground := Ground.phase }, { on := 2, ground := Ground.phase }, { on := 3, ground := Ground.phase }, { on := 4, ground := Ground.phase }, { on := 5, ground := Ground.phase }, { on := 6, ground := Ground.phase }, { on := 7, ground := Ground.phase }], guard := none }) rfl (fun K hK => ?_) AllReadyH.nil
      go_simp
      refine hK.out _ _ (by first | exact k1d | exact set_other k1d (.inl (by omega)) | go_keep) (fun hHeld => ?_)
      clear hK K
      try simp only [Act.put, List.setIfInBounds_toArray, List.set_cons_zero, List.set_cons_succ]
      refine wpAnyH_done (by kernel_rfl) ?_ _
      refine NoPanic.normal ?_
      obtain ⟨z0, f0⟩ := hres.2 0 _ rfl
      obtain ⟨z1, f1⟩ := hres.2 1 _ rfl
      have k0 := (hbox.2 0 _ rfl).1
      have k1 := (hbox.2 1 _ rfl).1
      have ZZ := dHide ((hres.put 0 (.int .i64 m.epoch)).put 1 (.slice (some ⟨g, 0, none⟩) m.words.length c))
      have OO := dHide ((hrd.far (b := w.heap.size + 1) (o := 0) (by omega) (.int .i64 m.epoch)).far (b := w.heap.size + 1) (o := 1) (by omega) (.slice (some ⟨g, 0, none⟩) m.words.length c))
      have CC := dHide ((hcur.setNew4 (b := w.heap.size + 1) (by omega) 0 (.int .i64 m.epoch)).setNew4 (b := w.heap.size + 1) (by omega) 1 (.slice (some ⟨g, 0, none⟩) m.words.length c))
      have DD := dHide ((hdr.setNew (b := w.heap.size + 1) (by omega) 0 (.int .i64 m.epoch)).setNew (b := w.heap.size + 1) (by omega) 1 (.slice (some ⟨g, 0, none⟩) m.words.length c))
      have FF := dHide hfit
      clear hres hbox hrd hcur hdr hfit
      go_wp2_with fail
      generalize ((wd.setCell ⟨g, 2, none⟩ (.bool (!dn))).setCell ⟨w.heap.size + 1, 0, none⟩ (.int .i64 m.epoch)).setCell ⟨w.heap.size + 1, 1, none⟩ (.slice (some ⟨g, 0, none⟩) m.words.length c) = V at *
      have qq0 := ((dUnhide ZZ).2 0 _ rfl).1
      have qq1 := ((dUnhide ZZ).2 1 _ rfl).1
      refine bodyPost_ret (v := .agg #[.int .i64 m.epoch, .slice (some ⟨g, 0, none⟩) m.words.length c]) (by simp [results, Tryz.results66, go_sem, qq0, qq1]) rfl ⟨⟨_, ⟨m.epoch, m.words.set 0 ⟨m.words[0].data, m.words[0].acks, !dn⟩⟩, rfl, (dUnhide OO).mono (by omega), dUnhide FF⟩, dUnhide CC, dUnhide DD⟩
  by_cases hx2 : x = 2
  · subst hx2
    have hp0 : DE8 w bk rb w0.heap.size w3 ⟨none, 0, ⟨⟨#[]⟩, [], false⟩⟩ m.words m.epoch a c := by
      obtain ⟨rs, m1, PW, tl, al⟩ := DB3.own
      refine ⟨hc3, D3, res3, DB3.box, ⟨rs, m1, PW.1, fun q hq => ⟨PW.2.1 q hq, ?_⟩⟩, ⟨⟨by simp, none, 0, rfl, by simp, .inl rfl⟩, .inl rfl⟩, fun e => by have := tl _ e; omega⟩
      obtain ⟨i, hi, rfl⟩ := List.mem_iff_getElem.1 hq
      rcases al _ hq with h | h
      · exact .inl h
      · rcases PW.2.2.2 i hi with h' | h'
        · exact .inl h'
        · exact .inr ⟨h', by omega⟩
    have hrl : rb < w3.heap.size := DB3.lt
    clear DB3 res3 D3 hc3
    have Ec := hp0.below (Below.refl _ _).drew
    have k1d := (Ec.box.2 1 _ rfl).1
    have hsz : w3.heap.size ≤ w3.drew.heap.size := Nat.le_refl _
    have kk1 := (hp0.box.2 1 _ rfl).1
    go_wp2_with fail
    refine wp_region_noPanic ?_
    refine wp_region_held_drew (S := fun _ => True) (by kernel_rfl) (by trivial) (fun hHeld => ?_)
    clear hp0 kk1
    generalize w3.drew = wd at *
    refine wpAnyH_take (i := 0) (oi := { dst := some 35, op := Op.fieldAddr 40 (Operand.tmp 5) 1, type := 0, pos := "l08_writer.go:102", after := #[], guard := none }) (v := ?_) rfl (by kernel_rfl) (by kernel_rfl) (by kernel_rfl) (fun _ _ _ h => h) (Or.inl ⟨by rfl, ?_⟩) (by assumption) ?_
    rotate_left 1
    · intro w hSw
      (try dsimp only at hSw)
      first | (go_simp; done) | (go_simp; with_reducible rfl)
    try simp only [Act.put, List.setIfInBounds_toArray, List.set_cons_zero, List.set_cons_succ]
    refine wpAnyH_take (i := 2) (oi := { dst := some 37, op := Op.move (Operand.tmp 0), type := 61, pos := "l08_writer.go:102", after := #[], guard := none }) (v := ?_) rfl (by kernel_rfl) (by kernel_rfl) (by kernel_rfl) (fun _ _ _ h => h) (Or.inl ⟨by rfl, ?_⟩) (by assumption) ?_
    rotate_left 1
    · intro w hSw
      (try dsimp only at hSw)
      first | (go_simp; done) | (go_simp; with_reducible rfl)
    try simp only [Act.put, List.setIfInBounds_toArray, List.set_cons_zero, List.set_cons_succ]
    refine wpAnyH_ready (rs := [1, 3]) (by kernel_rfl) (by simp) ?_
    refine AllReadyH.cons (o := { dst := some 36, op := Op.load 38 (Operand.tmp 35), type := 38, pos := "l08_writer.go:102", after := #[{ on := 0, ground := Ground.data }], guard := none }) rfl (fun K hK => ?_) (AllReadyH.cons (o := { dst := some 38, op := Op.call { callee := Callee.value (Operand.func 57), args := #[Operand.tmp 37, Operand.const (Value.int IntKind.i64 2)], argTypes := #[61, 3] }, type := 3, pos := "l08_writer.go:102", after := #[{ on := 2, ground := Ground.data }], guard := none }) rfl (fun K hK => ?_) AllReadyH.nil)
    · go_simp
      refine hK.out _ _ (by trivial) (fun hHeld => ?_)
      clear hK K
      try simp only [Act.put, List.setIfInBounds_toArray, List.set_cons_zero, List.set_cons_succ]
      refine wpAnyH_ready (rs := [3]) (by kernel_rfl) (by simp) ?_
      refine AllReadyH.cons (o := { dst := some 38, op := Op.call { callee := Callee.value (Operand.func 57), args := #[Operand.tmp 37, Operand.const (Value.int IntKind.i64 2)], argTypes := #[61, 3] }, type := 3, pos := "l08_writer.go:102", after := #[{ on := 2, ground := Ground.data }], guard := none }) rfl (fun K hK => ?_) AllReadyH.nil
      go_simp
      refine (l1Below_any bk 2 (by omega) (by omega) wd Ec.cur).mono ?_
      rintro e wd ⟨⟨y, hy, rfl⟩, hc5, hd5⟩
      replace Ec := Ec.move hk (by omega) (by omega) hc5 hd5
      replace k1d := (Ec.box.2 1 _ rfl).1
      replace hsz : w3.heap.size ≤ wd.heap.size := Nat.le_trans hsz hd5.size
      have hwy : IntKind.i64.wrap (40 + (y : Int)) = 40 + (y : Int) := by rw [IntKind.wrap_i64]; omega
      obtain ⟨wz, S9, hmk, hcv, hS9, bz⟩ := zeros_new wd (40 + y) (by omega)
      rw [show ((40 + y : Nat) : Int) = 40 + (y : Int) by omega] at hmk
      clear hc5 hd5
      (try go_wp2_with fail)
      refine hK.out _ _ (by trivial) (fun hHeld => ?_)
      clear hK K
      try simp only [Act.put, List.setIfInBounds_toArray, List.set_cons_zero, List.set_cons_succ]
      refine wpAnyH_take (i := 4) (oi := { dst := some 39, op := Op.binOp BinOp.add 3 (Operand.const (Value.int IntKind.i64 40)) (Operand.tmp 38) 3, type := 3, pos := "l08_writer.go:102", after := #[{ on := 3, ground := Ground.data }], guard := none }) (v := ?_) rfl (by kernel_rfl) (by kernel_rfl) (by kernel_rfl) (fun _ _ _ h => h) (Or.inl ⟨by rfl, ?_⟩) (by assumption) ?_
      rotate_left 1
      · intro w hSw
        (try dsimp only at hSw)
        first | (go_simp; done) | (go_simp; with_reducible rfl)
      try simp only [Act.put, List.setIfInBounds_toArray, List.set_cons_zero, List.set_cons_succ]
      refine wpAnyH_ready (rs := [5]) (by kernel_rfl) (by simp) ?_
      refine AllReadyH.cons (o := { dst := some 40, op := Op.makeSlice 22 (Operand.tmp 39) (Operand.tmp 39), type := 22, pos := "l08_writer.go:102", after := #[{ on := 4, ground := Ground.data }, { on := 4, ground := Ground.data }], guard := none }) rfl (fun K hK => ?_) AllReadyH.nil
      go_simp
      replace Ec := Ec.below bz
      replace k1d := (Ec.box.2 1 _ rfl).1
      replace hsz : w3.heap.size ≤ wz.heap.size := Nat.le_trans hsz bz.size
      generalize wd.heap.size = bz9 at *
      clear bz hmk
      generalize wz = wd at *
      (try go_wp2_with fail)
      refine hK.out _ _ (by trivial) (fun hHeld => ?_)
      clear hK K
      try simp only [Act.put, List.setIfInBounds_toArray, List.set_cons_zero, List.set_cons_succ]
      refine wpAnyH_ready (rs := [6]) (by kernel_rfl) (by simp) ?_
      refine AllReadyH.cons (o := { dst := some 41, op := Op.convert 22 9 (Operand.tmp 40), type := 9, pos := "l08_writer.go:102", after := #[{ on := 5, ground := Ground.data }], guard := none }) rfl (fun K hK => ?_) AllReadyH.nil
      go_simp
      refine hK.out _ _ (by trivial) (fun hHeld => ?_)
      clear hK K
      try simp only [Act.put, List.setIfInBounds_toArray, List.set_cons_zero, List.set_cons_succ]
      refine wpAnyH_take (i := 7) (oi := { dst := some 42, op := Op.build 82 #[(0, Operand.tmp 41)], type := 82, pos := "l08_writer.go:102", after := #[{ on := 6, ground := Ground.data }], guard := none }) (v := ?_) rfl (by kernel_rfl) (by kernel_rfl) (by kernel_rfl) (fun _ _ _ h => h) (Or.inl ⟨by rfl, ?_⟩) (by assumption) ?_
      rotate_left 1
      · intro w hSw
        (try dsimp only at hSw)
        first | (go_simp; done) | (go_simp; with_reducible rfl)
      try simp only [Act.put, List.setIfInBounds_toArray, List.set_cons_zero, List.set_cons_succ]
      refine wpAnyH_ready (rs := [8]) (by kernel_rfl) (by simp) ?_
      refine AllReadyH.cons (o := { dst := some 43, op := Op.buildSlice 38 1 #[(0, Operand.tmp 42)], type := 38, pos := "l08_writer.go:102", after := #[{ on := 7, ground := Ground.data }], guard := none }) rfl (fun K hK => ?_) AllReadyH.nil
      go_simp
      have hR := rwW_one wd ⟨none, 0, ⟨S9, [], false⟩⟩ 82 1 (by omega)
      have bE := ba wd (.cells #[.string S9, .slice none 0 0, .bool false] 82)
      replace Ec := (Ec.below bE).with_ (q := ⟨none, 0, ⟨S9, [], false⟩⟩) ⟨⟨by simp, none, 0, rfl, by simp, .inl rfl⟩, .inl rfl⟩
      replace k1d := (Ec.box.2 1 _ rfl).1
      have hs9 := bE.size
      obtain ⟨a7, c7, w7, hrun, N7, E7⟩ := Ec.push hk (by omega) (by omega) (by omega) 38 _ hR (by omega)
      have n7 := N7.2 1 _ rfl
      obtain ⟨n1, g1⟩ := n7
      clear hR bE N7 Ec
      generalize wd.heap.size = b9 at *
      generalize wd.alloc (.cells #[.string S9, .slice none 0 0, .bool false] 82) = wd at *
      refine hK.out _ _ (by trivial) (fun hHeld => ?_)
      clear hK K
      try simp only [Act.put, List.setIfInBounds_toArray, List.set_cons_zero, List.set_cons_succ]
      refine wpAnyH_ready (rs := [9]) (by kernel_rfl) (by simp) ?_
      refine AllReadyH.cons (o := { dst := some 44, op := Op.call { callee := Callee.builtin Builtin.append, args := #[Operand.tmp 36, Operand.tmp 43], argTypes := #[38, 38] }, type := 38, pos := "l08_writer.go:102", after := #[{ on := 1, ground := Ground.data }, { on := 8, ground := Ground.data }, { on := 3, ground := Ground.chain }], guard := none }) rfl (fun K hK => ?_) AllReadyH.nil
      refine op_appRun _ _ 38 38 rfl _ _ rfl rfl hrun ?_
      clear hrun k1d
      refine hK.out _ _ (by trivial) (fun hHeld => ?_)
      clear hK K
      try simp only [Act.put, List.setIfInBounds_toArray, List.set_cons_zero, List.set_cons_succ]
      refine wpAnyH_take (i := 10) (oi := { dst := some 45, op := Op.fieldAddr 40 (Operand.tmp 5) 1, type := 0, pos := "l08_writer.go:102", after := #[{ on := 0, ground := Ground.phase }, { on := 1, ground := Ground.phase }, { on := 2, ground := Ground.phase }, { on := 3, ground := Ground.phase }, { on := 4, ground := Ground.phase }, { on := 5, ground := Ground.phase }, { on := 6, ground := Ground.phase }, { on := 7, ground := Ground.phase }, { on := 8, ground := Ground.phase }, { on := 9, ground := Ground.phase }], guard := none }) (v := ?_) rfl (by kernel_rfl) (by kernel_rfl) (by kernel_rfl) (fun _ _ _ h => h) (Or.inl ⟨by rfl, ?_⟩) (by assumption) ?_
      rotate_left 1
      · intro w hSw
        (try dsimp only at hSw)
        first | (go_simp; done) | (go_simp; with_reducible rfl)
      try simp only [Act.put, List.setIfInBounds_toArray, List.set_cons_zero, List.set_cons_succ]
      refine wpAnyH_ready (rs := [11]) (by kernel_rfl) (by simp) ?_
      refine AllReadyH.cons (o := { dst := none, op := Op.store 38 (Operand.tmp 45) (Operand.tmp 44), type := 0, pos := "l08_writer.go:102", after := #[{ on := 10, ground := Ground.data }, { on := 9, ground := Ground.data }, { on := 9, ground := Ground.chain }, { on := 0, ground := Ground.phase }, { on := 1, ground := Ground.phase }, { on := 2, ground := Ground.phase }, { on := 3, ground := Ground.phase }, { on := 4, ground := Ground.phase }, { on := 5, ground := Ground.phase }, { on := 6, ground := Ground.phase }, { on := 7, ground := Ground.phase }, { on := 8, ground := Ground.phase }, { on := 9, ground := Ground.phase }], guard := none }) rfl (fun K hK => ?_) AllReadyH.nil
      go_simp
      refine hK.out _ _ (by trivial) (fun hHeld => ?_)
      clear hK K
      try simp only [Act.put, List.setIfInBounds_toArray, List.set_cons_zero, List.set_cons_succ]
      refine wpAnyH_done (by kernel_rfl) ?_ _
      refine NoPanic.normal ?_
      have hres := E7.res
      have hbox := E7.box
      have hrd := E7.rd
      have hcur := E7.cur
      have hdr := E7.drawn
      have hfit : fitW 60 ⟨m.epoch, m.words ++ [⟨S9, [], false⟩]⟩ := by
        have f := fit1.more (show 14 ≤ 60 by omega)
        refine ⟨by simp only [List.length_append, List.length_singleton]; omega, fun e he => ?_, f.2.2⟩
        rcases List.mem_append.1 he with he | he
        · exact f.2.1 e he
        · obtain rfl : e = ⟨S9, [], false⟩ := by simpa using he
          exact ⟨by simp only; omega, Nat.zero_le _, fun z hz => by cases hz⟩
      have eL : (m.words ++ [(⟨S9, [], false⟩ : Wd)]).length = m.words.length + 1 := by simp
      simp only [eL] at hbox hrd
      clear E7 n1 g1
      generalize w7.setCell ⟨rb, 1, none⟩ (.slice a7 (m.words.length + 1) c7) = w8 at *
      obtain ⟨z0, f0⟩ := hres.2 0 _ rfl
      obtain ⟨z1, f1⟩ := hres.2 1 _ rfl
      have k0 := (hbox.2 0 _ rfl).1
      have k1 := (hbox.2 1 _ rfl).1
      have ZZ := dHide ((hres.put 0 (.int .i64 m.epoch)).put 1 (.slice a7 (m.words.length + 1) c7))
      have OO := dHide ((hrd.far (b := w.heap.size + 1) (o := 0) (by omega) (.int .i64 m.epoch)).far (b := w.heap.size + 1) (o := 1) (by omega) (.slice a7 (m.words.length + 1) c7))
      have CC := dHide ((hcur.setNew4 (b := w.heap.size + 1) (by omega) 0 (.int .i64 m.epoch)).setNew4 (b := w.heap.size + 1) (by omega) 1 (.slice a7 (m.words.length + 1) c7))
      have DD := dHide ((hdr.setNew (b := w.heap.size + 1) (by omega) 0 (.int .i64 m.epoch)).setNew (b := w.heap.size + 1) (by omega) 1 (.slice a7 (m.words.length + 1) c7))
      have FF := dHide hfit
      clear hres hbox hrd hcur hdr hfit
      go_wp2_with fail
      generalize (w8.setCell ⟨w.heap.size + 1, 0, none⟩ (.int .i64 m.epoch)).setCell ⟨w.heap.size + 1, 1, none⟩ (.slice a7 (m.words.length + 1) c7) = V at *
      have qq0 := ((dUnhide ZZ).2 0 _ rfl).1
      have qq1 := ((dUnhide ZZ).2 1 _ rfl).1
      refine bodyPost_ret (v := .agg #[.int .i64 m.epoch, .slice a7 (m.words.length + 1) c7]) (by simp [results, Tryz.results66, go_sem, qq0, qq1]) rfl ⟨⟨_, ⟨m.epoch, m.words ++ [⟨S9, [], false⟩]⟩, rfl, (dUnhide OO).mono (by omega), dUnhide FF⟩, dUnhide CC, dUnhide DD⟩
    · go_simp
      refine (l1Below_any bk 2 (by omega) (by omega) wd Ec.cur).mono ?_
      rintro e wd ⟨⟨y, hy, rfl⟩, hc5, hd5⟩
      replace Ec := Ec.move hk (by omega) (by omega) hc5 hd5
      replace k1d := (Ec.box.2 1 _ rfl).1
      replace hsz : w3.heap.size ≤ wd.heap.size := Nat.le_trans hsz hd5.size
      have hwy : IntKind.i64.wrap (40 + (y : Int)) = 40 + (y : Int) := by rw [IntKind.wrap_i64]; omega
      obtain ⟨wz, S9, hmk, hcv, hS9, bz⟩ := zeros_new wd (40 + y) (by omega)
      rw [show ((40 + y : Nat) : Int) = 40 + (y : Int) by omega] at hmk
      clear hc5 hd5
      (try go_wp2_with fail)
      refine hK.out _ _ (by trivial) (fun hHeld => ?_)
      clear hK K
      try simp only [Act.put, List.setIfInBounds_toArray, List.set_cons_zero, List.set_cons_succ]
      refine wpAnyH_take (i := 4) (oi := { dst := some 39, op := Op.binOp BinOp.add 3 (Operand.const (Value.int IntKind.i64 40)) (Operand.tmp 38) 3, type := 3, pos := "l08_writer.go:102", after := #[{ on := 3, ground := Ground.data }], guard := none }) (v := ?_) rfl (by kernel_rfl) (by kernel_rfl) (by kernel_rfl) (fun _ _ _ h => h) (Or.inl ⟨by rfl, ?_⟩) (by assumption) ?_
      rotate_left 1
      · intro w hSw
        (try dsimp only at hSw)
        first | (go_simp; done) | (go_simp; with_reducible rfl)
      try simp only [Act.put, List.setIfInBounds_toArray, List.set_cons_zero, List.set_cons_succ]
      refine wpAnyH_ready (rs := [1, 5]) (by kernel_rfl) (by simp) ?_
      refine AllReadyH.cons (o := { dst := some 36, op := Op.load 38 (Operand.tmp 35), type := 38, pos := "l08_writer.go:102", after := #[{ on := 0, ground := Ground.data }], guard := none }) rfl (fun K hK => ?_) (AllReadyH.cons (o := { dst := some 40, op := Op.makeSlice 22 (Operand.tmp 39) (Operand.tmp 39), type := 22, pos := "l08_writer.go:102", after := #[{ on := 4, ground := Ground.data }, { on := 4, ground := Ground.data }], guard := none }) rfl (fun K hK => ?_) AllReadyH.nil)
      · go_simp
        refine hK.out _ _ (by trivial) (fun hHeld => ?_)
        clear hK K
        try simp only [Act.put, List.setIfInBounds_toArray, List.set_cons_zero, List.set_cons_succ]
        refine wpAnyH_ready (rs := [5]) (by kernel_rfl) (by simp) ?_
        refine AllReadyH.cons (o := { dst := some 40, op := Op.makeSlice 22 (Operand.tmp 39) (Operand.tmp 39), type := 22, pos := "l08_writer.go:102", after := #[{ on := 4, ground := Ground.data }, { on := 4, ground := Ground.data }], guard := none }) rfl (fun K hK => ?_) AllReadyH.nil
        go_simp
        replace Ec := Ec.below bz
        replace k1d := (Ec.box.2 1 _ rfl).1
        replace hsz : w3.heap.size ≤ wz.heap.size := Nat.le_trans hsz bz.size
        generalize wd.heap.size = bz9 at *
        clear bz hmk
        generalize wz = wd at *
        (try go_wp2_with fail)
        refine hK.out _ _ (by trivial) (fun hHeld => ?_)
        clear hK K
        try simp only [Act.put, List.setIfInBounds_toArray, List.set_cons_zero, List.set_cons_succ]
        refine wpAnyH_ready (rs := [6]) (by kernel_rfl) (by simp) ?_
        refine AllReadyH.cons (o := { dst := some 41, op := Op.convert 22 9 (Operand.tmp 40), type := 9, pos := "l08_writer.go:102", after := #[{ on := 5, ground := Ground.data }], guard := none }) rfl (fun K hK => ?_) AllReadyH.nil
        go_simp
        refine hK.out _ _ (by trivial) (fun hHeld => ?_)
        clear hK K
        try simp only [Act.put, List.setIfInBounds_toArray, List.set_cons_zero, List.set_cons_succ]
        refine wpAnyH_take (i := 7) (oi := { dst := some 42, op := Op.build 82 #[(0, Operand.tmp 41)], type := 82, pos := "l08_writer.go:102", after := #[{ on := 6, ground := Ground.data }], guard := none }) (v := ?_) rfl (by kernel_rfl) (by kernel_rfl) (by kernel_rfl) (fun _ _ _ h => h) (Or.inl ⟨by rfl, ?_⟩) (by assumption) ?_
        rotate_left 1
        · intro w hSw
          (try dsimp only at hSw)
          first | (go_simp; done) | (go_simp; with_reducible rfl)
        try simp only [Act.put, List.setIfInBounds_toArray, List.set_cons_zero, List.set_cons_succ]
        refine wpAnyH_ready (rs := [8]) (by kernel_rfl) (by simp) ?_
        refine AllReadyH.cons (o := { dst := some 43, op := Op.buildSlice 38 1 #[(0, Operand.tmp 42)], type := 38, pos := "l08_writer.go:102", after := #[{ on := 7, ground := Ground.data }], guard := none }) rfl (fun K hK => ?_) AllReadyH.nil
        go_simp
        have hR := rwW_one wd ⟨none, 0, ⟨S9, [], false⟩⟩ 82 1 (by omega)
        have bE := ba wd (.cells #[.string S9, .slice none 0 0, .bool false] 82)
        replace Ec := (Ec.below bE).with_ (q := ⟨none, 0, ⟨S9, [], false⟩⟩) ⟨⟨by simp, none, 0, rfl, by simp, .inl rfl⟩, .inl rfl⟩
        replace k1d := (Ec.box.2 1 _ rfl).1
        have hs9 := bE.size
        obtain ⟨a7, c7, w7, hrun, N7, E7⟩ := Ec.push hk (by omega) (by omega) (by omega) 38 _ hR (by omega)
        have n7 := N7.2 1 _ rfl
        obtain ⟨n1, g1⟩ := n7
        clear hR bE N7 Ec
        generalize wd.heap.size = b9 at *
        generalize wd.alloc (.cells #[.string S9, .slice none 0 0, .bool false] 82) = wd at *
        refine hK.out _ _ (by trivial) (fun hHeld => ?_)
        clear hK K
        try simp only [Act.put, List.setIfInBounds_toArray, List.set_cons_zero, List.set_cons_succ]
        refine wpAnyH_ready (rs := [9]) (by kernel_rfl) (by simp) ?_
        refine AllReadyH.cons (o := { dst := some 44, op := Op.call { callee := Callee.builtin Builtin.append, args := #[Operand.tmp 36, Operand.tmp 43], argTypes := #[38, 38] }, type := 38, pos := "l08_writer.go:102", after := #[{ on := 1, ground := Ground.data }, { on := 8, ground := Ground.data }, { on := 3, ground := Ground.chain }], guard := none }) rfl (fun K hK => ?_) AllReadyH.nil
        refine op_appRun _ _ 38 38 rfl _ _ rfl rfl hrun ?_
        clear hrun k1d
        refine hK.out _ _ (by trivial) (fun hHeld => ?_)
        clear hK K
        try simp only [Act.put, List.setIfInBounds_toArray, List.set_cons_zero, List.set_cons_succ]
        refine wpAnyH_take (i := 10) (oi := { dst := some 45, op := Op.fieldAddr 40 (Operand.tmp 5) 1, type := 0, pos := "l08_writer.go:102", after := #[{ on := 0, ground := Ground.phase }, { on := 1, ground := Ground.phase }, { on := 2, ground := Ground.phase }, { on := 3, ground := Ground.phase }, { on := 4, ground := Ground.phase }, { on := 5, ground := Ground.phase }, { on := 6, ground := Ground.phase }, { on := 7, ground := Ground.phase }, { on := 8, ground := Ground.phase }, { on := 9, ground := Ground.phase }], guard := none }) (v := ?_) rfl (by kernel_rfl) (by kernel_rfl) (by kernel_rfl) (fun _ _ _ h => h) (Or.inl ⟨by rfl, ?_⟩) (by assumption) ?_
        rotate_left 1
        · intro w hSw
          (try dsimp only at hSw)
          first | (go_simp; done) | (go_simp; with_reducible rfl)
        try simp only [Act.put, List.setIfInBounds_toArray, List.set_cons_zero, List.set_cons_succ]
        refine wpAnyH_ready (rs := [11]) (by kernel_rfl) (by simp) ?_
        refine AllReadyH.cons (o := { dst := none, op := Op.store 38 (Operand.tmp 45) (Operand.tmp 44), type := 0, pos := "l08_writer.go:102", after := #[{ on := 10, ground := Ground.data }, { on := 9, ground := Ground.data }, { on := 9, ground := Ground.chain }, { on := 0, ground := Ground.phase }, { on := 1, ground := Ground.phase }, { on := 2, ground := Ground.phase }, { on := 3, ground := Ground.phase }, { on := 4, ground := Ground.phase }, { on := 5, ground := Ground.phase }, { on := 6, ground := Ground.phase }, { on := 7, ground := Ground.phase }, { on := 8, ground := Ground.phase }, { on := 9, ground := Ground.phase }], guard := none }) rfl (fun K hK => ?_) AllReadyH.nil
        go_simp
        refine hK.out _ _ (by trivial) (fun hHeld => ?_)
        clear hK K
        try simp only [Act.put, List.setIfInBounds_toArray, List.set_cons_zero, List.set_cons_succ]
        refine wpAnyH_done (by kernel_rfl) ?_ _
        refine NoPanic.normal ?_
        have hres := E7.res
        have hbox := E7.box
        have hrd := E7.rd
        have hcur := E7.cur
        have hdr := E7.drawn
        have hfit : fitW 60 ⟨m.epoch, m.words ++ [⟨S9, [], false⟩]⟩ := by
          have f := fit1.more (show 14 ≤ 60 by omega)
          refine ⟨by simp only [List.length_append, List.length_singleton]; omega, fun e he => ?_, f.2.2⟩
          rcases List.mem_append.1 he with he | he
          · exact f.2.1 e he
          · obtain rfl : e = ⟨S9, [], false⟩ := by simpa using he
            exact ⟨by simp only; omega, Nat.zero_le _, fun z hz => by cases hz⟩
        have eL : (m.words ++ [(⟨S9, [], false⟩ : Wd)]).length = m.words.length + 1 := by simp
        simp only [eL] at hbox hrd
        clear E7 n1 g1
        generalize w7.setCell ⟨rb, 1, none⟩ (.slice a7 (m.words.length + 1) c7) = w8 at *
        obtain ⟨z0, f0⟩ := hres.2 0 _ rfl
        obtain ⟨z1, f1⟩ := hres.2 1 _ rfl
        have k0 := (hbox.2 0 _ rfl).1
        have k1 := (hbox.2 1 _ rfl).1
        have ZZ := dHide ((hres.put 0 (.int .i64 m.epoch)).put 1 (.slice a7 (m.words.length + 1) c7))
        have OO := dHide ((hrd.far (b := w.heap.size + 1) (o := 0) (by omega) (.int .i64 m.epoch)).far (b := w.heap.size + 1) (o := 1) (by omega) (.slice a7 (m.words.length + 1) c7))
        have CC := dHide ((hcur.setNew4 (b := w.heap.size + 1) (by omega) 0 (.int .i64 m.epoch)).setNew4 (b := w.heap.size + 1) (by omega) 1 (.slice a7 (m.words.length + 1) c7))
        have DD := dHide ((hdr.setNew (b := w.heap.size + 1) (by omega) 0 (.int .i64 m.epoch)).setNew (b := w.heap.size + 1) (by omega) 1 (.slice a7 (m.words.length + 1) c7))
        have FF := dHide hfit
        clear hres hbox hrd hcur hdr hfit
        go_wp2_with fail
        generalize (w8.setCell ⟨w.heap.size + 1, 0, none⟩ (.int .i64 m.epoch)).setCell ⟨w.heap.size + 1, 1, none⟩ (.slice a7 (m.words.length + 1) c7) = V at *
        have qq0 := ((dUnhide ZZ).2 0 _ rfl).1
        have qq1 := ((dUnhide ZZ).2 1 _ rfl).1
        refine bodyPost_ret (v := .agg #[.int .i64 m.epoch, .slice a7 (m.words.length + 1) c7]) (by simp [results, Tryz.results66, go_sem, qq0, qq1]) rfl ⟨⟨_, ⟨m.epoch, m.words ++ [⟨S9, [], false⟩]⟩, rfl, (dUnhide OO).mono (by omega), dUnhide FF⟩, dUnhide CC, dUnhide DD⟩
      · go_simp
        replace Ec := Ec.below bz
        replace k1d := (Ec.box.2 1 _ rfl).1
        replace hsz : w3.heap.size ≤ wz.heap.size := Nat.le_trans hsz bz.size
        generalize wd.heap.size = bz9 at *
        clear bz hmk
        generalize wz = wd at *
        (try go_wp2_with fail)
        refine hK.out _ _ (by trivial) (fun hHeld => ?_)
        clear hK K
        try simp only [Act.put, List.setIfInBounds_toArray, List.set_cons_zero, List.set_cons_succ]
        refine wpAnyH_ready (rs := [1, 6]) (by kernel_rfl) (by simp) ?_
        refine AllReadyH.cons (o := { dst := some 36, op := Op.load 38 (Operand.tmp 35), type := 38, pos := "l08_writer.go:102", after := #[{ on := 0, ground := Ground.data }], guard := none }) rfl (fun K hK => ?_) (AllReadyH.cons (o := { dst := some 41, op := Op.convert 22 9 (Operand.tmp 40), type := 9, pos := "l08_writer.go:102", after := #[{ on := 5, ground := Ground.data }], guard := none }) rfl (fun K hK => ?_) AllReadyH.nil)
        · go_simp
          refine hK.out _ _ (by trivial) (fun hHeld => ?_)
          clear hK K
          try simp only [Act.put, List.setIfInBounds_toArray, List.set_cons_zero, List.set_cons_succ]
          refine wpAnyH_ready (rs := [6]) (by kernel_rfl) (by simp) ?_
          refine AllReadyH.cons (o := { dst := some 41, op := Op.convert 22 9 (Operand.tmp 40), type := 9, pos := "l08_writer.go:102", after := #[{ on := 5, ground := Ground.data }], guard := none }) rfl (fun K hK => ?_) AllReadyH.nil
          go_simp
          refine hK.out _ _ (by trivial) (fun hHeld => ?_)
          clear hK K
          try simp only [Act.put, List.setIfInBounds_toArray, List.set_cons_zero, List.set_cons_succ]
          refine wpAnyH_take (i := 7) (oi := { dst := some 42, op := Op.build 82 #[(0, Operand.tmp 41)], type := 82, pos := "l08_writer.go:102", after := #[{ on := 6, ground := Ground.data }], guard := none }) (v := ?_) rfl (by kernel_rfl) (by kernel_rfl) (by kernel_rfl) (fun _ _ _ h => h) (Or.inl ⟨by rfl, ?_⟩) (by assumption) ?_
          rotate_left 1
          · intro w hSw
            (try dsimp only at hSw)
            first | (go_simp; done) | (go_simp; with_reducible rfl)
          try simp only [Act.put, List.setIfInBounds_toArray, List.set_cons_zero, List.set_cons_succ]
          refine wpAnyH_ready (rs := [8]) (by kernel_rfl) (by simp) ?_
          refine AllReadyH.cons (o := { dst := some 43, op := Op.buildSlice 38 1 #[(0, Operand.tmp 42)], type := 38, pos := "l08_writer.go:102", after := #[{ on := 7, ground := Ground.data }], guard := none }) rfl (fun K hK => ?_) AllReadyH.nil
          go_simp
          have hR := rwW_one wd ⟨none, 0, ⟨S9, [], false⟩⟩ 82 1 (by omega)
          have bE := ba wd (.cells #[.string S9, .slice none 0 0, .bool false] 82)
          replace Ec := (Ec.below bE).with_ (q := ⟨none, 0, ⟨S9, [], false⟩⟩) ⟨⟨by simp, none, 0, rfl, by simp, .inl rfl⟩, .inl rfl⟩
          replace k1d := (Ec.box.2 1 _ rfl).1
          have hs9 := bE.size
          obtain ⟨a7, c7, w7, hrun, N7, E7⟩ := Ec.push hk (by omega) (by omega) (by omega) 38 _ hR (by omega)
          have n7 := N7.2 1 _ rfl
          obtain ⟨n1, g1⟩ := n7
          clear hR bE N7 Ec
          generalize wd.heap.size = b9 at *
          generalize wd.alloc (.cells #[.string S9, .slice none 0 0, .bool false] 82) = wd at *
          refine hK.out _ _ (by trivial) (fun hHeld => ?_)
          clear hK K
          try simp only [Act.put, List.setIfInBounds_toArray, List.set_cons_zero, List.set_cons_succ]
          refine wpAnyH_ready (rs := [9]) (by kernel_rfl) (by simp) ?_
          refine AllReadyH.cons (o := { dst := some 44, op := Op.call { callee := Callee.builtin Builtin.append, args := #[Operand.tmp 36, Operand.tmp 43], argTypes := #[38, 38] }, type := 38, pos := "l08_writer.go:102", after := #[{ on := 1, ground := Ground.data }, { on := 8, ground := Ground.data }, { on := 3, ground := Ground.chain }], guard := none }) rfl (fun K hK => ?_) AllReadyH.nil
          refine op_appRun _ _ 38 38 rfl _ _ rfl rfl hrun ?_
          clear hrun k1d
          refine hK.out _ _ (by trivial) (fun hHeld => ?_)
          clear hK K
          try simp only [Act.put, List.setIfInBounds_toArray, List.set_cons_zero, List.set_cons_succ]
          refine wpAnyH_take (i := 10) (oi := { dst := some 45, op := Op.fieldAddr 40 (Operand.tmp 5) 1, type := 0, pos := "l08_writer.go:102", after := #[{ on := 0, ground := Ground.phase }, { on := 1, ground := Ground.phase }, { on := 2, ground := Ground.phase }, { on := 3, ground := Ground.phase }, { on := 4, ground := Ground.phase }, { on := 5, ground := Ground.phase }, { on := 6, ground := Ground.phase }, { on := 7, ground := Ground.phase }, { on := 8, ground := Ground.phase }, { on := 9, ground := Ground.phase }], guard := none }) (v := ?_) rfl (by kernel_rfl) (by kernel_rfl) (by kernel_rfl) (fun _ _ _ h => h) (Or.inl ⟨by rfl, ?_⟩) (by assumption) ?_
          rotate_left 1
          · intro w hSw
            (try dsimp only at hSw)
            first | (go_simp; done) | (go_simp; with_reducible rfl)
          try simp only [Act.put, List.setIfInBounds_toArray, List.set_cons_zero, List.set_cons_succ]
          refine wpAnyH_ready (rs := [11]) (by kernel_rfl) (by simp) ?_
          refine AllReadyH.cons (o := { dst := none, op := Op.store 38 (Operand.tmp 45) (Operand.tmp 44), type := 0, pos := "l08_writer.go:102", after := #[{ on := 10, ground := Ground.data }, { on := 9, ground := Ground.data }, { on := 9, ground := Ground.chain }, { on := 0, ground := Ground.phase }, { on := 1, ground := Ground.phase }, { on := 2, ground := Ground.phase }, { on := 3, ground := Ground.phase }, { on := 4, ground := Ground.phase }, { on := 5, ground := Ground.phase }, { on := 6, ground := Ground.phase }, { on := 7, ground := Ground.phase }, { on := 8, ground := Ground.phase }, { on := 9, ground := Ground.phase }], guard := none }) rfl (fun K hK => ?_) AllReadyH.nil
          go_simp
          refine hK.out _ _ (by trivial) (fun hHeld => ?_)
          clear hK K
          try simp only [Act.put, List.setIfInBounds_toArray, List.set_cons_zero, List.set_cons_succ]
          refine wpAnyH_done (by kernel_rfl) ?_ _
          refine NoPanic.normal ?_
          have hres := E7.res
          have hbox := E7.box
          have hrd := E7.rd
          have hcur := E7.cur
          have hdr := E7.drawn
          have hfit : fitW 60 ⟨m.epoch, m.words ++ [⟨S9, [], false⟩]⟩ := by
            have f := fit1.more (show 14 ≤ 60 by omega)
            refine ⟨by simp only [List.length_append, List.length_singleton]; omega, fun e he => ?_, f.2.2⟩
            rcases List.mem_append.1 he with he | he
            · exact f.2.1 e he
            · obtain rfl : e = ⟨S9, [], false⟩ := by simpa using he
              exact ⟨by simp only; omega, Nat.zero_le _, fun z hz => by cases hz⟩
          have eL : (m.words ++ [(⟨S9, [], false⟩ : Wd)]).length = m.words.length + 1 := by simp
          simp only [eL] at hbox hrd
          clear E7 n1 g1
          generalize w7.setCell ⟨rb, 1, none⟩ (.slice a7 (m.words.length + 1) c7) = w8 at *
          obtain ⟨z0, f0⟩ := hres.2 0 _ rfl
          obtain ⟨z1, f1⟩ := hres.2 1 _ rfl
          have k0 := (hbox.2 0 _ rfl).1
          have k1 := (hbox.2 1 _ rfl).1
          have ZZ := dHide ((hres.put 0 (.int .i64 m.epoch)).put 1 (.slice a7 (m.words.length + 1) c7))
          have OO := dHide ((hrd.far (b := w.heap.size + 1) (o := 0) (by omega) (.int .i64 m.epoch)).far (b := w.heap.size + 1) (o := 1) (by omega) (.slice a7 (m.words.length + 1) c7))
          have CC := dHide ((hcur.setNew4 (b := w.heap.size + 1) (by omega) 0 (.int .i64 m.epoch)).setNew4 (b := w.heap.size + 1) (by omega) 1 (.slice a7 (m.words.length + 1) c7))
          have DD := dHide ((hdr.setNew (b := w.heap.size + 1) (by omega) 0 (.int .i64 m.epoch)).setNew (b := w.heap.size + 1) (by omega) 1 (.slice a7 (m.words.length + 1) c7))
          have FF := dHide hfit
          clear hres hbox hrd hcur hdr hfit
          go_wp2_with fail
          generalize (w8.setCell ⟨w.heap.size + 1, 0, none⟩ (.int .i64 m.epoch)).setCell ⟨w.heap.size + 1, 1, none⟩ (.slice a7 (m.words.length + 1) c7) = V at *
          have qq0 := ((dUnhide ZZ).2 0 _ rfl).1
          have qq1 := ((dUnhide ZZ).2 1 _ rfl).1
          refine bodyPost_ret (v := .agg #[.int .i64 m.epoch, .slice a7 (m.words.length + 1) c7]) (by simp [results, Tryz.results66, go_sem, qq0, qq1]) rfl ⟨⟨_, ⟨m.epoch, m.words ++ [⟨S9, [], false⟩]⟩, rfl, (dUnhide OO).mono (by omega), dUnhide FF⟩, dUnhide CC, dUnhide DD⟩
        · go_simp
          refine hK.out _ _ (by trivial) (fun hHeld => ?_)
          clear hK K
          try simp only [Act.put, List.setIfInBounds_toArray, List.set_cons_zero, List.set_cons_succ]
          refine wpAnyH_take (i := 7) (oi := { dst := some 42, op := Op.build 82 #[(0, Operand.tmp 41)], type := 82, pos := "l08_writer.go:102", after := #[{ on := 6, ground := Ground.data }], guard := none }) (v := ?_) rfl (by kernel_rfl) (by kernel_rfl) (by kernel_rfl) (fun _ _ _ h => h) (Or.inl ⟨by rfl, ?_⟩) (by assumption) ?_
          rotate_left 1
          · intro w hSw
            (try dsimp only at hSw)
            first | (go_simp; done) | (go_simp; with_reducible rfl)
          try simp only [Act.put, List.setIfInBounds_toArray, List.set_cons_zero, List.set_cons_succ]
          refine wpAnyH_ready (rs := [1, 8]) (by kernel_rfl) (by simp) ?_
          refine AllReadyH.cons (o := { dst := some 36, op := Op.load 38 (Operand.tmp 35), type := 38, pos := "l08_writer.go:102", after := #[{ on := 0, ground := Ground.data }], guard := none }) rfl (fun K hK => ?_) (AllReadyH.cons (o := { dst := some 43, op := Op.buildSlice 38 1 #[(0, Operand.tmp 42)], type := 38, pos := "l08_writer.go:102", after := #[{ on := 7, ground := Ground.data }], guard := none }) rfl (fun K hK => ?_) AllReadyH.nil)
          · go_simp
            refine hK.out _ _ (by trivial) (fun hHeld => ?_)
            clear hK K
            try simp only [Act.put, List.setIfInBounds_toArray, List.set_cons_zero, List.set_cons_succ]
            refine wpAnyH_ready (rs := [8]) (by kernel_rfl) (by simp) ?_
            refine AllReadyH.cons (o := { dst := some 43, op := Op.buildSlice 38 1 #[(0, Operand.tmp 42)], type := 38, pos := "l08_writer.go:102", after := #[{ on := 7, ground := Ground.data }], guard := none }) rfl (fun K hK => ?_) AllReadyH.nil
            go_simp
            have hR := rwW_one wd ⟨none, 0, ⟨S9, [], false⟩⟩ 82 1 (by omega)
            have bE := ba wd (.cells #[.string S9, .slice none 0 0, .bool false] 82)
            replace Ec := (Ec.below bE).with_ (q := ⟨none, 0, ⟨S9, [], false⟩⟩) ⟨⟨by simp, none, 0, rfl, by simp, .inl rfl⟩, .inl rfl⟩
            replace k1d := (Ec.box.2 1 _ rfl).1
            have hs9 := bE.size
            obtain ⟨a7, c7, w7, hrun, N7, E7⟩ := Ec.push hk (by omega) (by omega) (by omega) 38 _ hR (by omega)
            have n7 := N7.2 1 _ rfl
            obtain ⟨n1, g1⟩ := n7
            clear hR bE N7 Ec
            generalize wd.heap.size = b9 at *
            generalize wd.alloc (.cells #[.string S9, .slice none 0 0, .bool false] 82) = wd at *
            refine hK.out _ _ (by trivial) (fun hHeld => ?_)
            clear hK K
            try simp only [Act.put, List.setIfInBounds_toArray, List.set_cons_zero, List.set_cons_succ]
            refine wpAnyH_ready (rs := [9]) (by kernel_rfl) (by simp) ?_
            refine AllReadyH.cons (o := { dst := some 44, op := Op.call { callee := Callee.builtin Builtin.append, args := #[Operand.tmp 36, Operand.tmp 43], argTypes := #[38, 38] }, type := 38, pos := "l08_writer.go:102", after := #[{ on := 1, ground := Ground.data }, { on := 8, ground := Ground.data }, { on := 3, ground := Ground.chain }], guard := none }) rfl (fun K hK => ?_) AllReadyH.nil
            refine op_appRun _ _ 38 38 rfl _ _ rfl rfl hrun ?_
            clear hrun k1d
            refine hK.out _ _ (by trivial) (fun hHeld => ?_)
            clear hK K
            try simp only [Act.put, List.setIfInBounds_toArray, List.set_cons_zero, List.set_cons_succ]
            refine wpAnyH_take (i := 10) (oi := { dst := some 45, op := Op.fieldAddr 40 (Operand.tmp 5) 1, type := 0, pos := "l08_writer.go:102", after := #[{ on := 0, ground := Ground.phase }, { on := 1, ground := Ground.phase }, { on := 2, ground := Ground.phase }, { on := 3, ground := Ground.phase }, { on := 4, ground := Ground.phase }, { on := 5, ground := Ground.phase }, { on := 6, ground := Ground.phase }, { on := 7, ground := Ground.phase }, { on := 8, ground := Ground.phase }, { on := 9, ground := Ground.phase }], guard := none }) (v := ?_) rfl (by kernel_rfl) (by kernel_rfl) (by kernel_rfl) (fun _ _ _ h => h) (Or.inl ⟨by rfl, ?_⟩) (by assumption) ?_
            rotate_left 1
            · intro w hSw
              (try dsimp only at hSw)
              first | (go_simp; done) | (go_simp; with_reducible rfl)
            try simp only [Act.put, List.setIfInBounds_toArray, List.set_cons_zero, List.set_cons_succ]
            refine wpAnyH_ready (rs := [11]) (by kernel_rfl) (by simp) ?_
            refine AllReadyH.cons (o := { dst := none, op := Op.store 38 (Operand.tmp 45) (Operand.tmp 44), type := 0, pos := "l08_writer.go:102", after := #[{ on := 10, ground := Ground.data }, { on := 9, ground := Ground.data }, { on := 9, ground := Ground.chain }, { on := 0, ground := Ground.phase }, { on := 1, ground := Ground.phase }, { on := 2, ground := Ground.phase }, { on := 3, ground := Ground.phase }, { on := 4, ground := Ground.phase }, { on := 5, ground := Ground.phase }, { on := 6, ground := Ground.phase }, { on := 7, ground := Ground.phase }, { on := 8, ground := Ground.phase }, { on := 9, ground := Ground.phase }], guard := none }) rfl (fun K hK => ?_) AllReadyH.nil
            go_simp
            refine hK.out _ _ (by trivial) (fun hHeld => ?_)
            clear hK K
            try simp only [Act.put, List.setIfInBounds_toArray, List.set_cons_zero, List.set_cons_succ]
            refine wpAnyH_done (by kernel_rfl) ?_ _
            refine NoPanic.normal ?_
            have hres := E7.res
            have hbox := E7.box
            have hrd := E7.rd
            have hcur := E7.cur
            have hdr := E7.drawn
            have hfit : fitW 60 ⟨m.epoch, m.words ++ [⟨S9, [], false⟩]⟩ := by
              have f := fit1.more (show 14 ≤ 60 by omega)
              refine ⟨by simp only [List.length_append, List.length_singleton]; omega, fun e he => ?_, f.2.2⟩
              rcases List.mem_append.1 he with he | he
              · exact f.2.1 e he
              · obtain rfl : e = ⟨S9, [], false⟩ := by simpa using he
                exact ⟨by simp only; omega, Nat.zero_le _, fun z hz => by cases hz⟩
            have eL : (m.words ++ [(⟨S9, [], false⟩ : Wd)]).length = m.words.length + 1 := by simp
            simp only [eL] at hbox hrd
            clear E7 n1 g1
            generalize w7.setCell ⟨rb, 1, none⟩ (.slice a7 (m.words.length + 1) c7) = w8 at *
            obtain ⟨z0, f0⟩ := hres.2 0 _ rfl
            obtain ⟨z1, f1⟩ := hres.2 1 _ rfl
            have k0 := (hbox.2 0 _ rfl).1
            have k1 := (hbox.2 1 _ rfl).1
            have ZZ := dHide ((hres.put 0 (.int .i64 m.epoch)).put 1 (.slice a7 (m.words.length + 1) c7))
            have OO := dHide ((hrd.far (b := w.heap.size + 1) (o := 0) (by omega) (.int .i64 m.epoch)).far (b := w.heap.size + 1) (o := 1) (by omega) (.slice a7 (m.words.length + 1) c7))
            have CC := dHide ((hcur.setNew4 (b := w.heap.size + 1) (by omega) 0 (.int .i64 m.epoch)).setNew4 (b := w.heap.size + 1) (by omega) 1 (.slice a7 (m.words.length + 1) c7))
            have DD := dHide ((hdr.setNew (b := w.heap.size + 1) (by omega) 0 (.int .i64 m.epoch)).setNew (b := w.heap.size + 1) (by omega) 1 (.slice a7 (m.words.length + 1) c7))
            have FF := dHide hfit
            clear hres hbox hrd hcur hdr hfit
            go_wp2_with fail
            generalize (w8.setCell ⟨w.heap.size + 1, 0, none⟩ (.int .i64 m.epoch)).setCell ⟨w.heap.size + 1, 1, none⟩ (.slice a7 (m.words.length + 1) c7) = V at *
            have qq0 := ((dUnhide ZZ).2 0 _ rfl).1
            have qq1 := ((dUnhide ZZ).2 1 _ rfl).1
            refine bodyPost_ret (v := .agg #[.int .i64 m.epoch, .slice a7 (m.words.length + 1) c7]) (by simp [results, Tryz.results66, go_sem, qq0, qq1]) rfl ⟨⟨_, ⟨m.epoch, m.words ++ [⟨S9, [], false⟩]⟩, rfl, (dUnhide OO).mono (by omega), dUnhide FF⟩, dUnhide CC, dUnhide DD⟩
          · go_simp
            have hR := rwW_one wd ⟨none, 0, ⟨S9, [], false⟩⟩ 82 1 (by omega)
            have bE := ba wd (.cells #[.string S9, .slice none 0 0, .bool false] 82)
            replace Ec := (Ec.below bE).with_ (q := ⟨none, 0, ⟨S9, [], false⟩⟩) ⟨⟨by simp, none, 0, rfl, by simp, .inl rfl⟩, .inl rfl⟩
            replace k1d := (Ec.box.2 1 _ rfl).1
            have hs9 := bE.size
            obtain ⟨a7, c7, w7, hrun, N7, E7⟩ := Ec.push hk (by omega) (by omega) (by omega) 38 _ hR (by omega)
            have n7 := N7.2 1 _ rfl
            obtain ⟨n1, g1⟩ := n7
            clear hR bE N7 Ec
            generalize wd.heap.size = b9 at *
            generalize wd.alloc (.cells #[.string S9, .slice none 0 0, .bool false] 82) = wd at *
            refine hK.out _ _ (by trivial) (fun hHeld => ?_)
            clear hK K
            try simp only [Act.put, List.setIfInBounds_toArray, List.set_cons_zero, List.set_cons_succ]
            refine wpAnyH_ready (rs := [1]) (by kernel_rfl) (by simp) ?_
            refine AllReadyH.cons (o := { dst := some 36, op := Op.load 38 (Operand.tmp 35), type := 38, pos := "l08_writer.go:102", after := #[{ on := 0, ground := Ground.data }], guard := none }) rfl (fun K hK => ?_) AllReadyH.nil
            go_simp
            refine hK.out _ _ (by trivial) (fun hHeld => ?_)
            clear hK K
            try simp only [Act.put, List.setIfInBounds_toArray, List.set_cons_zero, List.set_cons_succ]
            refine wpAnyH_ready (rs := [9]) (by kernel_rfl) (by simp) ?_
            refine AllReadyH.cons (o := { dst := some 44, op := Op.call { callee := Callee.builtin Builtin.append, args := #[Operand.tmp 36, Operand.tmp 43], argTypes := #[38, 38] }, type := 38, pos := "l08_writer.go:102", after := #[{ on := 1, ground := Ground.data }, { on := 8, ground := Ground.data }, { on := 3, ground := Ground.chain }], guard := none }) rfl (fun K hK => ?_) AllReadyH.nil
            refine op_appRun _ _ 38 38 rfl _ _ rfl rfl hrun ?_
            clear hrun k1d
            refine hK.out _ _ (by trivial) (fun hHeld => ?_)
            clear hK K
            try simp only [Act.put, List.setIfInBounds_toArray, List.set_cons_zero, List.set_cons_succ]
            refine wpAnyH_take (i := 10) (oi := { dst := some 45, op := Op.fieldAddr 40 (Operand.tmp 5) 1, type := 0, pos := "l08_writer.go:102", after := #[{ on := 0, ground := Ground.phase }, { on := 1, ground := Ground.phase }, { on := 2, ground := Ground.phase }, { on := 3, ground := Ground.phase }, { on := 4, ground := Ground.phase }, { on := 5, ground := Ground.phase }, { on := 6, ground := Ground.phase }, { on := 7, ground := Ground.phase }, { on := 8, ground := Ground.phase }, { on := 9, ground := Ground.phase }], guard := none }) (v := ?_) rfl (by kernel_rfl) (by kernel_rfl) (by kernel_rfl) (fun _ _ _ h => h) (Or.inl ⟨by rfl, ?_⟩) (by assumption) ?_
            rotate_left 1
            · intro w hSw
              (try dsimp only at hSw)
              first | (go_simp; done) | (go_simp; with_reducible rfl)
            try simp only [Act.put, List.setIfInBounds_toArray, List.set_cons_zero, List.set_cons_succ]
            refine wpAnyH_ready (rs := [11]) (by kernel_rfl) (by simp) ?_
            refine AllReadyH.cons (o := { dst := none, op := Op.store 38 (Operand.tmp 45) (Operand.tmp 44), type := 0, pos := "l08_writer.go:102", after := #[{ on := 10, ground := Ground.data }, { on := 9, ground := Ground.data }, { on := 9, ground := Ground.chain }, { on := 0, ground := Ground.phase }, { on := 1, ground := Ground.phase }, { on := 2, ground := Ground.phase }, { on := 3, ground := Ground.phase }, { on := 4, ground := Ground.phase }, { on := 5, ground := Ground.phase }, { on := 6, ground := Ground.phase }, { on := 7, ground := Ground.phase }, { on := 8, ground := Ground.phase }, { on := 9, ground := Ground.phase }], guard := none }) rfl (fun K hK => ?_) AllReadyH.nil
            go_simp
            refine hK.out _ _ (by trivial) (fun hHeld => ?_)
            clear hK K
            try simp only [Act.put, List.setIfInBounds_toArray, List.set_cons_zero, List.set_cons_succ]
            refine wpAnyH_done (by kernel_rfl) ?_ _
            refine NoPanic.normal ?_
            have hres := E7.res
            have hbox := E7.box
            have hrd := E7.rd
            have hcur := E7.cur
            have hdr := E7.drawn
            have hfit : fitW 60 ⟨m.epoch, m.words ++ [⟨S9, [], false⟩]⟩ := by
              have f := fit1.more (show 14 ≤ 60 by omega)
              refine ⟨by simp only [List.length_append, List.length_singleton]; omega, fun e he => ?_, f.2.2⟩
              rcases List.mem_append.1 he with he | he
              · exact f.2.1 e he
              · obtain rfl : e = ⟨S9, [], false⟩ := by simpa using he
                exact ⟨by simp only; omega, Nat.zero_le _, fun z hz => by cases hz⟩
            have eL : (m.words ++ [(⟨S9, [], false⟩ : Wd)]).length = m.words.length + 1 := by simp
            simp only [eL] at hbox hrd
            clear E7 n1 g1
            generalize w7.setCell ⟨rb, 1, none⟩ (.slice a7 (m.words.length + 1) c7) = w8 at *
            obtain ⟨z0, f0⟩ := hres.2 0 _ rfl
            obtain ⟨z1, f1⟩ := hres.2 1 _ rfl
            have k0 := (hbox.2 0 _ rfl).1
            have k1 := (hbox.2 1 _ rfl).1
            have ZZ := dHide ((hres.put 0 (.int .i64 m.epoch)).put 1 (.slice a7 (m.words.length + 1) c7))
            have OO := dHide ((hrd.far (b := w.heap.size + 1) (o := 0) (by omega) (.int .i64 m.epoch)).far (b := w.heap.size + 1) (o := 1) (by omega) (.slice a7 (m.words.length + 1) c7))
            have CC := dHide ((hcur.setNew4 (b := w.heap.size + 1) (by omega) 0 (.int .i64 m.epoch)).setNew4 (b := w.heap.size + 1) (by omega) 1 (.slice a7 (m.words.length + 1) c7))
            have DD := dHide ((hdr.setNew (b := w.heap.size + 1) (by omega) 0 (.int .i64 m.epoch)).setNew (b := w.heap.size + 1) (by omega) 1 (.slice a7 (m.words.length + 1) c7))
            have FF := dHide hfit
            clear hres hbox hrd hcur hdr hfit
            go_wp2_with fail
            generalize (w8.setCell ⟨w.heap.size + 1, 0, none⟩ (.int .i64 m.epoch)).setCell ⟨w.heap.size + 1, 1, none⟩ (.slice a7 (m.words.length + 1) c7) = V at *
            have qq0 := ((dUnhide ZZ).2 0 _ rfl).1
            have qq1 := ((dUnhide ZZ).2 1 _ rfl).1
            refine bodyPost_ret (v := .agg #[.int .i64 m.epoch, .slice a7 (m.words.length + 1) c7]) (by simp [results, Tryz.results66, go_sem, qq0, qq1]) rfl ⟨⟨_, ⟨m.epoch, m.words ++ [⟨S9, [], false⟩]⟩, rfl, (dUnhide OO).mono (by omega), dUnhide FF⟩, dUnhide CC, dUnhide DD⟩
  by_cases hx3 : x = 3
  · subst hx3
    have hp0 : DE8 w bk rb w0.heap.size w3 ⟨none, 0, ⟨⟨#[]⟩, [], false⟩⟩ m.words m.epoch a c := by
      obtain ⟨rs, m1, PW, tl, al⟩ := DB3.own
      refine ⟨hc3, D3, res3, DB3.box, ⟨rs, m1, PW.1, fun q hq => ⟨PW.2.1 q hq, ?_⟩⟩, ⟨⟨by simp, none, 0, rfl, by simp, .inl rfl⟩, .inl rfl⟩, fun e => by have := tl _ e; omega⟩
      obtain ⟨i, hi, rfl⟩ := List.mem_iff_getElem.1 hq
      rcases al _ hq with h | h
      · exact .inl h
      · rcases PW.2.2.2 i hi with h' | h'
        · exact .inl h'
        · exact .inr ⟨h', by omega⟩
    have hrl : rb < w3.heap.size := DB3.lt
    clear DB3 res3 D3 hc3
    go_wp2
    go_loopw [] (fun wq => ∃ (q : Nst Wd) (ms : List Wd) (a' : Option Addr) (c' : Nat), DE8 w bk rb w0.heap.size wq q ms m.epoch a' c' ∧ rb < wq.heap.size ∧ ms.length ≤ 60 ∧ (∀ e ∈ ms, fitW1 14 e)) (fun wq => 70 - wdLen wq rb)
    case atStart => exact ⟨_, m.words, a, c, hp0, hrl, by omega, fit1.2.1⟩
    case round =>
      obtain ⟨q0, ms, a', c', E, hwr, hml, hfe⟩ := hrel
      clear hp0
      have HM := dHide (wdLen_of (E.box.2 1 _ rfl).1)
      have kk1 := (E.box.2 1 _ rfl).1
      by_cases hcc : (ms.length : Int) < 60
      case neg =>
        have hres := E.res
        have hbox := E.box
        have hrd := E.rd
        have hcur := E.cur
        have hdr := E.drawn
        have hfit : fitW 60 ⟨m.epoch, ms⟩ := ⟨hml, fun e he => ⟨(hfe e he).1, by have := (hfe e he).2.1; omega, (hfe e he).2.2⟩, fit1.2.2⟩
        clear E HM
        obtain ⟨z0, f0⟩ := hres.2 0 _ rfl
        obtain ⟨z1, f1⟩ := hres.2 1 _ rfl
        have k0 := (hbox.2 0 _ rfl).1
        have k1 := (hbox.2 1 _ rfl).1
        have ZZ := dHide ((hres.put 0 (.int .i64 m.epoch)).put 1 (.slice a' ms.length c'))
        have OO := dHide ((hrd.far (b := w.heap.size + 1) (o := 0) (by omega) (.int .i64 m.epoch)).far (b := w.heap.size + 1) (o := 1) (by omega) (.slice a' ms.length c'))
        have CC := dHide ((hcur.setNew4 (b := w.heap.size + 1) (by omega) 0 (.int .i64 m.epoch)).setNew4 (b := w.heap.size + 1) (by omega) 1 (.slice a' ms.length c'))
        have DD := dHide ((hdr.setNew (b := w.heap.size + 1) (by omega) 0 (.int .i64 m.epoch)).setNew (b := w.heap.size + 1) (by omega) 1 (.slice a' ms.length c'))
        have FF := dHide hfit
        clear hres hbox hrd hcur hdr hfit
        go_wp2_with fail
        generalize (wr.setCell ⟨w.heap.size + 1, 0, none⟩ (.int .i64 m.epoch)).setCell ⟨w.heap.size + 1, 1, none⟩ (.slice a' ms.length c') = V at *
        have qq0 := ((dUnhide ZZ).2 0 _ rfl).1
        have qq1 := ((dUnhide ZZ).2 1 _ rfl).1
        refine bodyPost_ret (v := .agg #[.int .i64 m.epoch, .slice a' ms.length c']) (by simp [results, Tryz.results66, go_sem, qq0, qq1]) rfl ⟨⟨_, ⟨m.epoch, ms⟩, rfl, (dUnhide OO).mono (by omega), dUnhide FF⟩, dUnhide CC, dUnhide DD⟩
      by_cases hc0 : (0 : Int) < (ms.length : Int)
      case neg =>
        have hres := E.res
        have hbox := E.box
        have hrd := E.rd
        have hcur := E.cur
        have hdr := E.drawn
        have hfit : fitW 60 ⟨m.epoch, ms⟩ := ⟨hml, fun e he => ⟨(hfe e he).1, by have := (hfe e he).2.1; omega, (hfe e he).2.2⟩, fit1.2.2⟩
        clear E HM
        obtain ⟨z0, f0⟩ := hres.2 0 _ rfl
        obtain ⟨z1, f1⟩ := hres.2 1 _ rfl
        have k0 := (hbox.2 0 _ rfl).1
        have k1 := (hbox.2 1 _ rfl).1
        have ZZ := dHide ((hres.put 0 (.int .i64 m.epoch)).put 1 (.slice a' ms.length c'))
        have OO := dHide ((hrd.far (b := w.heap.size + 1) (o := 0) (by omega) (.int .i64 m.epoch)).far (b := w.heap.size + 1) (o := 1) (by omega) (.slice a' ms.length c'))
        have CC := dHide ((hcur.setNew4 (b := w.heap.size + 1) (by omega) 0 (.int .i64 m.epoch)).setNew4 (b := w.heap.size + 1) (by omega) 1 (.slice a' ms.length c'))
        have DD := dHide ((hdr.setNew (b := w.heap.size + 1) (by omega) 0 (.int .i64 m.epoch)).setNew (b := w.heap.size + 1) (by omega) 1 (.slice a' ms.length c'))
        have FF := dHide hfit
        clear hres hbox hrd hcur hdr hfit
        go_wp2_with fail
        generalize (wr.setCell ⟨w.heap.size + 1, 0, none⟩ (.int .i64 m.epoch)).setCell ⟨w.heap.size + 1, 1, none⟩ (.slice a' ms.length c') = V at *
        have qq0 := ((dUnhide ZZ).2 0 _ rfl).1
        have qq1 := ((dUnhide ZZ).2 1 _ rfl).1
        refine bodyPost_ret (v := .agg #[.int .i64 m.epoch, .slice a' ms.length c']) (by simp [results, Tryz.results66, go_sem, qq0, qq1]) rfl ⟨⟨_, ⟨m.epoch, ms⟩, rfl, (dUnhide OO).mono (by omega), dUnhide FF⟩, dUnhide CC, dUnhide DD⟩
      obtain ⟨g, q, rfl, Eq, hqm, q0, q1, q2⟩ := (E.below (Below.refl _ _).drew).first (by omega)
      have hqf : fitW1 14 q.m := by rw [hqm]; exact hfe _ (List.getElem_mem _)
      have Ec := Eq
      have k1d := (Ec.box.2 1 _ rfl).1
      have hwd : rb < wr.drew.heap.size := hwr
      have hlo0 : w0.heap.size ≤ wr.drew.heap.size := by have := E.drawn.size; show w0.heap.size ≤ wr.heap.size; omega
      clear E Eq hqm
      go_wp2_with fail
      refine wp_region_noPanic ?_
      refine wp_region_held_drew (S := fun _ => True) (by kernel_rfl) (by trivial) (fun hHeld => ?_)
      generalize wr.drew = wd at *
      refine wpAnyH_take (i := 0) (oi := { dst := some 58, op := Op.fieldAddr 40 (Operand.tmp 5) 1, type := 0, pos := "l08_writer.go:105", after := #[], guard := none }) (v := ?_) rfl (by kernel_rfl) (by kernel_rfl) (by kernel_rfl) (fun _ _ _ h => h) (Or.inl ⟨by rfl, ?_⟩) (by assumption) ?_
      rotate_left 1
      · intro w hSw
        (try dsimp only at hSw)
        first | (go_simp; done) | (go_simp; with_reducible rfl)
      try simp only [Act.put, List.setIfInBounds_toArray, List.set_cons_zero, List.set_cons_succ]
      refine wpAnyH_take (i := 2) (oi := { dst := some 60, op := Op.fieldAddr 40 (Operand.tmp 5) 1, type := 0, pos := "l08_writer.go:105", after := #[], guard := none }) (v := ?_) rfl (by kernel_rfl) (by kernel_rfl) (by kernel_rfl) (fun _ _ _ h => h) (Or.inl ⟨by rfl, ?_⟩) (by assumption) ?_
      rotate_left 1
      · intro w hSw
        (try dsimp only at hSw)
        first | (go_simp; done) | (go_simp; with_reducible rfl)
      try simp only [Act.put, List.setIfInBounds_toArray, List.set_cons_zero, List.set_cons_succ]
      refine wpAnyH_ready (rs := [1, 3]) (by kernel_rfl) (by simp) ?_
      refine AllReadyH.cons (o := { dst := some 59, op := Op.load 38 (Operand.tmp 58), type := 38, pos := "l08_writer.go:105", after := #[{ on := 0, ground := Ground.data }], guard := none }) rfl (fun K hK => ?_) (AllReadyH.cons (o := { dst := some 61, op := Op.load 38 (Operand.tmp 60), type := 38, pos := "l08_writer.go:105", after := #[{ on := 2, ground := Ground.data }], guard := none }) rfl (fun K hK => ?_) AllReadyH.nil)
      · go_simp
        refine hK.out _ _ (by trivial) (fun hHeld => ?_)
        clear hK K
        try simp only [Act.put, List.setIfInBounds_toArray, List.set_cons_zero, List.set_cons_succ]
        refine wpAnyH_ready (rs := [3]) (by kernel_rfl) (by simp) ?_
        refine AllReadyH.cons (o := { dst := some 61, op := Op.load 38 (Operand.tmp 60), type := 38, pos := "l08_writer.go:105", after := #[{ on := 2, ground := Ground.data }], guard := none }) rfl (fun K hK => ?_) AllReadyH.nil
        go_simp
        refine hK.out _ _ (by trivial) (fun hHeld => ?_)
        clear hK K
        try simp only [Act.put, List.setIfInBounds_toArray, List.set_cons_zero, List.set_cons_succ]
        refine wpAnyH_take (i := 4) (oi := { dst := some 62, op := Op.indexAddr 38 (Operand.tmp 61) (Operand.const (Value.int IntKind.i64 0)), type := 0, pos := "l08_writer.go:105", after := #[{ on := 3, ground := Ground.data }], guard := none }) (v := ?_) rfl (by kernel_rfl) (by kernel_rfl) (by kernel_rfl) (fun _ _ _ h => h) (Or.inl ⟨by rfl, ?_⟩) (by assumption) ?_
        rotate_left 1
        · intro w hSw
          (try dsimp only at hSw)
          first | (go_simp; done) | (go_simp; with_reducible rfl)
        try simp only [Act.put, List.setIfInBounds_toArray, List.set_cons_zero, List.set_cons_succ]
        refine wpAnyH_ready (rs := [5]) (by kernel_rfl) (by simp) ?_
        refine AllReadyH.cons (o := { dst := some 63, op := Op.load 82 (Operand.tmp 62), type := 82, pos := "l08_writer.go:105", after := #[{ on := 4, ground := Ground.data }], guard := none }) rfl (fun K hK => ?_) AllReadyH.nil
        go_simp
        refine hK.out _ _ (by trivial) (fun hHeld => ?_)
        clear hK K
        try simp only [Act.put, List.setIfInBounds_toArray, List.set_cons_zero, List.set_cons_succ]
        refine wpAnyH_ready (rs := [6]) (by kernel_rfl) (by simp) ?_
        refine AllReadyH.cons (o := { dst := some 64, op := Op.buildSlice 38 1 #[(0, Operand.tmp 63)], type := 38, pos := "l08_writer.go:105", after := #[{ on := 5, ground := Ground.data }], guard := none }) rfl (fun K hK => ?_) AllReadyH.nil
        go_simp
        have hR := rwW_one wd q 82 1 (by omega)
        have bE := ba wd (.cells #[.string q.m.data, .slice q.a q.m.acks.length q.c, .bool q.m.done] 82)
        replace Ec := Ec.below bE
        replace k1d := (Ec.box.2 1 _ rfl).1
        have hs9 := bE.size
        obtain ⟨a7, c7, w7, hrun, N7, E7⟩ := Ec.push hk (by omega) (by omega) (by omega) 38 _ hR (by omega)
        have n7 := N7.2 1 _ rfl
        obtain ⟨n1, g1⟩ := n7
        clear hR bE N7 Ec q0 q1 q2
        generalize wd.heap.size = b9 at *
        generalize wd.alloc (.cells #[.string q.m.data, .slice q.a q.m.acks.length q.c, .bool q.m.done] 82) = wd at *
        refine hK.out _ _ (by trivial) (fun hHeld => ?_)
        clear hK K
        try simp only [Act.put, List.setIfInBounds_toArray, List.set_cons_zero, List.set_cons_succ]
        refine wpAnyH_ready (rs := [7]) (by kernel_rfl) (by simp) ?_
        refine AllReadyH.cons (o := { dst := some 65, op := Op.call { callee := Callee.builtin Builtin.append, args := #[Operand.tmp 59, Operand.tmp 64], argTypes := #[38, 38] }, type := 38, pos := "l08_writer.go:105", after := #[{ on := 1, ground := Ground.data }, { on := 6, ground := Ground.data }], guard := none }) rfl (fun K hK => ?_) AllReadyH.nil
        refine op_appRun _ _ 38 38 rfl _ _ rfl rfl hrun ?_
        clear hrun k1d
        refine hK.out _ _ (by trivial) (fun hHeld => ?_)
        clear hK K
        try simp only [Act.put, List.setIfInBounds_toArray, List.set_cons_zero, List.set_cons_succ]
        refine wpAnyH_take (i := 8) (oi := { dst := some 66, op := Op.fieldAddr 40 (Operand.tmp 5) 1, type := 0, pos := "l08_writer.go:105", after := #[{ on := 0, ground := Ground.phase }, { on := 1, ground := Ground.phase }, { on := 2, ground := Ground.phase }, { on := 3, ground := Ground.phase }, { on := 4, ground := Ground.phase }, { on := 5, ground := Ground.phase }, { on := 6, ground := Ground.phase }, { on := 7, ground := Ground.phase }], guard := none }) (v := ?_) rfl (by kernel_rfl) (by kernel_rfl) (by kernel_rfl) (fun _ _ _ h => h) (Or.inl ⟨by rfl, ?_⟩) (by assumption) ?_
        rotate_left 1
        · intro w hSw
          (try dsimp only at hSw)
          first | (go_simp; done) | (go_simp; with_reducible rfl)
        try simp only [Act.put, List.setIfInBounds_toArray, List.set_cons_zero, List.set_cons_succ]
        refine wpAnyH_ready (rs := [9]) (by kernel_rfl) (by simp) ?_
        refine AllReadyH.cons (o := { dst := none, op := Op.store 38 (Operand.tmp 66) (Operand.tmp 65), type := 0, pos := "l08_writer.go:105", after := #[{ on := 8, ground := Ground.data }, { on := 7, ground := Ground.data }, { on := 7, ground := Ground.chain }, { on := 0, ground := Ground.phase }, { on := 1, ground := Ground.phase }, { on := 2, ground := Ground.phase }, { on := 3, ground := Ground.phase }, { on := 4, ground := Ground.phase }, { on := 5, ground := Ground.phase }, { on := 6, ground := Ground.phase }, { on := 7, ground := Ground.phase }], guard := none }) rfl (fun K hK => ?_) AllReadyH.nil
        go_simp
        refine hK.out _ _ (by trivial) (fun hHeld => ?_)
        clear hK K
        try simp only [Act.put, List.setIfInBounds_toArray, List.set_cons_zero, List.set_cons_succ]
        refine wpAnyH_done (by kernel_rfl) ?_ _
        refine NoPanic.normal ?_
        have HE7 := dHide E7
        have HM7 := dHide (wdLen_of (E7.box.2 1 _ rfl).1)
        have h7 := E7.box.lt
        clear E7 n1 g1
        go_wp2_with fail
        go_roundw
        case rel => exact ⟨q, ms ++ [q.m], a7, c7, dUnhide HE7, h7, by simp only [List.length_append, List.length_singleton]; omega, fun e he => by
          rcases List.mem_append.1 he with he | he
          · exact hfe e he
          · obtain rfl : e = q.m := by simpa using he
            exact hqf⟩
        case measure =>
          have h1 := dUnhide HM7
          have h2 := dUnhide HM
          simp only [List.length_append, List.length_singleton] at h1
          omega
      · go_simp
        refine hK.out _ _ (by trivial) (fun hHeld => ?_)
        clear hK K
        try simp only [Act.put, List.setIfInBounds_toArray, List.set_cons_zero, List.set_cons_succ]
        refine wpAnyH_take (i := 4) (oi := { dst := some 62, op := Op.indexAddr 38 (Operand.tmp 61) (Operand.const (Value.int IntKind.i64 0)), type := 0, pos := "l08_writer.go:105", after := #[{ on := 3, ground := Ground.data }], guard := none }) (v := ?_) rfl (by kernel_rfl) (by kernel_rfl) (by kernel_rfl) (fun _ _ _ h => h) (Or.inl ⟨by rfl, ?_⟩) (by assumption) ?_
        rotate_left 1
        · intro w hSw
          (try dsimp only at hSw)
          first | (go_simp; done) | (go_simp; with_reducible rfl)
        try simp only [Act.put, List.setIfInBounds_toArray, List.set_cons_zero, List.set_cons_succ]
        refine wpAnyH_ready (rs := [1, 5]) (by kernel_rfl) (by simp) ?_
        refine AllReadyH.cons (o := { dst := some 59, op := Op.load 38 (Operand.tmp 58), type := 38, pos := "l08_writer.go:105", after := #[{ on := 0, ground := Ground.data }], guard := none }) rfl (fun K hK => ?_) (AllReadyH.cons (o := { dst := some 63, op := Op.load 82 (Operand.tmp 62), type := 82, pos := "l08_writer.go:105", after := #[{ on := 4, ground := Ground.data }], guard := none }) rfl (fun K hK => ?_) AllReadyH.nil)
        · go_simp
          refine hK.out _ _ (by trivial) (fun hHeld => ?_)
          clear hK K
          try simp only [Act.put, List.setIfInBounds_toArray, List.set_cons_zero, List.set_cons_succ]
          refine wpAnyH_ready (rs := [5]) (by kernel_rfl) (by simp) ?_
          refine AllReadyH.cons (o := { dst := some 63, op := Op.load 82 (Operand.tmp 62), type := 82, pos := "l08_writer.go:105", after := #[{ on := 4, ground := Ground.data }], guard := none }) rfl (fun K hK => ?_) AllReadyH.nil
          go_simp
          refine hK.out _ _ (by trivial) (fun hHeld => ?_)
          clear hK K
          try simp only [Act.put, List.setIfInBounds_toArray, List.set_cons_zero, List.set_cons_succ]
          refine wpAnyH_ready (rs := [6]) (by kernel_rfl) (by simp) ?_
          refine AllReadyH.cons (o := { dst := some 64, op := Op.buildSlice 38 1 #[(0, Operand.tmp 63)], type := 38, pos := "l08_writer.go:105", after := #[{ on := 5, ground := Ground.data }], guard := none }) rfl (fun K hK => ?_) AllReadyH.nil
          go_simp
          have hR := rwW_one wd q 82 1 (by omega)
          have bE := ba wd (.cells #[.string q.m.data, .slice q.a q.m.acks.length q.c, .bool q.m.done] 82)
          replace Ec := Ec.below bE
          replace k1d := (Ec.box.2 1 _ rfl).1
          have hs9 := bE.size
          obtain ⟨a7, c7, w7, hrun, N7, E7⟩ := Ec.push hk (by omega) (by omega) (by omega) 38 _ hR (by omega)
          have n7 := N7.2 1 _ rfl
          obtain ⟨n1, g1⟩ := n7
          clear hR bE N7 Ec q0 q1 q2
          generalize wd.heap.size = b9 at *
          generalize wd.alloc (.cells #[.string q.m.data, .slice q.a q.m.acks.length q.c, .bool q.m.done] 82) = wd at *
          refine hK.out _ _ (by trivial) (fun hHeld => ?_)
          clear hK K
          try simp only [Act.put, List.setIfInBounds_toArray, List.set_cons_zero, List.set_cons_succ]
          refine wpAnyH_ready (rs := [7]) (by kernel_rfl) (by simp) ?_
          refine AllReadyH.cons (o := { dst := some 65, op := Op.call { callee := Callee.builtin Builtin.append, args := #[Operand.tmp 59, Operand.tmp 64], argTypes := #[38, 38] }, type := 38, pos := "l08_writer.go:105", after := #[{ on := 1, ground := Ground.data }, { on := 6, ground := Ground.data }], guard := none }) rfl (fun K hK => ?_) AllReadyH.nil
          refine op_appRun _ _ 38 38 rfl _ _ rfl rfl hrun ?_
          clear hrun k1d
          refine hK.out _ _ (by trivial) (fun hHeld => ?_)
          clear hK K
          try simp only [Act.put, List.setIfInBounds_toArray, List.set_cons_zero, List.set_cons_succ]
          refine wpAnyH_take (i := 8) (oi := { dst := some 66, op := Op.fieldAddr 40 (Operand.tmp 5) 1, type := 0, pos := "l08_writer.go:105", after := #[{ on := 0, ground := Ground.phase }, { on := 1, ground := Ground.phase }, { on := 2, ground := Ground.phase }, { on := 3, ground := Ground.phase }, { on := 4, ground := Ground.phase }, { on := 5, ground := Ground.phase }, { on := 6, ground := Ground.phase }, { on := 7, ground := Ground.phase }], guard := none }) (v := ?_) rfl (by kernel_rfl) (by kernel_rfl) (by kernel_rfl) (fun _ _ _ h => h) (Or.inl ⟨by rfl, ?_⟩) (by assumption) ?_
          rotate_left 1
          · intro w hSw
            (try dsimp only at hSw)
            first | (go_simp; done) | (go_simp; with_reducible rfl)
          try simp only [Act.put, List.setIfInBounds_toArray, List.set_cons_zero, List.set_cons_succ]
          refine wpAnyH_ready (rs := [9]) (by kernel_rfl) (by simp) ?_
          refine AllReadyH.cons (o := { dst := none, op := Op.store 38 (Operand.tmp 66) (Operand.tmp 65), type := 0, pos := "l08_writer.go:105", after := #[{ on := 8, ground := Ground.data }, { on := 7, ground := Ground.data }, { on := 7, ground := Ground.chain }, { on := 0, ground := Ground.phase }, { on := 1, ground := Ground.phase }, { on := 2, ground := Ground.phase }, { on := 3, ground := Ground.phase }, { on := 4, ground := Ground.phase }, { on := 5, ground := Ground.phase }, { on := 6, ground := Ground.phase }, { on := 7, ground := Ground.phase }], guard := none }) rfl (fun K hK => ?_) AllReadyH.nil
          go_simp
          refine hK.out _ _ (by trivial) (fun hHeld => ?_)
          clear hK K
          try simp only [Act.put, List.setIfInBounds_toArray, List.set_cons_zero, List.set_cons_succ]
          refine wpAnyH_done (by kernel_rfl) ?_ _
          refine NoPanic.normal ?_
          have HE7 := dHide E7
          have HM7 := dHide (wdLen_of (E7.box.2 1 _ rfl).1)
          have h7 := E7.box.lt
          clear E7 n1 g1
          go_wp2_with fail
          go_roundw
          case rel => exact ⟨q, ms ++ [q.m], a7, c7, dUnhide HE7, h7, by simp only [List.length_append, List.length_singleton]; omega, fun e he => by
            rcases List.mem_append.1 he with he | he
            · exact hfe e he
            · obtain rfl : e = q.m := by simpa using he
              exact hqf⟩
          case measure =>
            have h1 := dUnhide HM7
            have h2 := dUnhide HM
            simp only [List.length_append, List.length_singleton] at h1
            omega
        · go_simp
          refine hK.out _ _ (by trivial) (fun hHeld => ?_)
          clear hK K
          try simp only [Act.put, List.setIfInBounds_toArray, List.set_cons_zero, List.set_cons_succ]
          refine wpAnyH_ready (rs := [1, 6]) (by kernel_rfl) (by simp) ?_
          refine AllReadyH.cons (o := { dst := some 59, op := Op.load 38 (Operand.tmp 58), type := 38, pos := "l08_writer.go:105", after := #[{ on := 0, ground := Ground.data }], guard := none }) rfl (fun K hK => ?_) (AllReadyH.cons (o := { dst := some 64, op := Op.buildSlice 38 1 #[(0, Operand.tmp 63)], type := 38, pos := "l08_writer.go:105", after := #[{ on := 5, ground := Ground.data }], guard := none }) rfl (fun K hK => ?_) AllReadyH.nil)
          · go_simp
            refine hK.out _ _ (by trivial) (fun hHeld => ?_)
            clear hK K
            try simp only [Act.put, List.setIfInBounds_toArray, List.set_cons_zero, List.set_cons_succ]
            refine wpAnyH_ready (rs := [6]) (by kernel_rfl) (by simp) ?_
            refine AllReadyH.cons (o := { dst := some 64, op := Op.buildSlice 38 1 #[(0, Operand.tmp 63)], type := 38, pos := "l08_writer.go:105", after := #[{ on := 5, ground := Ground.data }], guard := none }) rfl (fun K hK => ?_) AllReadyH.nil
            go_simp
            have hR := rwW_one wd q 82 1 (by omega)
            have bE := ba wd (.cells #[.string q.m.data, .slice q.a q.m.acks.length q.c, .bool q.m.done] 82)
            replace Ec := Ec.below bE
            replace k1d := (Ec.box.2 1 _ rfl).1
            have hs9 := bE.size
            obtain ⟨a7, c7, w7, hrun, N7, E7⟩ := Ec.push hk (by omega) (by omega) (by omega) 38 _ hR (by omega)
            have n7 := N7.2 1 _ rfl
            obtain ⟨n1, g1⟩ := n7
            clear hR bE N7 Ec q0 q1 q2
            generalize wd.heap.size = b9 at *
            generalize wd.alloc (.cells #[.string q.m.data, .slice q.a q.m.acks.length q.c, .bool q.m.done] 82) = wd at *
            refine hK.out _ _ (by trivial) (fun hHeld => ?_)
            clear hK K
            try simp only [Act.put, List.setIfInBounds_toArray, List.set_cons_zero, List.set_cons_succ]
            refine wpAnyH_ready (rs := [7]) (by kernel_rfl) (by simp) ?_
            refine AllReadyH.cons (o := { dst := some 65, op := Op.call { callee := Callee.builtin Builtin.append, args := #[Operand.tmp 59, Operand.tmp 64], argTypes := #[38, 38] }, type := 38, pos := "l08_writer.go:105", after := #[{ on := 1, ground := Ground.data }, { on := 6, ground := Ground.data }], guard := none }) rfl (fun K hK => ?_) AllReadyH.nil
            refine op_appRun _ _ 38 38 rfl _ _ rfl rfl hrun ?_
            clear hrun k1d
            refine hK.out _ _ (by trivial) (fun hHeld => ?_)
            clear hK K
            try simp only [Act.put, List.setIfInBounds_toArray, List.set_cons_zero, List.set_cons_succ]
            refine wpAnyH_take (i := 8) (oi := { dst := some 66, op := Op.fieldAddr 40 (Operand.tmp 5) 1, type := 0, pos := "l08_writer.go:105", after := #[{ on := 0, ground := Ground.phase }, { on := 1, ground := Ground.phase }, { on := 2, ground := Ground.phase }, { on := 3, ground := Ground.phase }, { on := 4, ground := Ground.phase }, { on := 5, ground := Ground.phase }, { on := 6, ground := Ground.phase }, { on := 7, ground := Ground.phase }], guard := none }) (v := ?_) rfl (by kernel_rfl) (by kernel_rfl) (by kernel_rfl) (fun _ _ _ h => h) (Or.inl ⟨by rfl, ?_⟩) (by assumption) ?_
            rotate_left 1
            · intro w hSw
              (try dsimp only at hSw)
              first | (go_simp; done) | (go_simp; with_reducible rfl)
            try simp only [Act.put, List.setIfInBounds_toArray, List.set_cons_zero, List.set_cons_succ]
            refine wpAnyH_ready (rs := [9]) (by kernel_rfl) (by simp) ?_
            refine AllReadyH.cons (o := { dst := none, op := Op.store 38 (Operand.tmp 66) (Operand.tmp 65), type := 0, pos := "l08_writer.go:105", after := #[{ on := 8, ground := Ground.data }, { on := 7, ground := Ground.data }, { on := 7, ground := Ground.chain }, { on := 0, ground := Ground.phase }, { on := 1, ground := Ground.phase }, { on := 2, ground := Ground.phase }, { on := 3, ground := Ground.phase }, { on := 4, ground := Ground.phase }, { on := 5, ground := Ground.phase }, { on := 6, ground := Ground.phase }, { on := 7, ground := Ground.phase }], guard := none }) rfl (fun K hK => ?_) AllReadyH.nil
            go_simp
            refine hK.out _ _ (by trivial) (fun hHeld => ?_)
            clear hK K
            try simp only [Act.put, List.setIfInBounds_toArray, List.set_cons_zero, List.set_cons_succ]
            refine wpAnyH_done (by kernel_rfl) ?_ _
            refine NoPanic.normal ?_
            have HE7 := dHide E7
            have HM7 := dHide (wdLen_of (E7.box.2 1 _ rfl).1)
            have h7 := E7.box.lt
            clear E7 n1 g1
            go_wp2_with fail
            go_roundw
            case rel => exact ⟨q, ms ++ [q.m], a7, c7, dUnhide HE7, h7, by simp only [List.length_append, List.length_singleton]; omega, fun e he => by
              rcases List.mem_append.1 he with he | he
              · exact hfe e he
              · obtain rfl : e = q.m := by simpa using he
                exact hqf⟩
            case measure =>
              have h1 := dUnhide HM7
              have h2 := dUnhide HM
              simp only [List.length_append, List.length_singleton] at h1
              omega
          · go_simp
            have hR := rwW_one wd q 82 1 (by omega)
            have bE := ba wd (.cells #[.string q.m.data, .slice q.a q.m.acks.length q.c, .bool q.m.done] 82)
            replace Ec := Ec.below bE
            replace k1d := (Ec.box.2 1 _ rfl).1
            have hs9 := bE.size
            obtain ⟨a7, c7, w7, hrun, N7, E7⟩ := Ec.push hk (by omega) (by omega) (by omega) 38 _ hR (by omega)
            have n7 := N7.2 1 _ rfl
            obtain ⟨n1, g1⟩ := n7
            clear hR bE N7 Ec q0 q1 q2
            generalize wd.heap.size = b9 at *
            generalize wd.alloc (.cells #[.string q.m.data, .slice q.a q.m.acks.length q.c, .bool q.m.done] 82) = wd at *
            refine hK.out _ _ (by trivial) (fun hHeld => ?_)
            clear hK K
            try simp only [Act.put, List.setIfInBounds_toArray, List.set_cons_zero, List.set_cons_succ]
            refine wpAnyH_ready (rs := [1]) (by kernel_rfl) (by simp) ?_
            refine AllReadyH.cons (o := { dst := some 59, op := Op.load 38 (Operand.tmp 58), type := 38, pos := "l08_writer.go:105", after := #[{ on := 0, ground := Ground.data }], guard := none }) rfl (fun K hK => ?_) AllReadyH.nil
            go_simp
            refine hK.out _ _ (by trivial) (fun hHeld => ?_)
            clear hK K
            try simp only [Act.put, List.setIfInBounds_toArray, List.set_cons_zero, List.set_cons_succ]
            refine wpAnyH_ready (rs := [7]) (by kernel_rfl) (by simp) ?_
            refine AllReadyH.cons (o := { dst := some 65, op := Op.call { callee := Callee.builtin Builtin.append, args := #[Operand.tmp 59, Operand.tmp 64], argTypes := #[38, 38] }, type := 38, pos := "l08_writer.go:105", after := #[{ on := 1, ground := Ground.data }, { on := 6, ground := Ground.data }], guard := none }) rfl (fun K hK => ?_) AllReadyH.nil
            refine op_appRun _ _ 38 38 rfl _ _ rfl rfl hrun ?_
            clear hrun k1d
            refine hK.out _ _ (by trivial) (fun hHeld => ?_)
            clear hK K
            try simp only [Act.put, List.setIfInBounds_toArray, List.set_cons_zero, List.set_cons_succ]
            refine wpAnyH_take (i := 8) (oi := { dst := some 66, op := Op.fieldAddr 40 (Operand.tmp 5) 1, type := 0, pos := "l08_writer.go:105", after := #[{ on := 0, ground := Ground.phase }, { on := 1, ground := Ground.phase }, { on := 2, ground := Ground.phase }, { on := 3, ground := Ground.phase }, { on := 4, ground := Ground.phase }, { on := 5, ground := Ground.phase }, { on := 6, ground := Ground.phase }, { on := 7, ground := Ground.phase }], guard := none }) (v := ?_) rfl (by kernel_rfl) (by kernel_rfl) (by kernel_rfl) (fun _ _ _ h => h) (Or.inl ⟨by rfl, ?_⟩) (by assumption) ?_
            rotate_left 1
            · intro w hSw
              (try dsimp only at hSw)
              first | (go_simp; done) | (go_simp; with_reducible rfl)
            try simp only [Act.put, List.setIfInBounds_toArray, List.set_cons_zero, List.set_cons_succ]
            refine wpAnyH_ready (rs := [9]) (by kernel_rfl) (by simp) ?_
            refine AllReadyH.cons (o := { dst := none, op := Op.store 38 (Operand.tmp 66) (Operand.tmp 65), type := 0, pos := "l08_writer.go:105", after := #[{ on := 8, ground := Ground.data }, { on := 7, ground := Ground.data }, { on := 7, ground := Ground.chain }, { on := 0, ground := Ground.phase }, { on := 1, ground := Ground.phase }, { on := 2, ground := Ground.phase }, { on := 3, ground := Ground.phase }, { on := 4, ground := Ground.phase }, { on := 5, ground := Ground.phase }, { on := 6, ground := Ground.phase }, { on := 7, ground := Ground.phase }], guard := none }) rfl (fun K hK => ?_) AllReadyH.nil
            go_simp
            refine hK.out _ _ (by trivial) (fun hHeld => ?_)
            clear hK K
            try simp only [Act.put, List.setIfInBounds_toArray, List.set_cons_zero, List.set_cons_succ]
            refine wpAnyH_done (by kernel_rfl) ?_ _
            refine NoPanic.normal ?_
            have HE7 := dHide E7
            have HM7 := dHide (wdLen_of (E7.box.2 1 _ rfl).1)
            have h7 := E7.box.lt
            clear E7 n1 g1
            go_wp2_with fail
            go_roundw
            case rel => exact ⟨q, ms ++ [q.m], a7, c7, dUnhide HE7, h7, by simp only [List.length_append, List.length_singleton]; omega, fun e he => by
              rcases List.mem_append.1 he with he | he
              · exact hfe e he
              · obtain rfl : e = q.m := by simpa using he
                exact hqf⟩
            case measure =>
              have h1 := dUnhide HM7
              have h2 := dUnhide HM
              simp only [List.length_append, List.length_singleton] at h1
              omega
  have hres := res3
  have hbox := DB3.box
  have hrd := RdW.of DB3.own
  have hcur := hc3
  have hdr := D3
  have hfit := fit1.more (show 14 ≤ 60 by omega)
  obtain ⟨z0, f0⟩ := hres.2 0 _ rfl
  obtain ⟨z1, f1⟩ := hres.2 1 _ rfl
  have k0 := (hbox.2 0 _ rfl).1
  have k1 := (hbox.2 1 _ rfl).1
  have ZZ := dHide ((hres.put 0 (.int .i64 m.epoch)).put 1 (.slice a m.words.length c))
  have OO := dHide ((hrd.far (b := w.heap.size + 1) (o := 0) (by omega) (.int .i64 m.epoch)).far (b := w.heap.size + 1) (o := 1) (by omega) (.slice a m.words.length c))
  have CC := dHide ((hcur.setNew4 (b := w.heap.size + 1) (by omega) 0 (.int .i64 m.epoch)).setNew4 (b := w.heap.size + 1) (by omega) 1 (.slice a m.words.length c))
  have DD := dHide ((hdr.setNew (b := w.heap.size + 1) (by omega) 0 (.int .i64 m.epoch)).setNew (b := w.heap.size + 1) (by omega) 1 (.slice a m.words.length c))
  have FF := dHide hfit
  clear hres hbox hrd hcur hdr hfit
  go_wp2_with fail
  generalize (w3.setCell ⟨w.heap.size + 1, 0, none⟩ (.int .i64 m.epoch)).setCell ⟨w.heap.size + 1, 1, none⟩ (.slice a m.words.length c) = V at *
  have qq0 := ((dUnhide ZZ).2 0 _ rfl).1
  have qq1 := ((dUnhide ZZ).2 1 _ rfl).1
  refine bodyPost_ret (v := .agg #[.int .i64 m.epoch, .slice a m.words.length c]) (by simp [results, Tryz.results66, go_sem, qq0, qq1]) rfl ⟨⟨_, m, rfl, (dUnhide OO).mono (by omega), dUnhide FF⟩, dUnhide CC, dUnhide DD⟩
end Go.Proofs.YthndkkjgjhgdnaaGreatDoor
