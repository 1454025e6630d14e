/- Mends drawn: DrawMendEntry (printed by tools/mkmdf.py). -/
import Derived.Test.YtjbfpmackocgnaaMdE
import Derived.Deep.RegionLaw
import Derived.Deep.RegionHeld3
import Derived.Deep.DeepCutAuto
namespace Go.Proofs.Ytjbfpmackocgnaa
open Go.ChangeShapes Go.WideShapes Go.ChangeAt Go.RowKit
set_option linter.unusedVariables false
set_option linter.unusedSimpArgs false
set_option maxRecDepth 100000

/-- What DrawMendEntry leaves. -/
def DrawE (w : World) (e : Ending) (w' : World) : Prop := ∃ (m : Mn) (q : Pm) (off : Int), e = .returned (.tuple #[.agg #[.int .i64 m.bye, .int .i64 m.epoch, .slice q.sa m.sealed.length q.sc, .slice q.ea m.seen.length q.ec, .bool m.planned, .slice q.wa m.wrote.length q.wc], .int .i64 off]) ∧ RdMend (.agg #[.int .i64 m.bye, .int .i64 m.epoch, .slice q.sa m.sealed.length q.sc, .slice q.ea m.seen.length q.ec, .bool m.planned, .slice q.wa m.wrote.length q.wc]) m w' ∧ fitN m ∧ (-1 ≤ off ∧ off ≤ 64) ∧ Below w.heap.size w w'
set_option maxHeartbeats 8000000 in
theorem drawMendEntry_any (a : Option Addr) (len cap : Nat) (w : World) (hr : Row8 w a len) :
    Calls Try.prog 26 #[.slice a len cap] w (DrawE w) := by
  have ba : ∀ (w : World) o, Below w.heap.size w (w.alloc o) := fun w o => (Below.refl _ _).alloc (Nat.le_refl _) o
  have b0 := ba w (.cells #[.int .i64 0, .int .i64 0, .slice none 0 0, .slice none 0 0, .bool false, .slice none 0 0] 47)
  have Z0 := BxZ.new (B := w.heap.size) w [.int .i64 0, .int .i64 0, .slice none 0 0, .slice none 0 0, .bool false, .slice none 0 0] 47 (Nat.le_refl _)
  have e0 : Hid ((w.alloc (.cells #[.int .i64 0, .int .i64 0, .slice none 0 0, .slice none 0 0, .bool false, .slice none 0 0] 47)).heap.size = w.heap.size + 1) := by simp [Hid]
  have CO := dHide (l9DrawOne_any a len cap _ (hr.below b0))
  clear hr
  go_enter Try.func26, Try.ntmps26
  go_wp2_with fail
  generalize w.alloc (.cells #[.int .i64 0, .int .i64 0, .slice none 0 0, .slice none 0 0, .bool false, .slice none 0 0] 47) = w0 at *
  have h0 := dUnhide e0
  refine (dUnhide CO).mono ?_
  rintro e w1 ⟨bk, lo, ca, cc, ds, cop, m, q, rfl, O⟩
  have k1 := O.bkw
  have k2 := O.bkl
  have k3 := O.low
  have bel := O.bel
  have M1 := O.men
  have C1 := O.cur
  have F1 := dHide O.fitm
  have bX := ba w1 (.cells #[.slice ca ds.length cc, .int .i64 cop] 26)
  have bM := ba (w1.alloc (.cells #[.slice ca ds.length cc, .int .i64 cop] 26)) (.cells #[.int .i64 m.bye, .int .i64 m.epoch, .slice q.sa m.sealed.length q.sc, .slice q.ea m.seen.length q.ec, .bool m.planned, .slice q.wa m.wrote.length q.wc] 47)
  have bXM := belowThen bX bM
  have Z2 := (Z0.below bel).below bXM
  have Y2 := BxZ.new (B := 0) (w1.alloc (.cells #[.slice ca ds.length cc, .int .i64 cop] 26)) [.int .i64 m.bye, .int .i64 m.epoch, .slice q.sa m.sealed.length q.sc, .slice q.ea m.seen.length q.ec, .bool m.planned, .slice q.wa m.wrote.length q.wc] 47 (Nat.zero_le _)
  rw [show (w1.alloc (.cells #[.slice ca ds.length cc, .int .i64 cop] 26)).heap.size = w1.heap.size + 1 from by simp] at Y2
  have M2 := M1.belowM (Nat.le_refl _) bXM
  have C2 := C1.below bXM
  have B2 := belowThen (belowThen b0 bel) bXM
  have s2 : ((w1.alloc (.cells #[.slice ca ds.length cc, .int .i64 cop] 26)).alloc (.cells #[.int .i64 m.bye, .int .i64 m.epoch, .slice q.sa m.sealed.length q.sc, .slice q.ea m.seen.length q.ec, .bool m.planned, .slice q.wa m.wrote.length q.wc] 47)).heap.size = w1.heap.size + 2 := by simp
  have hwl := O.fitm.2.2.2.1
  have s1 := bel.size
  clear CO Z0 O M1 C1 bX bM bXM b0 bel
  go_upto_region 2 with fail
  generalize ((w1.alloc (.cells #[.slice ca ds.length cc, .int .i64 cop] 26)).alloc (.cells #[.int .i64 m.bye, .int .i64 m.epoch, .slice q.sa m.sealed.length q.sc, .slice q.ea m.seen.length q.ec, .bool m.planned, .slice q.wa m.wrote.length q.wc] 47)) = w2 at *
  generalize hmb : w1.heap.size = mb0 at *
  have bdr : Below w2.heap.size w2 w2.drew := (Below.refl _ _).drew
  have py : w2.cell? ⟨mb0 + 1, 0, none⟩ = some (.int .i64 m.bye) ∧ w2.cell? ⟨mb0 + 1, 1, none⟩ = some (.int .i64 m.epoch) ∧ w2.cell? ⟨mb0 + 1, 2, none⟩ = some (.slice q.sa m.sealed.length q.sc) ∧ w2.cell? ⟨mb0 + 1, 3, none⟩ = some (.slice q.ea m.seen.length q.ec) ∧ w2.cell? ⟨mb0 + 1, 4, none⟩ = some (.bool m.planned) ∧ w2.cell? ⟨mb0 + 1, 5, none⟩ = some (.slice q.wa m.wrote.length q.wc) := ⟨(Y2.2 0 _ rfl).1, (Y2.2 1 _ rfl).1, (Y2.2 2 _ rfl).1, (Y2.2 3 _ rfl).1, (Y2.2 4 _ rfl).1, (Y2.2 5 _ rfl).1⟩
  have Zd := Z2.below bdr
  have Yd := Y2.below bdr
  have Md := M2.belowM (by omega) bdr
  have hcd := C2.below bdr
  have Bd := belowThen B2 bdr
  have sd : w2.heap.size ≤ w2.drew.heap.size := bdr.size
  have hwa : IntKind.i64.wrap ((m.wrote.length : Int) + 2) = (m.wrote.length : Int) + 2 := by rw [IntKind.wrap_i64]; omega
  clear Z2 Y2 M2 C2 B2 bdr
  go_wp2_with fail
  refine wp_region_noPanic ?_
  refine wp_region_held_drew (S := fun W => W.cell? ⟨mb0 + 1, 0, none⟩ = some (.int .i64 m.bye) ∧ W.cell? ⟨mb0 + 1, 1, none⟩ = some (.int .i64 m.epoch) ∧ W.cell? ⟨mb0 + 1, 2, none⟩ = some (.slice q.sa m.sealed.length q.sc) ∧ W.cell? ⟨mb0 + 1, 3, none⟩ = some (.slice q.ea m.seen.length q.ec) ∧ W.cell? ⟨mb0 + 1, 4, none⟩ = some (.bool m.planned) ∧ W.cell? ⟨mb0 + 1, 5, none⟩ = some (.slice q.wa m.wrote.length q.wc)) (by kernel_rfl) (by first | exact ⟨(Yd.2 0 _ rfl).1, (Yd.2 1 _ rfl).1, (Yd.2 2 _ rfl).1, (Yd.2 3 _ rfl).1, (Yd.2 4 _ rfl).1, (Yd.2 5 _ rfl).1⟩ | exact py | go_keep) (fun hHeld => ?_)
  generalize w2.drew = wd at *
  refine wpAnyH_take (i := 0) (oi := { dst := some 13, op := Op.load 47 (Operand.tmp 5), type := 47, pos := "l09_mend.go:230", after := #[], guard := none }) (v := ?_) rfl (by kernel_rfl) (by kernel_rfl) (by kernel_rfl) (fun _ _ _ h => h) (Or.inl ⟨by rfl, ?_⟩) (by assumption) ?_
  rotate_left 1
  · intro w hSw
    (try dsimp only at hSw)
    first | (go_simp; done) | (go_simp; with_reducible rfl)
  try simp only [Act.put, List.setIfInBounds_toArray, List.set_cons_zero, List.set_cons_succ]
  refine wpAnyH_take (i := 1) (oi := { dst := some 14, op := Op.move (Operand.tmp 6), type := 82, pos := "l09_mend.go:230", after := #[], guard := none }) (v := ?_) rfl (by kernel_rfl) (by kernel_rfl) (by kernel_rfl) (fun _ _ _ h => h) (Or.inl ⟨by rfl, ?_⟩) (by assumption) ?_
  rotate_left 1
  · intro w hSw
    (try dsimp only at hSw)
    first | (go_simp; done) | (go_simp; with_reducible rfl)
  try simp only [Act.put, List.setIfInBounds_toArray, List.set_cons_zero, List.set_cons_succ]
  refine wpAnyH_take (i := 2) (oi := { dst := some 15, op := Op.fieldAddr 47 (Operand.tmp 5) 5, type := 0, pos := "l09_mend.go:230", after := #[], guard := none }) (v := ?_) rfl (by kernel_rfl) (by kernel_rfl) (by kernel_rfl) (fun _ _ _ h => h) (Or.inl ⟨by rfl, ?_⟩) (by assumption) ?_
  rotate_left 1
  · intro w hSw
    (try dsimp only at hSw)
    first | (go_simp; done) | (go_simp; with_reducible rfl)
  try simp only [Act.put, List.setIfInBounds_toArray, List.set_cons_zero, List.set_cons_succ]
  refine wpAnyH_take (i := 3) (oi := { dst := some 16, op := Op.load 45 (Operand.tmp 15), type := 45, pos := "l09_mend.go:230", after := #[⟨2, .data⟩], guard := none }) (v := ?_) rfl (by kernel_rfl) (by kernel_rfl) (by kernel_rfl) (fun _ _ _ h => h) (Or.inl ⟨by rfl, ?_⟩) (by assumption) ?_
  rotate_left 1
  · intro w hSw
    (try dsimp only at hSw)
    first | (go_simp; done) | (go_simp; with_reducible rfl)
  try simp only [Act.put, List.setIfInBounds_toArray, List.set_cons_zero, List.set_cons_succ]
  refine wpAnyH_take (i := 4) (oi := { dst := some 17, op := Op.call { callee := Callee.builtin Builtin.len, args := #[Operand.tmp 16], argTypes := #[45] }, type := 3, pos := "l09_mend.go:230", after := #[⟨3, .data⟩], guard := none }) (v := ?_) rfl (by kernel_rfl) (by kernel_rfl) (by kernel_rfl) (fun _ _ _ h => h) (Or.inl ⟨by rfl, ?_⟩) (by assumption) ?_
  rotate_left 1
  · intro w hSw
    (try dsimp only at hSw)
    first | (go_simp; done) | (go_simp; with_reducible rfl)
  try simp only [Act.put, List.setIfInBounds_toArray, List.set_cons_zero, List.set_cons_succ]
  refine wpAnyH_take (i := 5) (oi := { dst := some 18, op := Op.binOp BinOp.add 3 (Operand.tmp 17) (Operand.const (Value.int IntKind.i64 2)) 3, type := 3, pos := "l09_mend.go:230", after := #[⟨4, .data⟩], guard := none }) (v := ?_) rfl (by kernel_rfl) (by kernel_rfl) (by kernel_rfl) (fun _ _ _ h => h) (Or.inl ⟨by rfl, ?_⟩) (by assumption) ?_
  rotate_left 1
  · intro w hSw
    (try dsimp only at hSw)
    first | (go_simp; done) | (go_simp; with_reducible rfl)
  try simp only [Act.put, List.setIfInBounds_toArray, List.set_cons_zero, List.set_cons_succ]
  refine wpAnyH_take (i := 7) (oi := { dst := some 20, op := Op.move (Operand.tmp 6), type := 82, pos := "l09_mend.go:230", after := #[], guard := none }) (v := ?_) rfl (by kernel_rfl) (by kernel_rfl) (by kernel_rfl) (fun _ _ _ h => h) (Or.inl ⟨by rfl, ?_⟩) (by assumption) ?_
  rotate_left 1
  · intro w hSw
    (try dsimp only at hSw)
    first | (go_simp; done) | (go_simp; with_reducible rfl)
  try simp only [Act.put, List.setIfInBounds_toArray, List.set_cons_zero, List.set_cons_succ]
  refine wpAnyH_ready (rs := [6]) (by kernel_rfl) (by simp) ?_
  refine AllReadyH.cons (o := { dst := some 19, op := Op.call { callee := Callee.value (Operand.func 57), args := #[Operand.tmp 14, Operand.tmp 18], argTypes := #[82, 3] }, type := 3, pos := "l09_mend.go:230", after := #[⟨1, .data⟩, ⟨5, .data⟩], guard := none }) rfl (fun K hK => ?_) AllReadyH.nil
  go_simp
  have CPx := l1Below_any bk (m.wrote.length + 2) (by omega) (by omega) wd hcd
  rw [show ((m.wrote.length + 2 : Nat) : Int) = (m.wrote.length : Int) + 2 by omega] at CPx
  refine CPx.mono ?_
  rintro e wd' ⟨⟨p2, hp2, rfl⟩, hcd', hdd'⟩
  replace Zd := Zd.drawn hdd' (by omega)
  replace Yd := Yd.drawn hdd' (by omega)
  replace Md := Md.drawnM (by omega) hdd' (by omega)
  replace Bd := hdd'.below Bd Bd.size (by omega)
  replace sd : w2.heap.size ≤ wd'.heap.size := Nat.le_trans sd hdd'.size
  clear hdd' CPx hcd
  generalize wd' = wd at *
  have hcd := hcd'
  clear hcd'
  (try go_wp2_with fail)
  refine hK.out _ _ (by first | exact ⟨(Yd.2 0 _ rfl).1, (Yd.2 1 _ rfl).1, (Yd.2 2 _ rfl).1, (Yd.2 3 _ rfl).1, (Yd.2 4 _ rfl).1, (Yd.2 5 _ rfl).1⟩ | exact py | go_keep) (fun hHeld => ?_)
  clear hK K
  try simp only [Act.put, List.setIfInBounds_toArray, List.set_cons_zero, List.set_cons_succ]
  refine wpAnyH_ready (rs := [8]) (by kernel_rfl) (by simp) ?_
  refine AllReadyH.cons (o := { dst := some 21, op := Op.call { callee := Callee.value (Operand.func 57), args := #[Operand.tmp 20, Operand.const (Value.int IntKind.i64 20)], argTypes := #[82, 3] }, type := 3, pos := "l09_mend.go:230", after := #[⟨7, .data⟩, ⟨6, .chain⟩], guard := none }) rfl (fun K hK => ?_) AllReadyH.nil
  go_simp
  have CPx := l1Below_any bk 20 (by omega) (by omega) wd hcd
  refine CPx.mono ?_
  rintro e wd' ⟨⟨q2, hq2, rfl⟩, hcd', hdd'⟩
  replace Zd := Zd.drawn hdd' (by omega)
  replace Yd := Yd.drawn hdd' (by omega)
  replace Md := Md.drawnM (by omega) hdd' (by omega)
  replace Bd := hdd'.below Bd Bd.size (by omega)
  replace sd : w2.heap.size ≤ wd'.heap.size := Nat.le_trans sd hdd'.size
  clear hdd' CPx hcd
  have t4 : IntKind.i64.wrap ((q2 : Int) / 19) = (q2 : Int) / 19 := by rw [IntKind.wrap_i64]; omega
  have t3 : IntKind.i64.wrap ((p2 : Int) - (q2 : Int) / 19) = (p2 : Int) - (q2 : Int) / 19 := by rw [IntKind.wrap_i64]; omega
  generalize wd' = wd at *
  have hcd := hcd'
  clear hcd'
  (try go_wp2_with fail)
  refine hK.out _ _ (by first | exact ⟨(Yd.2 0 _ rfl).1, (Yd.2 1 _ rfl).1, (Yd.2 2 _ rfl).1, (Yd.2 3 _ rfl).1, (Yd.2 4 _ rfl).1, (Yd.2 5 _ rfl).1⟩ | exact py | go_keep) (fun hHeld => ?_)
  clear hK K
  try simp only [Act.put, List.setIfInBounds_toArray, List.set_cons_zero, List.set_cons_succ]
  refine wpAnyH_take (i := 9) (oi := { dst := some 22, op := Op.binOp BinOp.quo 3 (Operand.tmp 21) (Operand.const (Value.int IntKind.i64 19)) 3, type := 3, pos := "l09_mend.go:230", after := #[⟨8, .data⟩, { on := 11, ground := Ground.gcOnly Departure.lateStores }], guard := none }) (v := ?_) rfl (by kernel_rfl) (by kernel_rfl) (by kernel_rfl) (fun _ _ _ h => h) (Or.inl ⟨by rfl, ?_⟩) (by assumption) ?_
  rotate_left 1
  · intro w hSw
    (try dsimp only at hSw)
    first | (go_simp; done) | (go_simp; with_reducible rfl)
  try simp only [Act.put, List.setIfInBounds_toArray, List.set_cons_zero, List.set_cons_succ]
  refine wpAnyH_take (i := 10) (oi := { dst := some 23, op := Op.binOp BinOp.sub 3 (Operand.tmp 19) (Operand.tmp 22) 3, type := 3, pos := "l09_mend.go:230", after := #[⟨6, .data⟩, ⟨9, .data⟩, { on := 11, ground := Ground.gcOnly Departure.lateStores }], guard := none }) (v := ?_) rfl (by kernel_rfl) (by kernel_rfl) (by kernel_rfl) (fun _ _ _ h => h) (Or.inl ⟨by rfl, ?_⟩) (by assumption) ?_
  rotate_left 1
  · intro w hSw
    (try dsimp only at hSw)
    first | (go_simp; done) | (go_simp; with_reducible rfl)
  try simp only [Act.put, List.setIfInBounds_toArray, List.set_cons_zero, List.set_cons_succ]
  refine wpAnyH_ready (rs := [11]) (by kernel_rfl) (by simp) ?_
  refine AllReadyH.cons (o := { dst := none, op := Op.store 47 (Operand.tmp 2) (Operand.tmp 13), type := 0, pos := "l09_mend.go:230", after := #[⟨0, .data⟩, ⟨8, .chain⟩, ⟨0, .phase⟩, { on := 1, ground := Ground.textOnly Departure.lateStores }, { on := 2, ground := Ground.textOnly Departure.lateStores }, { on := 3, ground := Ground.textOnly Departure.lateStores }, { on := 4, ground := Ground.textOnly Departure.lateStoresUnsure }, { on := 5, ground := Ground.textOnly Departure.lateStores }, { on := 6, ground := Ground.textOnly Departure.lateStoresUnsure }, { on := 7, ground := Ground.textOnly Departure.lateStores }, { on := 8, ground := Ground.textOnly Departure.lateStoresUnsure }, { on := 9, ground := Ground.textOnly Departure.lateStores }, { on := 10, ground := Ground.textOnly Departure.lateStores }], guard := none }) rfl (fun K hK => ?_) AllReadyH.nil
  obtain ⟨⟨z0, f0⟩, ⟨z1, f1⟩, ⟨z2, f2⟩, ⟨z3, f3⟩, ⟨z4, f4⟩, ⟨z5, f5⟩⟩ : (_ ∧ _) ∧ (_ ∧ _) ∧ (_ ∧ _) ∧ (_ ∧ _) ∧ (_ ∧ _) ∧ (_ ∧ _) := ⟨Zd.2 0 _ rfl, Zd.2 1 _ rfl, Zd.2 2 _ rfl, Zd.2 3 _ rfl, Zd.2 4 _ rfl, Zd.2 5 _ rfl⟩
  go_simp
  replace Zd := ((((((Zd.put 0 (.int .i64 m.bye)).put 1 (.int .i64 m.epoch)).put 2 (.slice q.sa m.sealed.length q.sc)).put 3 (.slice q.ea m.seen.length q.ec)).put 4 (.bool m.planned)).put 5 (.slice q.wa m.wrote.length q.wc))
  replace Yd := ((((((Yd.far (b' := w.heap.size) (o := 0) (by omega) (.int .i64 m.bye)).far (b' := w.heap.size) (o := 1) (by omega) (.int .i64 m.epoch)).far (b' := w.heap.size) (o := 2) (by omega) (.slice q.sa m.sealed.length q.sc)).far (b' := w.heap.size) (o := 3) (by omega) (.slice q.ea m.seen.length q.ec)).far (b' := w.heap.size) (o := 4) (by omega) (.bool m.planned)).far (b' := w.heap.size) (o := 5) (by omega) (.slice q.wa m.wrote.length q.wc))
  replace Md := ((((((Md.farM (b := w.heap.size) (o := 0) (by first | omega | (simp; omega)) (.inl (by omega)) (.int .i64 m.bye)).farM (b := w.heap.size) (o := 1) (by first | omega | (simp; omega)) (.inl (by omega)) (.int .i64 m.epoch)).farM (b := w.heap.size) (o := 2) (by first | omega | (simp; omega)) (.inl (by omega)) (.slice q.sa m.sealed.length q.sc)).farM (b := w.heap.size) (o := 3) (by first | omega | (simp; omega)) (.inl (by omega)) (.slice q.ea m.seen.length q.ec)).farM (b := w.heap.size) (o := 4) (by first | omega | (simp; omega)) (.inl (by omega)) (.bool m.planned)).farM (b := w.heap.size) (o := 5) (by first | omega | (simp; omega)) (.inl (by omega)) (.slice q.wa m.wrote.length q.wc))
  replace Bd := ((((((Bd.setCell (p := ⟨w.heap.size, 0, none⟩) (by simp) (.int .i64 m.bye)).setCell (p := ⟨w.heap.size, 1, none⟩) (by simp) (.int .i64 m.epoch)).setCell (p := ⟨w.heap.size, 2, none⟩) (by simp) (.slice q.sa m.sealed.length q.sc)).setCell (p := ⟨w.heap.size, 3, none⟩) (by simp) (.slice q.ea m.seen.length q.ec)).setCell (p := ⟨w.heap.size, 4, none⟩) (by simp) (.bool m.planned)).setCell (p := ⟨w.heap.size, 5, none⟩) (by simp) (.slice q.wa m.wrote.length q.wc))
  clear z0 f0 z1 f1 z2 f2 z3 f3 z4 f4 z5 f5 hcd
  generalize ((((((wd.setCell ⟨w.heap.size, 0, none⟩ (.int .i64 m.bye)).setCell ⟨w.heap.size, 1, none⟩ (.int .i64 m.epoch)).setCell ⟨w.heap.size, 2, none⟩ (.slice q.sa m.sealed.length q.sc)).setCell ⟨w.heap.size, 3, none⟩ (.slice q.ea m.seen.length q.ec)).setCell ⟨w.heap.size, 4, none⟩ (.bool m.planned)).setCell ⟨w.heap.size, 5, none⟩ (.slice q.wa m.wrote.length q.wc)) = wd at *
  refine hK.out _ _ (by first | exact ⟨(Yd.2 0 _ rfl).1, (Yd.2 1 _ rfl).1, (Yd.2 2 _ rfl).1, (Yd.2 3 _ rfl).1, (Yd.2 4 _ rfl).1, (Yd.2 5 _ rfl).1⟩ | exact py | go_keep) (fun hHeld => ?_)
  clear hK K
  try simp only [Act.put, List.setIfInBounds_toArray, List.set_cons_zero, List.set_cons_succ]
  refine wpAnyH_take (i := 12) (oi := { dst := some 3, op := Op.assign (Operand.tmp 23), type := 3, pos := "l09_mend.go:230", after := #[⟨10, .data⟩, ⟨11, .chain⟩, ⟨0, .phase⟩, ⟨1, .phase⟩, ⟨2, .phase⟩, ⟨3, .phase⟩, ⟨4, .phase⟩, ⟨5, .phase⟩, ⟨6, .phase⟩, ⟨7, .phase⟩, ⟨8, .phase⟩, ⟨9, .phase⟩, ⟨10, .phase⟩, ⟨11, .phase⟩], guard := none }) (v := ?_) rfl (by kernel_rfl) (by kernel_rfl) (by kernel_rfl) (fun _ _ _ h => h) (Or.inl ⟨by rfl, ?_⟩) (by assumption) ?_
  rotate_left 1
  · intro w hSw
    (try dsimp only at hSw)
    first | (go_simp; done) | (go_simp; with_reducible rfl)
  try simp only [Act.put, List.setIfInBounds_toArray, List.set_cons_zero, List.set_cons_succ]
  refine wpAnyH_done (by kernel_rfl) ?_ _
  refine NoPanic.normal ?_
  have p0 := (Zd.2 0 _ rfl).1
  have p1 := (Zd.2 1 _ rfl).1
  have p2' := (Zd.2 2 _ rfl).1
  have p3 := (Zd.2 3 _ rfl).1
  have p4 := (Zd.2 4 _ rfl).1
  have p5 := (Zd.2 5 _ rfl).1
  have hQ : Hid (DrawE w (.returned (.tuple #[.agg #[.int .i64 m.bye, .int .i64 m.epoch, .slice q.sa m.sealed.length q.sc, .slice q.ea m.seen.length q.ec, .bool m.planned, .slice q.wa m.wrote.length q.wc], .int .i64 ((p2 : Int) - (q2 : Int) / 19)])) wd) := ⟨m, q, _, rfl, Md.rd, dUnhide F1, ⟨by omega, by omega⟩, Bd⟩
  clear Md Bd Yd Zd py
  go_wp2_with fail
  refine bodyPost_ret (v := .tuple #[.agg #[.int .i64 m.bye, .int .i64 m.epoch, .slice q.sa m.sealed.length q.sc, .slice q.ea m.seen.length q.ec, .bool m.planned, .slice q.wa m.wrote.length q.wc], .int .i64 ((p2 : Int) - (q2 : Int) / 19)]) (by simp [results, Try.results26, go_sem, p0, p1, p2', p3, p4, p5, t3, t4]) rfl (dUnhide hQ)
end Go.Proofs.Ytjbfpmackocgnaa
