/- Readers drawn: DrawReaderPack, DrawReaderRead (printed by tools/mkrba.py). -/
import Derived.Test.YthndkkjgjhgdnaaDoorGk9
import Derived.Test.YthndkkjgjhgdnaaDoorRnA
import Derived.Test.YthndkkjgjhgdnaaDoorPkH
import Derived.Test.YthndkkjgjhgdnaaDoorGk12
import Derived.Deep.RegionHeld3
namespace Go.Proofs.YthndkkjgjhgdnaaDoor
open Go.ChangeShapes Go.WideShapes Go.ChangeAt Go.RowKit
set_option linter.unusedVariables false
set_option linter.unusedSimpArgs false
set_option maxRecDepth 100000

theorem l1Place_P (a b : Int) (w : World) : Calls Tryd.prog 39 #[.int .i64 a, .int .i64 b] w fun e w' => (∃ x : Int, (-9223372036854775808 ≤ x ∧ x ≤ 9223372036854775807) ∧ e = .returned (.int .i64 x)) ∧ w = w' := by
  go_enter Tryd.func39, Tryd.ntmps39
  go_wp2
  go_ret
  refine ⟨⟨_, ?_, rfl⟩, rfl⟩
  unfold wrap64
  omega
/-- A drawn reader. -/
def DrewRd (w' : World) (v : Value) : Prop := ∃ (r : Rr) (ea : Option Addr) (ec : Nat), v = .agg #[.int .i64 r.epoch, .int .i64 r.off, .slice ea r.out.length ec] ∧ RdEventS (.slice ea r.out.length ec) r.out w' ∧ fitR r
/-- Drawn bytes. -/
def DrewBr (w' : World) (v : Value) : Prop := ∃ bs, Bs w' v bs ∧ bs.length ≤ 1000000
theorem RwZ.drawnB {bk eb eo n : Nat} {W W' : World} {f : Nat → Ev} (h : RwZ 3 Ev.cl W eb eo n f) (hd : Drawn bk W W') (hne : 0 < n → eb ≠ bk) : RwZ 3 Ev.cl W' eb eo n f := fun i hi j u hu => by
  obtain ⟨h1, h2⟩ := h i hi j u hu
  have hb := dCell_lt h1
  have e := hd.block eb hb (hne (by omega))
  exact ⟨(World.cell?_of_block (w := W) (w' := W') (a := ⟨eb, _, none⟩) e).trans h1, (World.frozen?_of_block (w := W) (w' := W') (a := ⟨eb, _, none⟩) e).trans h2⟩
/-- The state of DrawReaderRead's loop: the cursor, the reader's box, its events. -/
structure RbL (w : World) (bk xb eb eo n ec : Nat) (W : World) (ea : Option Addr) (ep off : Int) (f : Nat → Ev) : Prop where
  cur : Cur W bk
  box : BxZ W w.heap.size xb [.int .i64 ep, .int .i64 off, .slice ea n ec]
  row : RwZ 3 Ev.cl W eb eo n f
  drawn : Drawn bk w W
  fit : ∀ i, i < n → (-9223372036854775808 ≤ (f i).pl ∧ (f i).pl ≤ 9223372036854775807) ∧ (f i).data.size ≤ 40
section
variable {w W W' : World} {bk xb eb eo n ec k : Nat} {ea : Option Addr} {ep off : Int} {f : Nat → Ev}
theorem RbL.move (h : RbL w bk xb eb eo n ec W ea ep off f) (hx : bk < xb) (he : 0 < n → bk < eb) (hc : Cur W' bk) (hd : Drawn bk W W') : RbL w bk xb eb eo n ec W' ea ep off f :=
  ⟨hc, h.box.drawn hd (by omega), h.row.drawnB hd (fun hn => by have := he hn; omega), h.drawn.trans hd, h.fit⟩
theorem RbL.drew (h : RbL w bk xb eb eo n ec W ea ep off f) : RbL w bk xb eb eo n ec W.drew ea ep off f := ⟨h.cur.below (Below.refl _ _).drew, h.box, h.row, h.drawn.drew, h.fit⟩
theorem RbL.put (h : RbL w bk xb eb eo n ec W ea ep off f) (hk : k < n) (he : w.heap.size ≤ eb) (hex : eb ≠ xb) (hbk : bk < eb) (j : Nat) (hj : j < 3) (u : Value) (e' : Ev) (hu : e'.cl = (f k).cl.set j u) (hf : (-9223372036854775808 ≤ e'.pl ∧ e'.pl ≤ 9223372036854775807) ∧ e'.data.size ≤ 40) : RbL w bk xb eb eo n ec (W.setCell ⟨eb, eo + k * 3 + j, none⟩ u) ea ep off (putZ f k e') :=
  ⟨h.cur.setNew hbk _ _, h.box.far (fun e => hex e.symm) _, h.row.cell Ev.cl_len hk j hj u e' hu, h.drawn.setNew he _ _, fun i hi => by
    unfold putZ
    split
    · exact hf
    · exact h.fit i hi⟩
end
set_option maxHeartbeats 8000000 in
theorem drawReaderPack_any (a : Option Addr) (len cap : Nat) (w : World) (hr : Row8 w a len) :
    Calls Tryd.prog 13 #[.slice a len cap] w fun e w' => (∃ v, e = .returned v ∧ DrewRd w' v) ∧ Below w.heap.size w w' := by
  have b0 : Below w.heap.size w (w.alloc (.cells #[.int .i64 0, .int .i64 0, .slice none 0 0] 36)) := (Below.refl _ _).alloc (Nat.le_refl _) _
  have Z0 := BxZ.new (B := w.heap.size) w [.int .i64 0, .int .i64 0, .slice none 0 0] 36 (Nat.le_refl _)
  have hz0 : w.heap.size < (w.alloc (.cells #[.int .i64 0, .int .i64 0, .slice none 0 0] 36)).heap.size := by simp
  have hr1 := hr.below b0
  clear hr
  go_enter Tryd.func13, Tryd.ntmps13
  go_wp2_with fail
  generalize w.alloc (.cells #[.int .i64 0, .int .i64 0, .slice none 0 0] 36) = w0 at *
  refine (l1New_any a len cap w0 hr1).mono ?_
  rintro e w1 ⟨bk, rfl, hbk, hc1, b1⟩
  have Z1 := Z0.below b1
  have B1 := belowThen b0 b1
  have z1 := b1.size
  clear Z0 hr1 b0 b1
  go_wp2_with fail
  refine (l10DrawReader_any bk w1 hc1).mono ?_
  rintro e w2 ⟨⟨r, ea, ec, rfl, ho, hf⟩, hc2, hd2⟩
  have Z2 := dHide (Z1.drawn hd2 (by omega))
  have B2 := dHide (hd2.below B1 B1.size (by omega))
  obtain ⟨ep, off, es⟩ := r
  simp only at ho hf
  have H3 := dHide (((ho.farZ (b' := w.heap.size) (o := 0) (by omega) (.int .i64 ep)).farZ (b' := w.heap.size) (o := 1) (by omega) (.int .i64 off)).farZ (b' := w.heap.size) (o := 2) (by omega) (.slice ea es.length ec)).rw
  obtain ⟨⟨y0, f0⟩, ⟨y1, f1⟩, ⟨y2, f2⟩⟩ : (_ ∧ _) ∧ (_ ∧ _) ∧ (_ ∧ _) := ⟨(dUnhide Z2).2 0 _ rfl, (dUnhide Z2).2 1 _ rfl, (dUnhide Z2).2 2 _ rfl⟩
  have Z3 : Hid (BxZ (((w2.setCell ⟨w.heap.size, 0, none⟩ (.int .i64 ep)).setCell ⟨w.heap.size, 1, none⟩ (.int .i64 off)).setCell ⟨w.heap.size, 2, none⟩ (.slice ea es.length ec)) w.heap.size w.heap.size [.int .i64 ep, .int .i64 off, .slice ea es.length ec]) := (((dUnhide Z2).put 0 _).put 1 _).put 2 _
  have B3 := dHide ((((dUnhide B2).setCell (p := ⟨w.heap.size, 0, none⟩) (Nat.le_refl _) (.int .i64 ep)).setCell (p := ⟨w.heap.size, 1, none⟩) (Nat.le_refl _) (.int .i64 off)).setCell (p := ⟨w.heap.size, 2, none⟩) (Nat.le_refl _) (.slice ea es.length ec))
  have HF := dHide hf
  clear Z1 hc1 hc2 hd2 ho B1 Z2 B2 hf
  go_wp2
  generalize (((w2.setCell ⟨w.heap.size, 0, none⟩ (.int .i64 ep)).setCell ⟨w.heap.size, 1, none⟩ (.int .i64 off)).setCell ⟨w.heap.size, 2, none⟩ (.slice ea es.length ec)) = V at *
  have q0 := ((dUnhide Z3).2 0 _ rfl).1
  have q1 := ((dUnhide Z3).2 1 _ rfl).1
  have q2 := ((dUnhide Z3).2 2 _ rfl).1
  exact bodyPost_ret (v := .agg #[.int .i64 ep, .int .i64 off, .slice ea es.length ec]) (by simp [results, Tryd.results13, go_sem, q0, q1, q2]) rfl ⟨⟨_, rfl, ⟨ep, off, es⟩, _, _, rfl, dUnhide H3, dUnhide HF⟩, dUnhide B3⟩
set_option maxHeartbeats 16000000 in
theorem drawReaderRead_any (a : Option Addr) (len cap : Nat) (w0 : World) (hr : Row8 w0 a len) :
    Calls Tryd.prog 18 #[.slice a len cap] w0 fun e w' => (∃ v, e = .returned v ∧ DrewBr w' v) ∧ Below w0.heap.size w0 w' := by
  go_enter Tryd.func18, Tryd.ntmps18
  go_wp2_with fail
  refine (l1New_any a len cap w0 hr).mono ?_
  rintro e w ⟨bk, rfl, hbk, hc1, B1⟩
  have hk1 := hc1.lt
  clear hr
  go_wp2_with fail
  refine (l10DrawReader_any bk w hc1).mono ?_
  rintro e w2 ⟨⟨r, ea, ec, rfl, ho, hf⟩, hc2, hd2⟩
  obtain ⟨ep, off, es⟩ := r
  obtain ⟨hep, hof, hel, hev⟩ := hf
  simp only at ho hep hof hel hev
  have bX : Below w2.heap.size w2 (w2.alloc (.cells #[.int .i64 ep, .int .i64 off, .slice ea es.length ec] 36)) := (Below.refl _ _).alloc (Nat.le_refl _) _
  have s2 := hd2.size
  have XB := BxZ.new (B := w.heap.size) w2 [.int .i64 ep, .int .i64 off, .slice ea es.length ec] 36 s2
  have hcap : es.length ≤ ec ∧ ec ≤ 9223372036854775807 := by obtain ⟨-, a', c', e, h, -⟩ := ho; cases e; exact h
  obtain ⟨eb, eo, f, he1, he2, he3, hz, hff⟩ : ∃ eb eo f, (0 < es.length → ea = some ⟨eb, eo, none⟩) ∧ (0 < es.length → w.heap.size ≤ eb) ∧ (0 < es.length → eb < w2.heap.size) ∧ RwZ 3 Ev.cl w2 eb eo es.length f ∧ ∀ i, i < es.length → (-9223372036854775808 ≤ (f i).pl ∧ (f i).pl ≤ 9223372036854775807) ∧ (f i).data.size ≤ 40 := by
    by_cases hn : 0 < es.length
    · obtain ⟨eb, eo, rfl, hb, hz⟩ := ho.rwZ zeroEv hn
      refine ⟨eb, eo, _, fun _ => rfl, fun _ => hb, fun _ => dCell_lt (hz 0 hn 0 _ rfl).1, hz, fun i hi => ?_⟩
      have e : es.getD i zeroEv = es[i] := by rw [List.getD_eq_getElem?_getD, List.getElem?_eq_getElem hi]; rfl
      have h := hev _ (List.getElem_mem hi)
      rw [e]
      exact ⟨h.2.1, by rw [h.2.2]; omega⟩
    · exact ⟨0, 0, fun _ => zeroEv, fun h => absurd h hn, fun h => absurd h hn, fun h => absurd h hn, fun i hi => absurd hi (by omega), fun i hi => absurd hi (by omega)⟩
  have L3 : RbL w bk w2.heap.size eb eo es.length ec (w2.alloc (.cells #[.int .i64 ep, .int .i64 off, .slice ea es.length ec] 36)) ea ep off f := ⟨hc2.below bX, XB, hz.below bX, hd2.trans (Drawn.of_below bX), hff⟩
  generalize es.length = n at *
  clear ho hev hc1 hc2 hd2 hz hff bX XB
  go_wp2_with fail
  generalize hxb : w2.heap.size = xb at *
  generalize w2.alloc (.cells #[.int .i64 ep, .int .i64 off, .slice ea n ec] 36) = w3 at *
  have hx0 : bk < xb := by omega
  clear hxb
  have HL3 := dHide L3
  clear L3
  go_loopw [5] (fun x wr => ∃ (k : Nat) (f : Nat → Ev), x = .int .i64 (k : Int) ∧ k ≤ n ∧ Hid (RbL w bk xb eb eo n ec wr ea ep off f)) (fun x _ => n - (intOf x).toNat)
  case atStart => exact ⟨0, f, rfl, Nat.zero_le _, dUnhide HL3⟩
  case round =>
    clear HL3
    obtain ⟨k, f, rfl, hk3, HE⟩ := hrel
    obtain ⟨b2, -⟩ := (dUnhide HE).box.2 2 _ rfl
    by_cases hlt : (k : Int) < (n : Int)
    · have hkl : k < n := by omega
      have h0n : 0 < n := by omega
      obtain rfl := he1 h0n
      have he0 := he2 h0n
      have hex : eb ≠ xb := by have := he3 h0n; omega
      have hk : bk < eb := by omega
      replace he1 : 0 < n → bk < eb := fun _ => hk
      clear he2 he3
      go_wp2_with fail
      have Ec := (dUnhide HE).drew
      refine wp_region_noPanic ?_
      refine wp_region_held_drew (S := fun W => W.cell? ⟨xb, 2, none⟩ = some (.slice (some ⟨eb, eo, none⟩) n ec)) (by kernel_rfl) (by first | exact ky | exact (Ec.box.2 2 _ rfl).1 | go_keep) (fun hHeld => ?_)
      generalize wr.drew = wd at *
      refine wpAnyH_take (i := 0) (oi := { dst := some 19, op := Op.fieldAddr 36 (Operand.tmp 4) 2, type := 0, pos := "l17_pack.go:227", after := #[], guard := none }) (v := ?_) rfl (by kernel_rfl) (by kernel_rfl) (by kernel_rfl) (fun _ _ _ h => h) (Or.inl ⟨by rfl, ?_⟩) (by assumption) ?_
      rotate_left 1
      · intro w hSw
        (try dsimp only at hSw)
        first | (go_simp; done) | (go_simp; with_reducible rfl)
      try simp only [Act.put, List.setIfInBounds_toArray, List.set_cons_zero, List.set_cons_succ]
      refine wpAnyH_take (i := 1) (oi := { dst := some 20, op := Op.load 34 (Operand.tmp 19), type := 34, pos := "l17_pack.go:227", after := #[{ on := 0, ground := Ground.data }], guard := none }) (v := ?_) rfl (by kernel_rfl) (by kernel_rfl) (by kernel_rfl) (fun _ _ _ h => h) (Or.inl ⟨by rfl, ?_⟩) (by assumption) ?_
      rotate_left 1
      · intro w hSw
        (try dsimp only at hSw)
        first | (go_simp; done) | (go_simp; with_reducible rfl)
      try simp only [Act.put, List.setIfInBounds_toArray, List.set_cons_zero, List.set_cons_succ]
      refine wpAnyH_take (i := 2) (oi := { dst := some 21, op := Op.move (Operand.tmp 5), type := 3, pos := "l17_pack.go:227", after := #[], guard := none }) (v := ?_) rfl (by kernel_rfl) (by kernel_rfl) (by kernel_rfl) (fun _ _ _ h => h) (Or.inl ⟨by rfl, ?_⟩) (by assumption) ?_
      rotate_left 1
      · intro w hSw
        (try dsimp only at hSw)
        first | (go_simp; done) | (go_simp; with_reducible rfl)
      try simp only [Act.put, List.setIfInBounds_toArray, List.set_cons_zero, List.set_cons_succ]
      refine wpAnyH_take (i := 3) (oi := { dst := some 22, op := Op.move (Operand.tmp 3), type := 43, pos := "l17_pack.go:227", after := #[], guard := none }) (v := ?_) rfl (by kernel_rfl) (by kernel_rfl) (by kernel_rfl) (fun _ _ _ h => h) (Or.inl ⟨by rfl, ?_⟩) (by assumption) ?_
      rotate_left 1
      · intro w hSw
        (try dsimp only at hSw)
        first | (go_simp; done) | (go_simp; with_reducible rfl)
      try simp only [Act.put, List.setIfInBounds_toArray, List.set_cons_zero, List.set_cons_succ]
      refine wpAnyH_ready (rs := [4]) (by kernel_rfl) (by simp) ?_
      refine AllReadyH.cons (o := { dst := some 23, op := Op.call { callee := Callee.value (Operand.func 40), args := #[Operand.tmp 22, Operand.const (Value.int IntKind.i64 3)], argTypes := #[43, 3] }, type := 3, pos := "l17_pack.go:227", after := #[{ on := 3, ground := Ground.data }], guard := none }) rfl (fun K hK => ?_) AllReadyH.nil
      go_simp
      refine (l1Below_any bk 3 (by omega) (by omega) wd Ec.cur).mono ?_
      rintro e wd ⟨⟨y, hy, rfl⟩, hc5, hd5⟩
      replace Ec := Ec.move hx0 he1 hc5 hd5
      have hwy : IntKind.i64.wrap (1 + (y : Int)) = 1 + (y : Int) := by rw [IntKind.wrap_i64]; omega
      clear hc5 hd5
      (try go_wp2_with fail)
      refine hK.out _ _ (by first | exact ky | exact (Ec.box.2 2 _ rfl).1 | go_keep) (fun hHeld => ?_)
      clear hK K
      try simp only [Act.put, List.setIfInBounds_toArray, List.set_cons_zero, List.set_cons_succ]
      refine wpAnyH_take (i := 5) (oi := { dst := some 24, op := Op.binOp BinOp.add 3 (Operand.const (Value.int IntKind.i64 1)) (Operand.tmp 23) 3, type := 3, pos := "l17_pack.go:227", after := #[{ on := 4, ground := Ground.data }], guard := none }) (v := ?_) rfl (by kernel_rfl) (by kernel_rfl) (by kernel_rfl) (fun _ _ _ h => h) (Or.inl ⟨by rfl, ?_⟩) (by assumption) ?_
      rotate_left 1
      · intro w hSw
        (try dsimp only at hSw)
        first | (go_simp; done) | (go_simp; with_reducible rfl)
      try simp only [Act.put, List.setIfInBounds_toArray, List.set_cons_zero, List.set_cons_succ]
      refine wpAnyH_ready (rs := [6]) (by kernel_rfl) (by simp) ?_
      refine AllReadyH.cons (o := { dst := some 25, op := Op.call { callee := Callee.value (Operand.func 39), args := #[Operand.tmp 24, Operand.const (Value.int IntKind.i64 1)], argTypes := #[3, 3] }, type := 3, pos := "l17_pack.go:227", after := #[{ on := 5, ground := Ground.data }, { on := 4, ground := Ground.chain }], guard := none }) rfl (fun K hK => ?_) AllReadyH.nil
      go_simp
      refine (l1Place_P (1 + (y : Int)) 1 wd).mono ?_
      rintro e w' ⟨⟨x, hx, rfl⟩, rfl⟩
      (try go_wp2_with fail)
      refine hK.out _ _ (by first | exact ky | exact (Ec.box.2 2 _ rfl).1 | go_keep) (fun hHeld => ?_)
      clear hK K
      try simp only [Act.put, List.setIfInBounds_toArray, List.set_cons_zero, List.set_cons_succ]
      refine wpAnyH_take (i := 7) (oi := { dst := some 26, op := Op.indexAddr 34 (Operand.tmp 20) (Operand.tmp 21), type := 0, pos := "l17_pack.go:227", after := #[{ on := 1, ground := Ground.data }, { on := 2, ground := Ground.data }, { on := 0, ground := Ground.phase }, { on := 1, ground := Ground.phase }, { on := 2, ground := Ground.phase }, { on := 3, ground := Ground.phase }, { on := 4, ground := Ground.phase }, { on := 5, ground := Ground.phase }, { on := 6, ground := Ground.phase }], guard := none }) (v := ?_) rfl (by kernel_rfl) (by kernel_rfl) (by kernel_rfl) (fun _ _ _ h => h) (Or.inl ⟨by rfl, ?_⟩) (by assumption) ?_
      rotate_left 1
      · intro w hSw
        (try dsimp only at hSw)
        first | (go_simp; done) | (go_simp; with_reducible rfl)
      try simp only [Act.put, List.setIfInBounds_toArray, List.set_cons_zero, List.set_cons_succ]
      refine wpAnyH_take (i := 8) (oi := { dst := some 27, op := Op.fieldAddr 68 (Operand.tmp 26) 1, type := 0, pos := "l17_pack.go:227", after := #[{ on := 7, ground := Ground.data }, { on := 0, ground := Ground.phase }, { on := 1, ground := Ground.phase }, { on := 2, ground := Ground.phase }, { on := 3, ground := Ground.phase }, { on := 4, ground := Ground.phase }, { on := 5, ground := Ground.phase }, { on := 6, ground := Ground.phase }], guard := none }) (v := ?_) rfl (by kernel_rfl) (by kernel_rfl) (by kernel_rfl) (fun _ _ _ h => h) (Or.inl ⟨by rfl, ?_⟩) (by assumption) ?_
      rotate_left 1
      · intro w hSw
        (try dsimp only at hSw)
        first | (go_simp; done) | (go_simp; with_reducible rfl)
      try simp only [Act.put, List.setIfInBounds_toArray, List.set_cons_zero, List.set_cons_succ]
      refine wpAnyH_ready (rs := [9]) (by kernel_rfl) (by simp) ?_
      refine AllReadyH.cons (o := { dst := none, op := Op.store 3 (Operand.tmp 27) (Operand.tmp 25), type := 0, pos := "l17_pack.go:227", after := #[{ on := 8, ground := Ground.data }, { on := 6, ground := Ground.data }, { on := 6, ground := Ground.chain }, { on := 0, ground := Ground.phase }, { on := 1, ground := Ground.phase }, { on := 2, ground := Ground.phase }, { on := 3, ground := Ground.phase }, { on := 4, ground := Ground.phase }, { on := 5, ground := Ground.phase }, { on := 6, ground := Ground.phase }], guard := none }) rfl (fun K hK => ?_) AllReadyH.nil
      obtain ⟨z0, f0⟩ := Ec.row k hkl 1 _ rfl
      go_simp
      replace Ec := Ec.put hkl he0 hex hk 1 (by decide) (.int .i64 x) ⟨(f k).kind, x, (f k).data⟩ (by rfl) ⟨hx, (Ec.fit k hkl).2⟩
      clear z0 f0
      generalize wd.setCell ⟨eb, eo + k * 3 + 1, none⟩ (.int .i64 x) = wd at *
      refine hK.out _ _ (by first | exact ky | exact (Ec.box.2 2 _ rfl).1 | go_keep) (fun hHeld => ?_)
      clear hK K
      try simp only [Act.put, List.setIfInBounds_toArray, List.set_cons_zero, List.set_cons_succ]
      refine wpAnyH_done (by kernel_rfl) ?_ _
      refine NoPanic.normal ?_
      replace HE := dHide Ec
      clear hwy
      clear Ec
      generalize hff : putZ f k _ = f at *
      clear hff
      go_wp2_with fail
      have Ec := (dUnhide HE).drew
      refine wp_region_noPanic ?_
      refine wp_region_held_drew (S := fun W => W.cell? ⟨xb, 2, none⟩ = some (.slice (some ⟨eb, eo, none⟩) n ec)) (by kernel_rfl) (by first | exact ky | exact (Ec.box.2 2 _ rfl).1 | go_keep) (fun hHeld => ?_)
      generalize wd.drew = wd at *
      refine wpAnyH_take (i := 0) (oi := { dst := some 28, op := Op.fieldAddr 36 (Operand.tmp 4) 2, type := 0, pos := "l17_pack.go:228", after := #[], guard := none }) (v := ?_) rfl (by kernel_rfl) (by kernel_rfl) (by kernel_rfl) (fun _ _ _ h => h) (Or.inl ⟨by rfl, ?_⟩) (by assumption) ?_
      rotate_left 1
      · intro w hSw
        (try dsimp only at hSw)
        first | (go_simp; done) | (go_simp; with_reducible rfl)
      try simp only [Act.put, List.setIfInBounds_toArray, List.set_cons_zero, List.set_cons_succ]
      refine wpAnyH_take (i := 1) (oi := { dst := some 29, op := Op.load 34 (Operand.tmp 28), type := 34, pos := "l17_pack.go:228", after := #[{ on := 0, ground := Ground.data }], guard := none }) (v := ?_) rfl (by kernel_rfl) (by kernel_rfl) (by kernel_rfl) (fun _ _ _ h => h) (Or.inl ⟨by rfl, ?_⟩) (by assumption) ?_
      rotate_left 1
      · intro w hSw
        (try dsimp only at hSw)
        first | (go_simp; done) | (go_simp; with_reducible rfl)
      try simp only [Act.put, List.setIfInBounds_toArray, List.set_cons_zero, List.set_cons_succ]
      refine wpAnyH_take (i := 2) (oi := { dst := some 30, op := Op.move (Operand.tmp 5), type := 3, pos := "l17_pack.go:228", after := #[], guard := none }) (v := ?_) rfl (by kernel_rfl) (by kernel_rfl) (by kernel_rfl) (fun _ _ _ h => h) (Or.inl ⟨by rfl, ?_⟩) (by assumption) ?_
      rotate_left 1
      · intro w hSw
        (try dsimp only at hSw)
        first | (go_simp; done) | (go_simp; with_reducible rfl)
      try simp only [Act.put, List.setIfInBounds_toArray, List.set_cons_zero, List.set_cons_succ]
      refine wpAnyH_take (i := 3) (oi := { dst := some 31, op := Op.move (Operand.tmp 3), type := 43, pos := "l17_pack.go:228", after := #[], guard := none }) (v := ?_) rfl (by kernel_rfl) (by kernel_rfl) (by kernel_rfl) (fun _ _ _ h => h) (Or.inl ⟨by rfl, ?_⟩) (by assumption) ?_
      rotate_left 1
      · intro w hSw
        (try dsimp only at hSw)
        first | (go_simp; done) | (go_simp; with_reducible rfl)
      try simp only [Act.put, List.setIfInBounds_toArray, List.set_cons_zero, List.set_cons_succ]
      refine wpAnyH_ready (rs := [4]) (by kernel_rfl) (by simp) ?_
      refine AllReadyH.cons (o := { dst := some 32, op := Op.call { callee := Callee.value (Operand.func 40), args := #[Operand.tmp 31, Operand.const (Value.int IntKind.i64 5)], argTypes := #[43, 3] }, type := 3, pos := "l17_pack.go:228", after := #[{ on := 3, ground := Ground.data }], guard := none }) rfl (fun K hK => ?_) AllReadyH.nil
      go_simp
      refine (l1Below_any bk 5 (by omega) (by omega) wd Ec.cur).mono ?_
      rintro e wd ⟨⟨y, hy, rfl⟩, hc5, hd5⟩
      replace Ec := Ec.move hx0 he1 hc5 hd5
      have hwy : IntKind.i64.wrap (1 + (y : Int)) = 1 + (y : Int) := by rw [IntKind.wrap_i64]; omega
      clear hc5 hd5
      (try go_wp2_with fail)
      refine hK.out _ _ (by first | exact ky | exact (Ec.box.2 2 _ rfl).1 | go_keep) (fun hHeld => ?_)
      clear hK K
      try simp only [Act.put, List.setIfInBounds_toArray, List.set_cons_zero, List.set_cons_succ]
      refine wpAnyH_take (i := 5) (oi := { dst := some 33, op := Op.binOp BinOp.add 3 (Operand.const (Value.int IntKind.i64 1)) (Operand.tmp 32) 3, type := 3, pos := "l17_pack.go:228", after := #[{ on := 4, ground := Ground.data }], guard := none }) (v := ?_) rfl (by kernel_rfl) (by kernel_rfl) (by kernel_rfl) (fun _ _ _ h => h) (Or.inl ⟨by rfl, ?_⟩) (by assumption) ?_
      rotate_left 1
      · intro w hSw
        (try dsimp only at hSw)
        first | (go_simp; done) | (go_simp; with_reducible rfl)
      try simp only [Act.put, List.setIfInBounds_toArray, List.set_cons_zero, List.set_cons_succ]
      refine wpAnyH_take (i := 6) (oi := { dst := some 34, op := Op.indexAddr 34 (Operand.tmp 29) (Operand.tmp 30), type := 0, pos := "l17_pack.go:228", after := #[{ on := 1, ground := Ground.data }, { on := 2, ground := Ground.data }, { on := 0, ground := Ground.phase }, { on := 1, ground := Ground.phase }, { on := 2, ground := Ground.phase }, { on := 3, ground := Ground.phase }, { on := 4, ground := Ground.phase }, { on := 5, ground := Ground.phase }], guard := none }) (v := ?_) rfl (by kernel_rfl) (by kernel_rfl) (by kernel_rfl) (fun _ _ _ h => h) (Or.inl ⟨by rfl, ?_⟩) (by assumption) ?_
      rotate_left 1
      · intro w hSw
        (try dsimp only at hSw)
        first | (go_simp; done) | (go_simp; with_reducible rfl)
      try simp only [Act.put, List.setIfInBounds_toArray, List.set_cons_zero, List.set_cons_succ]
      refine wpAnyH_take (i := 7) (oi := { dst := some 35, op := Op.fieldAddr 68 (Operand.tmp 34) 0, type := 0, pos := "l17_pack.go:228", after := #[{ on := 6, ground := Ground.data }, { on := 0, ground := Ground.phase }, { on := 1, ground := Ground.phase }, { on := 2, ground := Ground.phase }, { on := 3, ground := Ground.phase }, { on := 4, ground := Ground.phase }, { on := 5, ground := Ground.phase }], guard := none }) (v := ?_) rfl (by kernel_rfl) (by kernel_rfl) (by kernel_rfl) (fun _ _ _ h => h) (Or.inl ⟨by rfl, ?_⟩) (by assumption) ?_
      rotate_left 1
      · intro w hSw
        (try dsimp only at hSw)
        first | (go_simp; done) | (go_simp; with_reducible rfl)
      try simp only [Act.put, List.setIfInBounds_toArray, List.set_cons_zero, List.set_cons_succ]
      refine wpAnyH_ready (rs := [8]) (by kernel_rfl) (by simp) ?_
      refine AllReadyH.cons (o := { dst := none, op := Op.store 3 (Operand.tmp 35) (Operand.tmp 33), type := 0, pos := "l17_pack.go:228", after := #[{ on := 7, ground := Ground.data }, { on := 5, ground := Ground.data }, { on := 4, ground := Ground.chain }, { on := 0, ground := Ground.phase }, { on := 1, ground := Ground.phase }, { on := 2, ground := Ground.phase }, { on := 3, ground := Ground.phase }, { on := 4, ground := Ground.phase }, { on := 5, ground := Ground.phase }], guard := none }) rfl (fun K hK => ?_) AllReadyH.nil
      obtain ⟨z0, f0⟩ := Ec.row k hkl 0 _ rfl
      simp only [Nat.add_zero] at z0 f0
      go_simp
      replace Ec := Ec.put hkl he0 hex hk 0 (by decide) (.int .i64 (1 + (y : Int))) ⟨1 + (y : Int), (f k).pl, (f k).data⟩ (by rfl) (Ec.fit k hkl)
      simp only [Nat.add_zero] at Ec
      clear z0 f0
      generalize wd.setCell ⟨eb, eo + k * 3, none⟩ (.int .i64 (1 + (y : Int))) = wd at *
      refine hK.out _ _ (by first | exact ky | exact (Ec.box.2 2 _ rfl).1 | go_keep) (fun hHeld => ?_)
      clear hK K
      try simp only [Act.put, List.setIfInBounds_toArray, List.set_cons_zero, List.set_cons_succ]
      refine wpAnyH_done (by kernel_rfl) ?_ _
      refine NoPanic.normal ?_
      replace HE := dHide Ec
      clear hwy
      clear Ec
      generalize hff : putZ f k _ = f at *
      clear hff
      go_wp2_with fail
      have Ec := (dUnhide HE).drew
      refine wp_region_noPanic ?_
      refine wp_region_held_drew (S := fun W => W.cell? ⟨xb, 2, none⟩ = some (.slice (some ⟨eb, eo, none⟩) n ec)) (by kernel_rfl) (by first | exact ky | exact (Ec.box.2 2 _ rfl).1 | go_keep) (fun hHeld => ?_)
      generalize wd.drew = wd at *
      refine wpAnyH_take (i := 0) (oi := { dst := some 36, op := Op.fieldAddr 36 (Operand.tmp 4) 2, type := 0, pos := "l17_pack.go:229", after := #[], guard := none }) (v := ?_) rfl (by kernel_rfl) (by kernel_rfl) (by kernel_rfl) (fun _ _ _ h => h) (Or.inl ⟨by rfl, ?_⟩) (by assumption) ?_
      rotate_left 1
      · intro w hSw
        (try dsimp only at hSw)
        first | (go_simp; done) | (go_simp; with_reducible rfl)
      try simp only [Act.put, List.setIfInBounds_toArray, List.set_cons_zero, List.set_cons_succ]
      refine wpAnyH_take (i := 1) (oi := { dst := some 37, op := Op.load 34 (Operand.tmp 36), type := 34, pos := "l17_pack.go:229", after := #[{ on := 0, ground := Ground.data }], guard := none }) (v := ?_) rfl (by kernel_rfl) (by kernel_rfl) (by kernel_rfl) (fun _ _ _ h => h) (Or.inl ⟨by rfl, ?_⟩) (by assumption) ?_
      rotate_left 1
      · intro w hSw
        (try dsimp only at hSw)
        first | (go_simp; done) | (go_simp; with_reducible rfl)
      try simp only [Act.put, List.setIfInBounds_toArray, List.set_cons_zero, List.set_cons_succ]
      refine wpAnyH_take (i := 2) (oi := { dst := some 38, op := Op.move (Operand.tmp 5), type := 3, pos := "l17_pack.go:229", after := #[], guard := none }) (v := ?_) rfl (by kernel_rfl) (by kernel_rfl) (by kernel_rfl) (fun _ _ _ h => h) (Or.inl ⟨by rfl, ?_⟩) (by assumption) ?_
      rotate_left 1
      · intro w hSw
        (try dsimp only at hSw)
        first | (go_simp; done) | (go_simp; with_reducible rfl)
      try simp only [Act.put, List.setIfInBounds_toArray, List.set_cons_zero, List.set_cons_succ]
      refine wpAnyH_take (i := 3) (oi := { dst := some 39, op := Op.move (Operand.tmp 3), type := 43, pos := "l17_pack.go:229", after := #[], guard := none }) (v := ?_) rfl (by kernel_rfl) (by kernel_rfl) (by kernel_rfl) (fun _ _ _ h => h) (Or.inl ⟨by rfl, ?_⟩) (by assumption) ?_
      rotate_left 1
      · intro w hSw
        (try dsimp only at hSw)
        first | (go_simp; done) | (go_simp; with_reducible rfl)
      try simp only [Act.put, List.setIfInBounds_toArray, List.set_cons_zero, List.set_cons_succ]
      refine wpAnyH_ready (rs := [4]) (by kernel_rfl) (by simp) ?_
      refine AllReadyH.cons (o := { dst := some 40, op := Op.buildSlice 73 3 #[(0, Operand.const (Value.string { data := #[] })), (1, Operand.const (Value.string { data := #[97] })), (2, Operand.const (Value.string { data := #[98, 99] }))], type := 73, pos := "l17_pack.go:229", after := #[], guard := none }) rfl (fun K hK => ?_) AllReadyH.nil
      go_simp
      have CP := pickT_new (w := wd) Ec.cur [⟨#[]⟩, ⟨#[97]⟩, ⟨#[98, 99]⟩] 9 (by simp) (by simp) 3
      simp only [List.map_cons, List.map_nil] at CP
      have ky := ((Ec.box.below ((Below.refl wd.heap.size wd).alloc (Nat.le_refl _) (.cells #[.string ⟨#[]⟩, .string ⟨#[97]⟩, .string ⟨#[98, 99]⟩] 9))).2 2 _ rfl).1
      refine hK.out _ _ (by first | exact ky | exact (Ec.box.2 2 _ rfl).1 | go_keep) (fun hHeld => ?_)
      clear hK K
      try simp only [Act.put, List.setIfInBounds_toArray, List.set_cons_zero, List.set_cons_succ]
      refine wpAnyH_ready (rs := [5]) (by kernel_rfl) (by simp) ?_
      refine AllReadyH.cons (o := { dst := some 41, op := Op.call { callee := Callee.value (Operand.func 41), args := #[Operand.tmp 39, Operand.tmp 40], argTypes := #[43, 73] }, type := 9, pos := "l17_pack.go:229", after := #[{ on := 3, ground := Ground.data }, { on := 4, ground := Ground.data }], guard := none }) rfl (fun K hK => ?_) AllReadyH.nil
      go_simp
      refine CP.mono ?_
      rintro e wd ⟨⟨t, ht, rfl⟩, hc5, hd5⟩
      replace Ec := Ec.move hx0 he1 hc5 hd5
      have ht2 : t.size ≤ 40 := by
        simp only [List.mem_cons, List.mem_nil_iff, or_false] at ht
        rcases ht with rfl | rfl | rfl <;> decide
      clear hc5 hd5 CP ky ht
      (try go_wp2_with fail)
      refine hK.out _ _ (by first | exact ky | exact (Ec.box.2 2 _ rfl).1 | go_keep) (fun hHeld => ?_)
      clear hK K
      try simp only [Act.put, List.setIfInBounds_toArray, List.set_cons_zero, List.set_cons_succ]
      refine wpAnyH_take (i := 6) (oi := { dst := some 42, op := Op.indexAddr 34 (Operand.tmp 37) (Operand.tmp 38), type := 0, pos := "l17_pack.go:229", after := #[{ on := 1, ground := Ground.data }, { on := 2, ground := Ground.data }, { on := 0, ground := Ground.phase }, { on := 1, ground := Ground.phase }, { on := 2, ground := Ground.phase }, { on := 3, ground := Ground.phase }, { on := 4, ground := Ground.phase }, { on := 5, ground := Ground.phase }], guard := none }) (v := ?_) rfl (by kernel_rfl) (by kernel_rfl) (by kernel_rfl) (fun _ _ _ h => h) (Or.inl ⟨by rfl, ?_⟩) (by assumption) ?_
      rotate_left 1
      · intro w hSw
        (try dsimp only at hSw)
        first | (go_simp; done) | (go_simp; with_reducible rfl)
      try simp only [Act.put, List.setIfInBounds_toArray, List.set_cons_zero, List.set_cons_succ]
      refine wpAnyH_take (i := 7) (oi := { dst := some 43, op := Op.fieldAddr 68 (Operand.tmp 42) 2, type := 0, pos := "l17_pack.go:229", after := #[{ on := 6, ground := Ground.data }, { on := 0, ground := Ground.phase }, { on := 1, ground := Ground.phase }, { on := 2, ground := Ground.phase }, { on := 3, ground := Ground.phase }, { on := 4, ground := Ground.phase }, { on := 5, ground := Ground.phase }], guard := none }) (v := ?_) rfl (by kernel_rfl) (by kernel_rfl) (by kernel_rfl) (fun _ _ _ h => h) (Or.inl ⟨by rfl, ?_⟩) (by assumption) ?_
      rotate_left 1
      · intro w hSw
        (try dsimp only at hSw)
        first | (go_simp; done) | (go_simp; with_reducible rfl)
      try simp only [Act.put, List.setIfInBounds_toArray, List.set_cons_zero, List.set_cons_succ]
      refine wpAnyH_ready (rs := [8]) (by kernel_rfl) (by simp) ?_
      refine AllReadyH.cons (o := { dst := none, op := Op.store 9 (Operand.tmp 43) (Operand.tmp 41), type := 0, pos := "l17_pack.go:229", after := #[{ on := 7, ground := Ground.data }, { on := 5, ground := Ground.data }, { on := 5, ground := Ground.chain }, { on := 0, ground := Ground.phase }, { on := 1, ground := Ground.phase }, { on := 2, ground := Ground.phase }, { on := 3, ground := Ground.phase }, { on := 4, ground := Ground.phase }, { on := 5, ground := Ground.phase }], guard := none }) rfl (fun K hK => ?_) AllReadyH.nil
      obtain ⟨z0, f0⟩ := Ec.row k hkl 2 _ rfl
      go_simp
      replace Ec := Ec.put hkl he0 hex hk 2 (by decide) (.string t) ⟨(f k).kind, (f k).pl, t⟩ (by rfl) ⟨(Ec.fit k hkl).1, ht2⟩
      clear z0 f0
      generalize wd.setCell ⟨eb, eo + k * 3 + 2, none⟩ (.string t) = wd at *
      refine hK.out _ _ (by first | exact ky | exact (Ec.box.2 2 _ rfl).1 | go_keep) (fun hHeld => ?_)
      clear hK K
      try simp only [Act.put, List.setIfInBounds_toArray, List.set_cons_zero, List.set_cons_succ]
      refine wpAnyH_done (by kernel_rfl) ?_ _
      refine NoPanic.normal ?_
      replace HE := dHide Ec
      clear Ec
      go_wp2
      go_roundw
      case rel => exact ⟨k + 1, _, by go_num, by omega, dUnhide HE⟩
      case measure => simp [intOf]; omega
    · have e1 : k = n := by omega
      subst e1
      have HV : Hid (∃ es : List Ev, es.length = k ∧ RdEventS (.slice ea k ec) es wr ∧ ∀ e ∈ es, (-9223372036854775808 ≤ e.pl ∧ e.pl ≤ 9223372036854775807) ∧ e.data.size ≤ 40) := by
        refine ⟨(List.range k).map f, by simp, ?_, fun e he => ?_⟩
        · refine ⟨by simp; omega, ea, ec, by simp, by simpa using hcap, ?_⟩
          by_cases hn : 0 < k
          · exact .inr ⟨eb, eo, he1 hn, fun i hi j u hu => ((dUnhide HE).row i (by simpa using hi) j u (by simpa using hu)).1⟩
          · exact .inl (by have : k = 0 := by omega
                           subst this; rfl)
        · obtain ⟨i, hi, rfl⟩ := List.mem_map.1 he
          exact (dUnhide HE).fit i (List.mem_range.1 hi)
      obtain ⟨es, hes, hE, hfe⟩ := dUnhide HV
      obtain ⟨b0, -⟩ := (dUnhide HE).box.2 0 _ rfl
      obtain ⟨b1, -⟩ := (dUnhide HE).box.2 1 _ rfl
      have hcr := (dUnhide HE).cur
      have hBr := (dUnhide HE).drawn.below B1 B1.size hbk
      have CP := dHide (specReaderPack_any (.agg #[.int .i64 ep, .int .i64 off, .slice ea k ec]) ⟨ep, off, es⟩ wr ⟨_, rfl, hE⟩ (fun e he => (hfe e he).1.2))
      have CL : Hid ((rdM ⟨ep, off, es⟩).1.length ≤ 100000) := by
        unfold Hid
        by_cases h : rdPk ⟨ep, off, es⟩
        · rw [rdM_yes h]
          have h1 := evsB_len es h.1
          have h2 := numB_len ep.toNat
          have h3 := numB_len off.toNat
          have h4 := numB_len es.length
          simp only [rdB, List.length_append]
          omega
        · rw [rdM_no h]; simp
      generalize rdM ⟨ep, off, es⟩ = M at *
      obtain ⟨PB, pb⟩ := M
      clear HV hes hE hfe HE he1 he2 he3
      simp only at CP CL
      go_wp2_with fail
      refine (dUnhide CP).mono ?_
      rintro e w5 ⟨⟨u, rfl, hO⟩, b5⟩
      have hc5 := hcr.below b5
      have B5 := belowThen hBr b5
      have CS := dHide (spoil_any bk u PB w5 hc5 hO.bs (by have := dUnhide CL; omega))
      clear hcr hBr b5 CP hO b0 b1 b2
      go_wp2_with fail
      refine (dUnhide CS).mono ?_
      rintro e w6 ⟨⟨u6, bs6, rfl, q6, l6⟩, d6⟩
      have B6 := dHide (d6.below B5 B5.size hbk)
      have R6 : Hid (DrewBr w6 u6) := ⟨bs6, q6, by have := dUnhide CL; omega⟩
      clear CS q6 l6 d6 B5 hc5
      go_wp2
      go_ret
      exact ⟨⟨_, rfl, dUnhide R6⟩, dUnhide B6⟩
end Go.Proofs.YthndkkjgjhgdnaaDoor
