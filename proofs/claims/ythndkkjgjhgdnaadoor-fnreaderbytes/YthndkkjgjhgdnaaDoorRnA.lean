/- Readers drawn: l10DrawReader (printed by tools/mkrna.py). -/
import Derived.Test.YthndkkjgjhgdnaaDoorNxS
import Derived.Test.YthndkkjgjhgdnaaDoorGk12
import Derived.Test.YthndkkjgjhgdnaaDoorDrwB
import Derived.Test.YthndkkjgjhgdnaaDoorDrawB
import Derived.Deep.RegionLaw
import Derived.Deep.RegionHeld3
namespace Go.Proofs.YthndkkjgjhgdnaaDoor
open Go.ChangeShapes Go.WideShapes Go.ChangeAt Go.RowKit
set_option linter.unusedVariables false
set_option linter.unusedSimpArgs false
set_option maxRecDepth 100000

theorem op_appRunV {w w' : World} {o : Oper} {a : Act} {Q : Exit → Act → World → Prop} {K : Act → World → Prop} (s x : Operand) (T1 T2 : TypeId) (hop : o.op = .call { callee := .builtin .append, args := #[s, x], argTypes := #[T1, T2] })
    (v u : Value) (hs : a.eval s = v) (hx : a.eval x = u) {v' : Value} (hr : (Builtin.append_ #[T1, T2] o.type #[v, u]).run Tryd.prog w = .ok v' w') (h : K (a.put o.dst v') w') : Oper.wp Tryd.prog o a w K Q := by
  unfold Oper.wp
  simp [execOp, hop, resolve, invoke, builtin, hs, hx, hr, Result.andThen]
  exact h
/-- An event that was drawn. -/
def fitV (e : Ev) : Prop := okInt e.kind ∧ okInt e.pl ∧ e.data.size = 0
/-- A reader that was drawn. -/
def fitR (r : Rr) : Prop := (0 ≤ r.epoch ∧ r.epoch ≤ 40) ∧ (0 ≤ r.off ∧ r.off ≤ 70) ∧ r.out.length ≤ 121 ∧ ∀ e ∈ r.out, fitV e
/-- A reader in its block b0 that is drawn. -/
structure RL (w : World) (bk b0 : Nat) (W : World) (ep off : Int) (es : List Ev) (ea : Option Addr) (ec : Nat) : Prop where
  box : BxZ W w.heap.size b0 [.int .i64 ep, .int .i64 off, .slice ea es.length ec]
  ok : ApV W (b0 + 1) (.slice ea es.length ec) es
  res : BxZ W w.heap.size w.heap.size [.int .i64 0, .int .i64 0, .slice none 0 0]
  cur : Cur W bk
  drawn : Drawn bk w W
  fit : ∀ e ∈ es, fitV e
/-- .. and is drawn. -/
structure RE (w : World) (bk b0 : Nat) (W : World) (ep off : Int) (v : Value) (es : List Ev) : Prop where
  box : BxZ W w.heap.size b0 [.int .i64 ep, .int .i64 off, v]
  own : OwnRw 3 Ev.cl W (b0 + 1) v es
  res : BxZ W w.heap.size w.heap.size [.int .i64 0, .int .i64 0, .slice none 0 0]
  cur : Cur W bk
  drawn : Drawn bk w W
section
variable {w W W' : World} {bk b0 : Nat} {ep off : Int} {es : List Ev} {ea : Option Addr} {ec : Nat}
theorem RL.lt (h : RL w bk b0 W ep off es ea ec) : b0 + 1 ≤ W.heap.size := h.box.lt
theorem RL.move (h : RL w bk b0 W ep off es ea ec) (hk : bk < w.heap.size) (h0 : w.heap.size < b0) (hc : Cur W' bk) (hd : Drawn bk W W') : RL w bk b0 W' ep off es ea ec :=
  ⟨h.box.drawn hd (by omega), ApR.kept elemEvent h.ok hd.row (.inr (touch_base elemEvent h.ok (by omega))), h.res.drawn hd (by omega), hc, h.drawn.trans hd, h.fit⟩
theorem RL.below (h : RL w bk b0 W ep off es ea ec) (hk : bk < w.heap.size) (h0 : w.heap.size < b0) (hB : Below W.heap.size W W') : RL w bk b0 W' ep off es ea ec := h.move hk h0 (h.cur.below hB) (Drawn.of_below hB)
theorem RL.re (h : RL w bk b0 W ep off es ea ec) : RE w bk b0 W ep off (.slice ea es.length ec) es := ⟨h.box, ApR.own elemEvent h.ok, h.res, h.cur, h.drawn⟩
theorem RL.set0 (h : RL w bk b0 W ep off es ea ec) (hk : bk < w.heap.size) (h0 : w.heap.size < b0) (x : Int) : RL w bk b0 (W.setCell ⟨b0, 0, none⟩ (.int .i64 x)) x off es ea ec :=
  ⟨h.box.put 0 (.int .i64 x), ApR.far elemEvent h.ok (by omega) _, h.res.far (by omega) _, h.cur.setNew (by omega) 0 _, h.drawn.setNew (by omega) 0 _, h.fit⟩
theorem RL.set1 (h : RL w bk b0 W ep off es ea ec) (hk : bk < w.heap.size) (h0 : w.heap.size < b0) (x : Int) : RL w bk b0 (W.setCell ⟨b0, 1, none⟩ (.int .i64 x)) ep x es ea ec :=
  ⟨h.box.put 1 (.int .i64 x), ApR.far elemEvent h.ok (by omega) _, h.res.far (by omega) _, h.cur.setNew (by omega) 1 _, h.drawn.setNew (by omega) 1 _, h.fit⟩
theorem RL.made (h : RL w bk b0 W ep off es ea ec) (hk : bk < w.heap.size) (h0 : w.heap.size < b0) {b : Nat} (hb : b0 + 1 ≤ b) (ms : List Ev) (hz : ∀ e ∈ ms, e = zeroEv) (hn : ms.length ≤ 1000) (hM : RwZ 3 Ev.cl W b 0 ms.length (fun _ => zeroEv)) : RE w bk b0 (W.setCell ⟨b0, 2, none⟩ (.slice (some ⟨b, 0, none⟩) ms.length ms.length)) ep off (.slice (some ⟨b, 0, none⟩) ms.length ms.length) ms := by
  have ho : OwnRw 3 Ev.cl W (b0 + 1) (.slice (some ⟨b, 0, none⟩) ms.length ms.length) ms := hM.own rfl (fun i hi => (hz _ (List.getElem_mem hi)).symm) hb (by omega) (by omega)
  exact ⟨h.box.put 2 (.slice (some ⟨b, 0, none⟩) ms.length ms.length), ho.farZ (by omega) _, h.res.far (by omega) _, h.cur.setNew (by omega) 2 _, h.drawn.setNew (by omega) 2 _⟩
/-- One event more: the append, and the world behind it. -/
theorem RL.push (h : RL w bk b0 W ep off es ea ec) (hk : bk < w.heap.size) (h0 : w.heap.size < b0) (hl : es.length ≤ 100000) (ty : TypeId) (sv : Value) (e : Ev) (he : fitV e) (hs : Rw 3 Ev.cl W sv [e]) :
    ∃ a' c' w7, (Builtin.append_ #[34, 34] ty #[.slice ea es.length ec, sv]).run Tryd.prog W = .ok (.slice a' (es.length + 1) c') w7 ∧ BxZ w7 w.heap.size b0 [.int .i64 ep, .int .i64 off, .slice ea es.length ec] ∧
      RL w bk b0 (w7.setCell ⟨b0, 2, none⟩ (.slice a' (es.length + 1) c')) ep off (es ++ [e]) a' c' := by
  obtain ⟨v', w7, hr, P7, g7, t7⟩ := run_apR elemEvent ty h.ok sv hs (by simp; omega) (by simp; omega) h.lt
  obtain ⟨a', c', rfl⟩ := ApR.slice elemEvent P7
  have hln : (es ++ [e]).length = es.length + 1 := by simp
  have hbx := h.lt
  rw [hln] at hr P7 t7
  have tb : ∀ j, touch (.slice ea es.length ec) = some j → b0 + 1 ≤ j := fun j hj => (h.ok.touched elemEvent hj).1
  have N7 := h.box.grown g7 (fun e => by have := tb _ e; omega)
  have R7 := h.res.grown g7 (fun e => by have := tb _ e; omega)
  have C7 := h.cur.grown g7 (fun k hk' => by have := tb k hk'; omega)
  have D7 := h.drawn.grown g7 (fun k hk' => by have := tb k hk'; omega)
  refine ⟨a', c', w7, hr, N7, ⟨?_, ?_, R7.far (by omega) _, C7.setNew (by omega) 2 _, D7.setNew (by omega) 2 _, ?_⟩⟩
  · rw [hln]
    exact N7.put 2 _
  · show ApR _ _ _ _ _ (.slice a' (es ++ [e]).length c') (es ++ [e])
    rw [hln]
    exact ApR.far elemEvent P7 (by omega) _
  · intro x hx
    rcases List.mem_append.1 hx with hx | hx
    · exact h.fit x hx
    · obtain rfl : x = e := by simpa using hx
      exact he
end
theorem fitV_zero : fitV zeroEv := ⟨⟨by decide, by decide⟩, ⟨by decide, by decide⟩, rfl⟩
set_option maxHeartbeats 16000000 in
theorem l10DrawReader_any (bk : Nat) (w : World) (hc : Cur w bk) :
    Calls Tryd.prog 33 #[.pointer (some ⟨bk, 0, none⟩)] w fun e w' => (∃ (r : Rr) (ea : Option Addr) (ec : Nat), e = .returned (.agg #[.int .i64 r.epoch, .int .i64 r.off, .slice ea r.out.length ec]) ∧ OwnRw 3 Ev.cl w' w.heap.size (.slice ea r.out.length ec) r.out ∧ fitR r) ∧ Cur w' bk ∧ Drawn bk w w' := by
  have ba : ∀ (w : World) o, Below w.heap.size w (w.alloc o) := fun w o => (Below.refl _ _).alloc (Nat.le_refl _) o
  have hk := hc.lt
  have Z0 := BxZ.new (B := w.heap.size) w [.int .i64 0, .int .i64 0, .slice none 0 0] 36 (Nat.le_refl _)
  have b0' := ba w (.cells #[.int .i64 0, .int .i64 0, .slice none 0 0] 36)
  have hc0 := hc.below b0'
  have D0 := Drawn.of_below (bk := bk) b0'
  have s0 : (w.alloc (.cells #[.int .i64 0, .int .i64 0, .slice none 0 0] 36)).heap.size = w.heap.size + 1 := by simp
  clear hc b0'
  go_enter Tryd.func33, Tryd.ntmps33
  go_wp2_with fail
  generalize w.alloc (.cells #[.int .i64 0, .int .i64 0, .slice none 0 0] 36) = w0 at *
  refine (l1Below_any bk 3 (by omega) (by omega) w0 hc0).mono ?_
  rintro e w1 ⟨⟨x1, hx1, rfl⟩, hc1, hd1⟩
  have Z1 := Z0.drawn hd1 (by omega)
  have D1 := D0.trans hd1
  have s1 := hd1.size
  clear Z0 D0 hc0 hd1
  go_wp2_with fail
  refine (l1Below_any bk 5 (by omega) (by omega) w1 hc1).mono ?_
  rintro e w2 ⟨⟨x2, hx2, rfl⟩, hc2, hd2⟩
  have Z2 := Z1.drawn hd2 (by omega)
  have D2 := D1.trans hd2
  have s2 := hd2.size
  have hb0 : w.heap.size < w2.heap.size := by omega
  have bn := ba w2 (.cells #[.int .i64 (1 + (x1 : Int)), .int .i64 (1 + (x2 : Int)), .slice none 0 0] 36)
  have L3 : RL w bk w2.heap.size (w2.alloc (.cells #[.int .i64 (1 + (x1 : Int)), .int .i64 (1 + (x2 : Int)), .slice none 0 0] 36)) (1 + (x1 : Int)) (1 + (x2 : Int)) [] none 0 :=
    ⟨BxZ.new (B := w.heap.size) w2 _ 36 (by omega), .inl ⟨rfl, none, rfl⟩, Z2.below bn, hc2.below bn, D2.trans (Drawn.of_below bn), fun e he => by cases he⟩
  clear Z1 D1 hc1 hd2 Z2 D2 hc2 bn s0 s1 s2
  go_wp2
  generalize w2.alloc (.cells #[.int .i64 (1 + (x1 : Int)), .int .i64 (1 + (x2 : Int)), .slice none 0 0] 36) = w3 at *
  generalize w2.heap.size = b0 at *
  have h0 := hb0
  clear hb0
  generalize hE1 : (1 + (x1 : Int)) = ep at *
  generalize hE2 : (1 + (x2 : Int)) = off at *
  have hep : 0 ≤ ep ∧ ep ≤ 40 := by omega
  have hoff : 0 ≤ off ∧ off ≤ 70 := by omega
  clear hE1 hE2 hx1 hx2
  have HL3 := dHide L3
  clear L3
  go_loopw [4] (fun x wr => ∃ (k : Nat) (es : List Ev) (ea : Option Addr) (ec : Nat), x = .int .i64 (k : Int) ∧ k ≤ 3 ∧ es.length = k ∧ Hid (RL w bk b0 wr ep off es ea ec)) (fun x _ => 4 - (intOf x).toNat)
  case atStart => exact ⟨0, [], none, 0, rfl, by omega, rfl, HL3⟩
  case round =>
    clear HL3
    obtain ⟨k, es, ea, ec, rfl, hk3, hel, HD⟩ := hrel
    have HEL : Hid (es.length = k) := hel
    have hel2 : es.length ≤ 100000 := by omega
    have hel3 : es.length ≤ 3 := by omega
    clear hel
    have CB := dHide (l1Below_any bk 4 (by omega) (by omega) wr (dUnhide HD).cur)
    go_wp2_with fail
    refine (dUnhide CB).mono ?_
    rintro e w6 ⟨⟨x, hx, rfl⟩, hc6, hd6⟩
    have HD6 := dHide ((dUnhide HD).move hk h0 hc6 hd6)
    clear CB HD hc6 hd6
    by_cases hlt : (k : Int) < (x : Int)
    · have Ec := (dUnhide HD6).below hk h0 (Below.refl _ _).drew
      have k1d := (Ec.box.2 2 _ rfl).1
      have kk1 := ((dUnhide HD6).box.2 2 _ rfl).1
      go_wp2_with fail
      refine wp_region_noPanic ?_
      refine wp_region_held_drew (S := fun _ => True) (by kernel_rfl) (by trivial) (fun hHeld => ?_)
      generalize w6.drew = wd at *
      refine wpAnyH_take (i := 0) (oi := { dst := some 18, op := Op.fieldAddr 36 (Operand.tmp 3) 2, type := 0, pos := "l10_reader.go:84", after := #[], guard := none }) (v := ?_) rfl (by kernel_rfl) (by kernel_rfl) (by kernel_rfl) (fun _ _ _ h => h) (Or.inl ⟨by rfl, ?_⟩) (by assumption) ?_
      rotate_left 1
      · intro w hSw
        (try dsimp only at hSw)
        first | (go_simp; done) | (go_simp; with_reducible rfl)
      try simp only [Act.put, List.setIfInBounds_toArray, List.set_cons_zero, List.set_cons_succ]
      refine wpAnyH_take (i := 2) (oi := { dst := some 20, op := Op.move (Operand.tmp 0), type := 43, pos := "l10_reader.go:84", after := #[], guard := none }) (v := ?_) rfl (by kernel_rfl) (by kernel_rfl) (by kernel_rfl) (fun _ _ _ h => h) (Or.inl ⟨by rfl, ?_⟩) (by assumption) ?_
      rotate_left 1
      · intro w hSw
        (try dsimp only at hSw)
        first | (go_simp; done) | (go_simp; with_reducible rfl)
      try simp only [Act.put, List.setIfInBounds_toArray, List.set_cons_zero, List.set_cons_succ]
      refine wpAnyH_take (i := 5) (oi := { dst := some 23, op := Op.move (Operand.tmp 0), type := 43, pos := "l10_reader.go:84", after := #[], guard := none }) (v := ?_) rfl (by kernel_rfl) (by kernel_rfl) (by kernel_rfl) (fun _ _ _ h => h) (Or.inl ⟨by rfl, ?_⟩) (by assumption) ?_
      rotate_left 1
      · intro w hSw
        (try dsimp only at hSw)
        first | (go_simp; done) | (go_simp; with_reducible rfl)
      try simp only [Act.put, List.setIfInBounds_toArray, List.set_cons_zero, List.set_cons_succ]
      refine wpAnyH_ready (rs := [1, 3]) (by kernel_rfl) (by simp) ?_
      refine AllReadyH.cons (o := { dst := some 19, op := Op.load 34 (Operand.tmp 18), type := 34, pos := "l10_reader.go:84", after := #[{ on := 0, ground := Ground.data }], guard := none }) rfl (fun K hK => ?_) (AllReadyH.cons (o := { dst := some 21, op := Op.call { callee := Callee.value (Operand.func 40), args := #[Operand.tmp 20, Operand.const (Value.int IntKind.i64 5)], argTypes := #[43, 3] }, type := 3, pos := "l10_reader.go:84", after := #[{ on := 2, ground := Ground.data }], guard := none }) rfl (fun K hK => ?_) AllReadyH.nil)
      · go_simp
        refine hK.out _ _ (by trivial) (fun hHeld => ?_)
        clear hK K
        try simp only [Act.put, List.setIfInBounds_toArray, List.set_cons_zero, List.set_cons_succ]
        refine wpAnyH_ready (rs := [3]) (by kernel_rfl) (by simp) ?_
        refine AllReadyH.cons (o := { dst := some 21, op := Op.call { callee := Callee.value (Operand.func 40), args := #[Operand.tmp 20, Operand.const (Value.int IntKind.i64 5)], argTypes := #[43, 3] }, type := 3, pos := "l10_reader.go:84", after := #[{ on := 2, ground := Ground.data }], guard := none }) rfl (fun K hK => ?_) AllReadyH.nil
        go_simp
        refine (l1Below_any bk 5 (by omega) (by omega) wd Ec.cur).mono ?_
        rintro e wd ⟨⟨y, hy, rfl⟩, hc5, hd5⟩
        replace Ec := Ec.move hk h0 hc5 hd5
        replace k1d := (Ec.box.2 2 _ rfl).1
        have hwy : IntKind.i64.wrap (1 + (y : Int)) = 1 + (y : Int) := by rw [IntKind.wrap_i64]; omega
        clear hc5 hd5
        (try go_wp2_with fail)
        refine hK.out _ _ (by trivial) (fun hHeld => ?_)
        clear hK K
        try simp only [Act.put, List.setIfInBounds_toArray, List.set_cons_zero, List.set_cons_succ]
        refine wpAnyH_take (i := 4) (oi := { dst := some 22, op := Op.binOp BinOp.add 3 (Operand.const (Value.int IntKind.i64 1)) (Operand.tmp 21) 3, type := 3, pos := "l10_reader.go:84", after := #[{ on := 3, ground := Ground.data }], guard := none }) (v := ?_) rfl (by kernel_rfl) (by kernel_rfl) (by kernel_rfl) (fun _ _ _ h => h) (Or.inl ⟨by rfl, ?_⟩) (by assumption) ?_
        rotate_left 1
        · intro w hSw
          (try dsimp only at hSw)
          first | (go_simp; done) | (go_simp; with_reducible rfl)
        try simp only [Act.put, List.setIfInBounds_toArray, List.set_cons_zero, List.set_cons_succ]
        refine wpAnyH_ready (rs := [6]) (by kernel_rfl) (by simp) ?_
        refine AllReadyH.cons (o := { dst := some 24, op := Op.call { callee := Callee.value (Operand.func 52), args := #[Operand.tmp 23], argTypes := #[43] }, type := 3, pos := "l10_reader.go:84", after := #[{ on := 5, ground := Ground.data }, { on := 3, ground := Ground.chain }], guard := none }) rfl (fun K hK => ?_) AllReadyH.nil
        go_simp
        refine (l1DrawPlace_any bk wd Ec.cur).mono ?_
        rintro e wd ⟨⟨pl, hpl, rfl⟩, hc6, hd6⟩
        replace Ec := Ec.move hk h0 hc6 hd6
        replace k1d := (Ec.box.2 2 _ rfl).1
        clear hc6 hd6
        (try go_wp2_with fail)
        refine hK.out _ _ (by trivial) (fun hHeld => ?_)
        clear hK K
        try simp only [Act.put, List.setIfInBounds_toArray, List.set_cons_zero, List.set_cons_succ]
        refine wpAnyH_take (i := 7) (oi := { dst := some 25, op := Op.build 68 #[(0, Operand.tmp 22), (1, Operand.tmp 24)], type := 68, pos := "l10_reader.go:84", after := #[{ on := 4, ground := Ground.data }, { on := 6, ground := Ground.data }], guard := none }) (v := ?_) rfl (by kernel_rfl) (by kernel_rfl) (by kernel_rfl) (fun _ _ _ h => h) (Or.inl ⟨by rfl, ?_⟩) (by assumption) ?_
        rotate_left 1
        · intro w hSw
          (try dsimp only at hSw)
          first | (go_simp; done) | (go_simp; with_reducible rfl)
        try simp only [Act.put, List.setIfInBounds_toArray, List.set_cons_zero, List.set_cons_succ]
        refine wpAnyH_ready (rs := [8]) (by kernel_rfl) (by simp) ?_
        refine AllReadyH.cons (o := { dst := some 26, op := Op.buildSlice 34 1 #[(0, Operand.tmp 25)], type := 34, pos := "l10_reader.go:84", after := #[{ on := 7, ground := Ground.data }], guard := none }) rfl (fun K hK => ?_) AllReadyH.nil
        go_simp
        have hR := rwV_one wd ⟨1 + (y : Int), pl, ⟨#[]⟩⟩ 68 1 (by omega)
        have bE := ba wd (.cells #[.int .i64 (1 + (y : Int)), .int .i64 pl, .string ⟨#[]⟩] 68)
        replace Ec := Ec.below hk h0 bE
        replace k1d := (Ec.box.2 2 _ rfl).1
        obtain ⟨a7, c7, w7, hrun, N7, E7⟩ := Ec.push hk h0 hel2 34 _ ⟨1 + (y : Int), pl, ⟨#[]⟩⟩ ⟨⟨by simp only; omega, by simp only; omega⟩, ⟨hpl.1, hpl.2⟩, rfl⟩ hR
        obtain ⟨n1, g1⟩ := N7.2 2 _ rfl
        clear hR bE N7 Ec
        generalize wd.heap.size = b9 at *
        generalize wd.alloc (.cells #[.int .i64 (1 + (y : Int)), .int .i64 pl, .string ⟨#[]⟩] 68) = wd at *
        refine hK.out _ _ (by trivial) (fun hHeld => ?_)
        clear hK K
        try simp only [Act.put, List.setIfInBounds_toArray, List.set_cons_zero, List.set_cons_succ]
        refine wpAnyH_ready (rs := [9]) (by kernel_rfl) (by simp) ?_
        refine AllReadyH.cons (o := { dst := some 27, op := Op.call { callee := Callee.builtin Builtin.append, args := #[Operand.tmp 19, Operand.tmp 26], argTypes := #[34, 34] }, type := 34, pos := "l10_reader.go:84", after := #[{ on := 1, ground := Ground.data }, { on := 8, ground := Ground.data }, { on := 6, ground := Ground.chain }], guard := none }) rfl (fun K hK => ?_) AllReadyH.nil
        refine op_appRunV _ _ 34 34 rfl _ _ rfl rfl hrun ?_
        clear hrun k1d
        refine hK.out _ _ (by trivial) (fun hHeld => ?_)
        clear hK K
        try simp only [Act.put, List.setIfInBounds_toArray, List.set_cons_zero, List.set_cons_succ]
        refine wpAnyH_take (i := 10) (oi := { dst := some 28, op := Op.fieldAddr 36 (Operand.tmp 3) 2, type := 0, pos := "l10_reader.go:84", after := #[{ on := 0, ground := Ground.phase }, { on := 1, ground := Ground.phase }, { on := 2, ground := Ground.phase }, { on := 3, ground := Ground.phase }, { on := 4, ground := Ground.phase }, { on := 5, ground := Ground.phase }, { on := 6, ground := Ground.phase }, { on := 7, ground := Ground.phase }, { on := 8, ground := Ground.phase }, { on := 9, ground := Ground.phase }], guard := none }) (v := ?_) rfl (by kernel_rfl) (by kernel_rfl) (by kernel_rfl) (fun _ _ _ h => h) (Or.inl ⟨by rfl, ?_⟩) (by assumption) ?_
        rotate_left 1
        · intro w hSw
          (try dsimp only at hSw)
          first | (go_simp; done) | (go_simp; with_reducible rfl)
        try simp only [Act.put, List.setIfInBounds_toArray, List.set_cons_zero, List.set_cons_succ]
        refine wpAnyH_ready (rs := [11]) (by kernel_rfl) (by simp) ?_
        refine AllReadyH.cons (o := { dst := none, op := Op.store 34 (Operand.tmp 28) (Operand.tmp 27), type := 0, pos := "l10_reader.go:84", after := #[{ on := 10, ground := Ground.data }, { on := 9, ground := Ground.data }, { on := 9, ground := Ground.chain }, { on := 0, ground := Ground.phase }, { on := 1, ground := Ground.phase }, { on := 2, ground := Ground.phase }, { on := 3, ground := Ground.phase }, { on := 4, ground := Ground.phase }, { on := 5, ground := Ground.phase }, { on := 6, ground := Ground.phase }, { on := 7, ground := Ground.phase }, { on := 8, ground := Ground.phase }, { on := 9, ground := Ground.phase }], guard := none }) rfl (fun K hK => ?_) AllReadyH.nil
        go_simp
        refine hK.out _ _ (by trivial) (fun hHeld => ?_)
        clear hK K
        try simp only [Act.put, List.setIfInBounds_toArray, List.set_cons_zero, List.set_cons_succ]
        refine wpAnyH_done (by kernel_rfl) ?_ _
        refine NoPanic.normal ?_
        have HE7 := dHide E7
        have hl7 : Hid ((es ++ [(⟨1 + (y : Int), pl, ⟨#[]⟩⟩ : Ev)]).length = k + 1) := by rw [Hid, List.length_append, dUnhide HEL]; rfl
        generalize es ++ [(⟨1 + (y : Int), pl, ⟨#[]⟩⟩ : Ev)] = ES at *
        clear E7 n1 g1
        go_wp2_with fail
        go_roundw
        case rel => exact ⟨k + 1, ES, a7, c7, by go_num, by omega, dUnhide hl7, HE7⟩
        case measure => simp [intOf]; omega
      · go_simp
        refine (l1Below_any bk 5 (by omega) (by omega) wd Ec.cur).mono ?_
        rintro e wd ⟨⟨y, hy, rfl⟩, hc5, hd5⟩
        replace Ec := Ec.move hk h0 hc5 hd5
        replace k1d := (Ec.box.2 2 _ rfl).1
        have hwy : IntKind.i64.wrap (1 + (y : Int)) = 1 + (y : Int) := by rw [IntKind.wrap_i64]; omega
        clear hc5 hd5
        (try go_wp2_with fail)
        refine hK.out _ _ (by trivial) (fun hHeld => ?_)
        clear hK K
        try simp only [Act.put, List.setIfInBounds_toArray, List.set_cons_zero, List.set_cons_succ]
        refine wpAnyH_take (i := 4) (oi := { dst := some 22, op := Op.binOp BinOp.add 3 (Operand.const (Value.int IntKind.i64 1)) (Operand.tmp 21) 3, type := 3, pos := "l10_reader.go:84", after := #[{ on := 3, ground := Ground.data }], guard := none }) (v := ?_) rfl (by kernel_rfl) (by kernel_rfl) (by kernel_rfl) (fun _ _ _ h => h) (Or.inl ⟨by rfl, ?_⟩) (by assumption) ?_
        rotate_left 1
        · intro w hSw
          (try dsimp only at hSw)
          first | (go_simp; done) | (go_simp; with_reducible rfl)
        try simp only [Act.put, List.setIfInBounds_toArray, List.set_cons_zero, List.set_cons_succ]
        refine wpAnyH_ready (rs := [1, 6]) (by kernel_rfl) (by simp) ?_
        refine AllReadyH.cons (o := { dst := some 19, op := Op.load 34 (Operand.tmp 18), type := 34, pos := "l10_reader.go:84", after := #[{ on := 0, ground := Ground.data }], guard := none }) rfl (fun K hK => ?_) (AllReadyH.cons (o := { dst := some 24, op := Op.call { callee := Callee.value (Operand.func 52), args := #[Operand.tmp 23], argTypes := #[43] }, type := 3, pos := "l10_reader.go:84", after := #[{ on := 5, ground := Ground.data }, { on := 3, ground := Ground.chain }], guard := none }) rfl (fun K hK => ?_) AllReadyH.nil)
        · go_simp
          refine hK.out _ _ (by trivial) (fun hHeld => ?_)
          clear hK K
          try simp only [Act.put, List.setIfInBounds_toArray, List.set_cons_zero, List.set_cons_succ]
          refine wpAnyH_ready (rs := [6]) (by kernel_rfl) (by simp) ?_
          refine AllReadyH.cons (o := { dst := some 24, op := Op.call { callee := Callee.value (Operand.func 52), args := #[Operand.tmp 23], argTypes := #[43] }, type := 3, pos := "l10_reader.go:84", after := #[{ on := 5, ground := Ground.data }, { on := 3, ground := Ground.chain }], guard := none }) rfl (fun K hK => ?_) AllReadyH.nil
          go_simp
          refine (l1DrawPlace_any bk wd Ec.cur).mono ?_
          rintro e wd ⟨⟨pl, hpl, rfl⟩, hc6, hd6⟩
          replace Ec := Ec.move hk h0 hc6 hd6
          replace k1d := (Ec.box.2 2 _ rfl).1
          clear hc6 hd6
          (try go_wp2_with fail)
          refine hK.out _ _ (by trivial) (fun hHeld => ?_)
          clear hK K
          try simp only [Act.put, List.setIfInBounds_toArray, List.set_cons_zero, List.set_cons_succ]
          refine wpAnyH_take (i := 7) (oi := { dst := some 25, op := Op.build 68 #[(0, Operand.tmp 22), (1, Operand.tmp 24)], type := 68, pos := "l10_reader.go:84", after := #[{ on := 4, ground := Ground.data }, { on := 6, ground := Ground.data }], guard := none }) (v := ?_) rfl (by kernel_rfl) (by kernel_rfl) (by kernel_rfl) (fun _ _ _ h => h) (Or.inl ⟨by rfl, ?_⟩) (by assumption) ?_
          rotate_left 1
          · intro w hSw
            (try dsimp only at hSw)
            first | (go_simp; done) | (go_simp; with_reducible rfl)
          try simp only [Act.put, List.setIfInBounds_toArray, List.set_cons_zero, List.set_cons_succ]
          refine wpAnyH_ready (rs := [8]) (by kernel_rfl) (by simp) ?_
          refine AllReadyH.cons (o := { dst := some 26, op := Op.buildSlice 34 1 #[(0, Operand.tmp 25)], type := 34, pos := "l10_reader.go:84", after := #[{ on := 7, ground := Ground.data }], guard := none }) rfl (fun K hK => ?_) AllReadyH.nil
          go_simp
          have hR := rwV_one wd ⟨1 + (y : Int), pl, ⟨#[]⟩⟩ 68 1 (by omega)
          have bE := ba wd (.cells #[.int .i64 (1 + (y : Int)), .int .i64 pl, .string ⟨#[]⟩] 68)
          replace Ec := Ec.below hk h0 bE
          replace k1d := (Ec.box.2 2 _ rfl).1
          obtain ⟨a7, c7, w7, hrun, N7, E7⟩ := Ec.push hk h0 hel2 34 _ ⟨1 + (y : Int), pl, ⟨#[]⟩⟩ ⟨⟨by simp only; omega, by simp only; omega⟩, ⟨hpl.1, hpl.2⟩, rfl⟩ hR
          obtain ⟨n1, g1⟩ := N7.2 2 _ rfl
          clear hR bE N7 Ec
          generalize wd.heap.size = b9 at *
          generalize wd.alloc (.cells #[.int .i64 (1 + (y : Int)), .int .i64 pl, .string ⟨#[]⟩] 68) = wd at *
          refine hK.out _ _ (by trivial) (fun hHeld => ?_)
          clear hK K
          try simp only [Act.put, List.setIfInBounds_toArray, List.set_cons_zero, List.set_cons_succ]
          refine wpAnyH_ready (rs := [9]) (by kernel_rfl) (by simp) ?_
          refine AllReadyH.cons (o := { dst := some 27, op := Op.call { callee := Callee.builtin Builtin.append, args := #[Operand.tmp 19, Operand.tmp 26], argTypes := #[34, 34] }, type := 34, pos := "l10_reader.go:84", after := #[{ on := 1, ground := Ground.data }, { on := 8, ground := Ground.data }, { on := 6, ground := Ground.chain }], guard := none }) rfl (fun K hK => ?_) AllReadyH.nil
          refine op_appRunV _ _ 34 34 rfl _ _ rfl rfl hrun ?_
          clear hrun k1d
          refine hK.out _ _ (by trivial) (fun hHeld => ?_)
          clear hK K
          try simp only [Act.put, List.setIfInBounds_toArray, List.set_cons_zero, List.set_cons_succ]
          refine wpAnyH_take (i := 10) (oi := { dst := some 28, op := Op.fieldAddr 36 (Operand.tmp 3) 2, type := 0, pos := "l10_reader.go:84", after := #[{ on := 0, ground := Ground.phase }, { on := 1, ground := Ground.phase }, { on := 2, ground := Ground.phase }, { on := 3, ground := Ground.phase }, { on := 4, ground := Ground.phase }, { on := 5, ground := Ground.phase }, { on := 6, ground := Ground.phase }, { on := 7, ground := Ground.phase }, { on := 8, ground := Ground.phase }, { on := 9, ground := Ground.phase }], guard := none }) (v := ?_) rfl (by kernel_rfl) (by kernel_rfl) (by kernel_rfl) (fun _ _ _ h => h) (Or.inl ⟨by rfl, ?_⟩) (by assumption) ?_
          rotate_left 1
          · intro w hSw
            (try dsimp only at hSw)
            first | (go_simp; done) | (go_simp; with_reducible rfl)
          try simp only [Act.put, List.setIfInBounds_toArray, List.set_cons_zero, List.set_cons_succ]
          refine wpAnyH_ready (rs := [11]) (by kernel_rfl) (by simp) ?_
          refine AllReadyH.cons (o := { dst := none, op := Op.store 34 (Operand.tmp 28) (Operand.tmp 27), type := 0, pos := "l10_reader.go:84", after := #[{ on := 10, ground := Ground.data }, { on := 9, ground := Ground.data }, { on := 9, ground := Ground.chain }, { on := 0, ground := Ground.phase }, { on := 1, ground := Ground.phase }, { on := 2, ground := Ground.phase }, { on := 3, ground := Ground.phase }, { on := 4, ground := Ground.phase }, { on := 5, ground := Ground.phase }, { on := 6, ground := Ground.phase }, { on := 7, ground := Ground.phase }, { on := 8, ground := Ground.phase }, { on := 9, ground := Ground.phase }], guard := none }) rfl (fun K hK => ?_) AllReadyH.nil
          go_simp
          refine hK.out _ _ (by trivial) (fun hHeld => ?_)
          clear hK K
          try simp only [Act.put, List.setIfInBounds_toArray, List.set_cons_zero, List.set_cons_succ]
          refine wpAnyH_done (by kernel_rfl) ?_ _
          refine NoPanic.normal ?_
          have HE7 := dHide E7
          have hl7 : Hid ((es ++ [(⟨1 + (y : Int), pl, ⟨#[]⟩⟩ : Ev)]).length = k + 1) := by rw [Hid, List.length_append, dUnhide HEL]; rfl
          generalize es ++ [(⟨1 + (y : Int), pl, ⟨#[]⟩⟩ : Ev)] = ES at *
          clear E7 n1 g1
          go_wp2_with fail
          go_roundw
          case rel => exact ⟨k + 1, ES, a7, c7, by go_num, by omega, dUnhide hl7, HE7⟩
          case measure => simp [intOf]; omega
        · go_simp
          refine (l1DrawPlace_any bk wd Ec.cur).mono ?_
          rintro e wd ⟨⟨pl, hpl, rfl⟩, hc6, hd6⟩
          replace Ec := Ec.move hk h0 hc6 hd6
          replace k1d := (Ec.box.2 2 _ rfl).1
          clear hc6 hd6
          (try go_wp2_with fail)
          refine hK.out _ _ (by trivial) (fun hHeld => ?_)
          clear hK K
          try simp only [Act.put, List.setIfInBounds_toArray, List.set_cons_zero, List.set_cons_succ]
          refine wpAnyH_take (i := 7) (oi := { dst := some 25, op := Op.build 68 #[(0, Operand.tmp 22), (1, Operand.tmp 24)], type := 68, pos := "l10_reader.go:84", after := #[{ on := 4, ground := Ground.data }, { on := 6, ground := Ground.data }], guard := none }) (v := ?_) rfl (by kernel_rfl) (by kernel_rfl) (by kernel_rfl) (fun _ _ _ h => h) (Or.inl ⟨by rfl, ?_⟩) (by assumption) ?_
          rotate_left 1
          · intro w hSw
            (try dsimp only at hSw)
            first | (go_simp; done) | (go_simp; with_reducible rfl)
          try simp only [Act.put, List.setIfInBounds_toArray, List.set_cons_zero, List.set_cons_succ]
          refine wpAnyH_ready (rs := [1, 8]) (by kernel_rfl) (by simp) ?_
          refine AllReadyH.cons (o := { dst := some 19, op := Op.load 34 (Operand.tmp 18), type := 34, pos := "l10_reader.go:84", after := #[{ on := 0, ground := Ground.data }], guard := none }) rfl (fun K hK => ?_) (AllReadyH.cons (o := { dst := some 26, op := Op.buildSlice 34 1 #[(0, Operand.tmp 25)], type := 34, pos := "l10_reader.go:84", after := #[{ on := 7, ground := Ground.data }], guard := none }) rfl (fun K hK => ?_) AllReadyH.nil)
          · go_simp
            refine hK.out _ _ (by trivial) (fun hHeld => ?_)
            clear hK K
            try simp only [Act.put, List.setIfInBounds_toArray, List.set_cons_zero, List.set_cons_succ]
            refine wpAnyH_ready (rs := [8]) (by kernel_rfl) (by simp) ?_
            refine AllReadyH.cons (o := { dst := some 26, op := Op.buildSlice 34 1 #[(0, Operand.tmp 25)], type := 34, pos := "l10_reader.go:84", after := #[{ on := 7, ground := Ground.data }], guard := none }) rfl (fun K hK => ?_) AllReadyH.nil
            go_simp
            have hR := rwV_one wd ⟨1 + (y : Int), pl, ⟨#[]⟩⟩ 68 1 (by omega)
            have bE := ba wd (.cells #[.int .i64 (1 + (y : Int)), .int .i64 pl, .string ⟨#[]⟩] 68)
            replace Ec := Ec.below hk h0 bE
            replace k1d := (Ec.box.2 2 _ rfl).1
            obtain ⟨a7, c7, w7, hrun, N7, E7⟩ := Ec.push hk h0 hel2 34 _ ⟨1 + (y : Int), pl, ⟨#[]⟩⟩ ⟨⟨by simp only; omega, by simp only; omega⟩, ⟨hpl.1, hpl.2⟩, rfl⟩ hR
            obtain ⟨n1, g1⟩ := N7.2 2 _ rfl
            clear hR bE N7 Ec
            generalize wd.heap.size = b9 at *
            generalize wd.alloc (.cells #[.int .i64 (1 + (y : Int)), .int .i64 pl, .string ⟨#[]⟩] 68) = wd at *
            refine hK.out _ _ (by trivial) (fun hHeld => ?_)
            clear hK K
            try simp only [Act.put, List.setIfInBounds_toArray, List.set_cons_zero, List.set_cons_succ]
            refine wpAnyH_ready (rs := [9]) (by kernel_rfl) (by simp) ?_
            refine AllReadyH.cons (o := { dst := some 27, op := Op.call { callee := Callee.builtin Builtin.append, args := #[Operand.tmp 19, Operand.tmp 26], argTypes := #[34, 34] }, type := 34, pos := "l10_reader.go:84", after := #[{ on := 1, ground := Ground.data }, { on := 8, ground := Ground.data }, { on := 6, ground := Ground.chain }], guard := none }) rfl (fun K hK => ?_) AllReadyH.nil
            refine op_appRunV _ _ 34 34 rfl _ _ rfl rfl hrun ?_
            clear hrun k1d
            refine hK.out _ _ (by trivial) (fun hHeld => ?_)
            clear hK K
            try simp only [Act.put, List.setIfInBounds_toArray, List.set_cons_zero, List.set_cons_succ]
            refine wpAnyH_take (i := 10) (oi := { dst := some 28, op := Op.fieldAddr 36 (Operand.tmp 3) 2, type := 0, pos := "l10_reader.go:84", after := #[{ on := 0, ground := Ground.phase }, { on := 1, ground := Ground.phase }, { on := 2, ground := Ground.phase }, { on := 3, ground := Ground.phase }, { on := 4, ground := Ground.phase }, { on := 5, ground := Ground.phase }, { on := 6, ground := Ground.phase }, { on := 7, ground := Ground.phase }, { on := 8, ground := Ground.phase }, { on := 9, ground := Ground.phase }], guard := none }) (v := ?_) rfl (by kernel_rfl) (by kernel_rfl) (by kernel_rfl) (fun _ _ _ h => h) (Or.inl ⟨by rfl, ?_⟩) (by assumption) ?_
            rotate_left 1
            · intro w hSw
              (try dsimp only at hSw)
              first | (go_simp; done) | (go_simp; with_reducible rfl)
            try simp only [Act.put, List.setIfInBounds_toArray, List.set_cons_zero, List.set_cons_succ]
            refine wpAnyH_ready (rs := [11]) (by kernel_rfl) (by simp) ?_
            refine AllReadyH.cons (o := { dst := none, op := Op.store 34 (Operand.tmp 28) (Operand.tmp 27), type := 0, pos := "l10_reader.go:84", after := #[{ on := 10, ground := Ground.data }, { on := 9, ground := Ground.data }, { on := 9, ground := Ground.chain }, { on := 0, ground := Ground.phase }, { on := 1, ground := Ground.phase }, { on := 2, ground := Ground.phase }, { on := 3, ground := Ground.phase }, { on := 4, ground := Ground.phase }, { on := 5, ground := Ground.phase }, { on := 6, ground := Ground.phase }, { on := 7, ground := Ground.phase }, { on := 8, ground := Ground.phase }, { on := 9, ground := Ground.phase }], guard := none }) rfl (fun K hK => ?_) AllReadyH.nil
            go_simp
            refine hK.out _ _ (by trivial) (fun hHeld => ?_)
            clear hK K
            try simp only [Act.put, List.setIfInBounds_toArray, List.set_cons_zero, List.set_cons_succ]
            refine wpAnyH_done (by kernel_rfl) ?_ _
            refine NoPanic.normal ?_
            have HE7 := dHide E7
            have hl7 : Hid ((es ++ [(⟨1 + (y : Int), pl, ⟨#[]⟩⟩ : Ev)]).length = k + 1) := by rw [Hid, List.length_append, dUnhide HEL]; rfl
            generalize es ++ [(⟨1 + (y : Int), pl, ⟨#[]⟩⟩ : Ev)] = ES at *
            clear E7 n1 g1
            go_wp2_with fail
            go_roundw
            case rel => exact ⟨k + 1, ES, a7, c7, by go_num, by omega, dUnhide hl7, HE7⟩
            case measure => simp [intOf]; omega
          · go_simp
            have hR := rwV_one wd ⟨1 + (y : Int), pl, ⟨#[]⟩⟩ 68 1 (by omega)
            have bE := ba wd (.cells #[.int .i64 (1 + (y : Int)), .int .i64 pl, .string ⟨#[]⟩] 68)
            replace Ec := Ec.below hk h0 bE
            replace k1d := (Ec.box.2 2 _ rfl).1
            obtain ⟨a7, c7, w7, hrun, N7, E7⟩ := Ec.push hk h0 hel2 34 _ ⟨1 + (y : Int), pl, ⟨#[]⟩⟩ ⟨⟨by simp only; omega, by simp only; omega⟩, ⟨hpl.1, hpl.2⟩, rfl⟩ hR
            obtain ⟨n1, g1⟩ := N7.2 2 _ rfl
            clear hR bE N7 Ec
            generalize wd.heap.size = b9 at *
            generalize wd.alloc (.cells #[.int .i64 (1 + (y : Int)), .int .i64 pl, .string ⟨#[]⟩] 68) = wd at *
            refine hK.out _ _ (by trivial) (fun hHeld => ?_)
            clear hK K
            try simp only [Act.put, List.setIfInBounds_toArray, List.set_cons_zero, List.set_cons_succ]
            refine wpAnyH_ready (rs := [1]) (by kernel_rfl) (by simp) ?_
            refine AllReadyH.cons (o := { dst := some 19, op := Op.load 34 (Operand.tmp 18), type := 34, pos := "l10_reader.go:84", after := #[{ on := 0, ground := Ground.data }], guard := none }) rfl (fun K hK => ?_) AllReadyH.nil
            go_simp
            refine hK.out _ _ (by trivial) (fun hHeld => ?_)
            clear hK K
            try simp only [Act.put, List.setIfInBounds_toArray, List.set_cons_zero, List.set_cons_succ]
            refine wpAnyH_ready (rs := [9]) (by kernel_rfl) (by simp) ?_
            refine AllReadyH.cons (o := { dst := some 27, op := Op.call { callee := Callee.builtin Builtin.append, args := #[Operand.tmp 19, Operand.tmp 26], argTypes := #[34, 34] }, type := 34, pos := "l10_reader.go:84", after := #[{ on := 1, ground := Ground.data }, { on := 8, ground := Ground.data }, { on := 6, ground := Ground.chain }], guard := none }) rfl (fun K hK => ?_) AllReadyH.nil
            refine op_appRunV _ _ 34 34 rfl _ _ rfl rfl hrun ?_
            clear hrun k1d
            refine hK.out _ _ (by trivial) (fun hHeld => ?_)
            clear hK K
            try simp only [Act.put, List.setIfInBounds_toArray, List.set_cons_zero, List.set_cons_succ]
            refine wpAnyH_take (i := 10) (oi := { dst := some 28, op := Op.fieldAddr 36 (Operand.tmp 3) 2, type := 0, pos := "l10_reader.go:84", after := #[{ on := 0, ground := Ground.phase }, { on := 1, ground := Ground.phase }, { on := 2, ground := Ground.phase }, { on := 3, ground := Ground.phase }, { on := 4, ground := Ground.phase }, { on := 5, ground := Ground.phase }, { on := 6, ground := Ground.phase }, { on := 7, ground := Ground.phase }, { on := 8, ground := Ground.phase }, { on := 9, ground := Ground.phase }], guard := none }) (v := ?_) rfl (by kernel_rfl) (by kernel_rfl) (by kernel_rfl) (fun _ _ _ h => h) (Or.inl ⟨by rfl, ?_⟩) (by assumption) ?_
            rotate_left 1
            · intro w hSw
              (try dsimp only at hSw)
              first | (go_simp; done) | (go_simp; with_reducible rfl)
            try simp only [Act.put, List.setIfInBounds_toArray, List.set_cons_zero, List.set_cons_succ]
            refine wpAnyH_ready (rs := [11]) (by kernel_rfl) (by simp) ?_
            refine AllReadyH.cons (o := { dst := none, op := Op.store 34 (Operand.tmp 28) (Operand.tmp 27), type := 0, pos := "l10_reader.go:84", after := #[{ on := 10, ground := Ground.data }, { on := 9, ground := Ground.data }, { on := 9, ground := Ground.chain }, { on := 0, ground := Ground.phase }, { on := 1, ground := Ground.phase }, { on := 2, ground := Ground.phase }, { on := 3, ground := Ground.phase }, { on := 4, ground := Ground.phase }, { on := 5, ground := Ground.phase }, { on := 6, ground := Ground.phase }, { on := 7, ground := Ground.phase }, { on := 8, ground := Ground.phase }, { on := 9, ground := Ground.phase }], guard := none }) rfl (fun K hK => ?_) AllReadyH.nil
            go_simp
            refine hK.out _ _ (by trivial) (fun hHeld => ?_)
            clear hK K
            try simp only [Act.put, List.setIfInBounds_toArray, List.set_cons_zero, List.set_cons_succ]
            refine wpAnyH_done (by kernel_rfl) ?_ _
            refine NoPanic.normal ?_
            have HE7 := dHide E7
            have hl7 : Hid ((es ++ [(⟨1 + (y : Int), pl, ⟨#[]⟩⟩ : Ev)]).length = k + 1) := by rw [Hid, List.length_append, dUnhide HEL]; rfl
            generalize es ++ [(⟨1 + (y : Int), pl, ⟨#[]⟩⟩ : Ev)] = ES at *
            clear E7 n1 g1
            go_wp2_with fail
            go_roundw
            case rel => exact ⟨k + 1, ES, a7, c7, by go_num, by omega, dUnhide hl7, HE7⟩
            case measure => simp [intOf]; omega
    · have CB := dHide (l1Below_any bk 25 (by omega) (by omega) w6 (dUnhide HD6).cur)
      go_wp2_with fail
      refine (dUnhide CB).mono ?_
      rintro e w7 ⟨⟨x, hx, rfl⟩, hc7, hd7⟩
      have D7 := (dUnhide HD6).move hk h0 hc7 hd7
      clear CB HD6 hc7 hd7
      by_cases x0 : x = 0
      · subst x0
        have CP := dHide (pick_new (w := w7) D7.cur [0, 31, 32] 3 (by simp) (by simp) 3)
        have HD7 := dHide D7
        clear D7
        go_wp2_with fail
        refine (dUnhide CP).mono ?_
        rintro e w8 ⟨⟨v, hv, rfl⟩, hc8, hd8⟩
        have D := (dUnhide HD7).move hk h0 hc8 hd8
        have hvv : 0 ≤ v ∧ v ≤ 32 := by simp at hv; omega
        obtain ⟨k0, g0⟩ := D.box.2 0 _ rfl
        obtain ⟨k1, g1⟩ := D.box.2 1 _ rfl
        obtain ⟨k2, g2⟩ := D.box.2 2 _ rfl
        obtain ⟨z0, f0⟩ := D.res.2 0 _ rfl
        obtain ⟨z1, f1⟩ := D.res.2 1 _ rfl
        obtain ⟨z2, f2⟩ := D.res.2 2 _ rfl
        have E := (D.set0 hk h0 v).re
        clear CP HD7 hc8 hd8 hv
        have HO := dHide (((E.own.farZ (b' := w.heap.size) (o := 0) (by omega) (.int .i64 v)).farZ (b' := w.heap.size) (o := 1) (by omega) (.int .i64 off)).farZ (b' := w.heap.size) (o := 2) (by omega) (.slice ea es.length ec))
        have HX := dHide (((E.res.put 0 (.int .i64 v)).put 1 (.int .i64 off)).put 2 (.slice ea es.length ec))
        have HC := dHide (((E.cur.setNew (b := w.heap.size) hk 0 (.int .i64 v)).setNew (b := w.heap.size) hk 1 (.int .i64 off)).setNew (b := w.heap.size) hk 2 (.slice ea es.length ec))
        have HDD := dHide (((E.drawn.setNew (b := w.heap.size) (Nat.le_refl _) 0 (.int .i64 v)).setNew (b := w.heap.size) (Nat.le_refl _) 1 (.int .i64 off)).setNew (b := w.heap.size) (Nat.le_refl _) 2 (.slice ea es.length ec))
        have HF : Hid (fitR ⟨v, off, es⟩) := ⟨⟨by simp only; omega, by simp only; omega⟩, ⟨by simp only; omega, by simp only; omega⟩, by simp only; omega, D.fit⟩
        clear E D
        go_wp2
        generalize (((w8.setCell ⟨b0, 0, none⟩ (.int .i64 v)).setCell ⟨w.heap.size, 0, none⟩ (.int .i64 v)).setCell ⟨w.heap.size, 1, none⟩ (.int .i64 off)).setCell ⟨w.heap.size, 2, none⟩ (.slice ea es.length ec) = V at *
        have q0 := ((dUnhide HX).2 0 _ rfl).1
        have q1 := ((dUnhide HX).2 1 _ rfl).1
        have q2 := ((dUnhide HX).2 2 _ rfl).1
        refine bodyPost_ret (v := .agg #[.int .i64 v, .int .i64 off, .slice ea es.length ec]) (by simp [results, Tryd.results33, go_sem, q0, q1, q2]) rfl ⟨⟨⟨v, off, es⟩, _, _, rfl, (dUnhide HO).mono (by omega), dUnhide HF⟩, dUnhide HC, dUnhide HDD⟩
      by_cases x1 : x = 1
      · subst x1
        have CP := dHide (pick_new (w := w7) D7.cur [0, 60, 61, 62] 3 (by simp) (by simp) 4)
        have HD7 := dHide D7
        clear D7
        go_wp2_with fail
        refine (dUnhide CP).mono ?_
        rintro e w8 ⟨⟨v, hv, rfl⟩, hc8, hd8⟩
        have D := (dUnhide HD7).move hk h0 hc8 hd8
        have hvv : 0 ≤ v ∧ v ≤ 62 := by simp at hv; omega
        obtain ⟨k0, g0⟩ := D.box.2 0 _ rfl
        obtain ⟨k1, g1⟩ := D.box.2 1 _ rfl
        obtain ⟨k2, g2⟩ := D.box.2 2 _ rfl
        obtain ⟨z0, f0⟩ := D.res.2 0 _ rfl
        obtain ⟨z1, f1⟩ := D.res.2 1 _ rfl
        obtain ⟨z2, f2⟩ := D.res.2 2 _ rfl
        have E := (D.set1 hk h0 v).re
        clear CP HD7 hc8 hd8 hv
        have HO := dHide (((E.own.farZ (b' := w.heap.size) (o := 0) (by omega) (.int .i64 ep)).farZ (b' := w.heap.size) (o := 1) (by omega) (.int .i64 v)).farZ (b' := w.heap.size) (o := 2) (by omega) (.slice ea es.length ec))
        have HX := dHide (((E.res.put 0 (.int .i64 ep)).put 1 (.int .i64 v)).put 2 (.slice ea es.length ec))
        have HC := dHide (((E.cur.setNew (b := w.heap.size) hk 0 (.int .i64 ep)).setNew (b := w.heap.size) hk 1 (.int .i64 v)).setNew (b := w.heap.size) hk 2 (.slice ea es.length ec))
        have HDD := dHide (((E.drawn.setNew (b := w.heap.size) (Nat.le_refl _) 0 (.int .i64 ep)).setNew (b := w.heap.size) (Nat.le_refl _) 1 (.int .i64 v)).setNew (b := w.heap.size) (Nat.le_refl _) 2 (.slice ea es.length ec))
        have HF : Hid (fitR ⟨ep, v, es⟩) := ⟨⟨by simp only; omega, by simp only; omega⟩, ⟨by simp only; omega, by simp only; omega⟩, by simp only; omega, D.fit⟩
        clear E D
        go_wp2
        generalize (((w8.setCell ⟨b0, 1, none⟩ (.int .i64 v)).setCell ⟨w.heap.size, 0, none⟩ (.int .i64 ep)).setCell ⟨w.heap.size, 1, none⟩ (.int .i64 v)).setCell ⟨w.heap.size, 2, none⟩ (.slice ea es.length ec) = V at *
        have q0 := ((dUnhide HX).2 0 _ rfl).1
        have q1 := ((dUnhide HX).2 1 _ rfl).1
        have q2 := ((dUnhide HX).2 2 _ rfl).1
        refine bodyPost_ret (v := .agg #[.int .i64 ep, .int .i64 v, .slice ea es.length ec]) (by simp [results, Tryd.results33, go_sem, q0, q1, q2]) rfl ⟨⟨⟨ep, v, es⟩, _, _, rfl, (dUnhide HO).mono (by omega), dUnhide HF⟩, dUnhide HC, dUnhide HDD⟩
      by_cases x2 : x = 2
      · subst x2
        have CB := dHide (l1Below_any bk 2 (by omega) (by omega) w7 D7.cur)
        have HD7 := dHide D7
        clear D7
        go_wp2_with fail
        refine (dUnhide CB).mono ?_
        rintro e w8 ⟨⟨y, hy, rfl⟩, hc8, hd8⟩
        have D8 := (dUnhide HD7).move hk h0 hc8 hd8
        obtain ⟨ms, hml, hmz⟩ : ∃ ms : List Ev, ms.length = 120 + y ∧ ∀ e ∈ ms, e = zeroEv := ⟨List.replicate (120 + y) zeroEv, List.length_replicate .., fun e he => (List.mem_replicate.1 he).2⟩
        have hmk := makeEvent ms.length (by omega) w8
        rw [show ((ms.length : Nat) : Int) = 120 + (y : Int) by omega] at hmk
        have MW := madeEvent w8 ms.length
        have D := D8.below hk h0 (ba w8 (.cells (madeCells (Value.agg #[.int .i64 0, .int .i64 0, .string ⟨#[]⟩]).cells (ms.length * 3)) 68))
        have hb8 : b0 + 1 ≤ w8.heap.size := D8.lt
        obtain ⟨k0, g0⟩ := D.box.2 0 _ rfl
        obtain ⟨k1, g1⟩ := D.box.2 1 _ rfl
        obtain ⟨k2, g2⟩ := D.box.2 2 _ rfl
        obtain ⟨z0, f0⟩ := D.res.2 0 _ rfl
        obtain ⟨z1, f1⟩ := D.res.2 1 _ rfl
        obtain ⟨z2, f2⟩ := D.res.2 2 _ rfl
        have E := D.made hk h0 (b := w8.heap.size) hb8 ms hmz (by omega) MW
        have HML := dHide hml
        have hmq : ms.length ≤ 121 := by omega
        clear CB HD7 hc8 hd8 D8 MW D hml
        generalize w8.heap.size = b8 at *
        generalize w8.alloc (.cells (madeCells (Value.agg #[.int .i64 0, .int .i64 0, .string ⟨#[]⟩]).cells (ms.length * 3)) 68) = w9 at *
        have HO := dHide (((E.own.farZ (b' := w.heap.size) (o := 0) (by omega) (.int .i64 ep)).farZ (b' := w.heap.size) (o := 1) (by omega) (.int .i64 off)).farZ (b' := w.heap.size) (o := 2) (by omega) (.slice (some ⟨b8, 0, none⟩) ms.length ms.length))
        have HX := dHide (((E.res.put 0 (.int .i64 ep)).put 1 (.int .i64 off)).put 2 (.slice (some ⟨b8, 0, none⟩) ms.length ms.length))
        have HC := dHide (((E.cur.setNew (b := w.heap.size) hk 0 (.int .i64 ep)).setNew (b := w.heap.size) hk 1 (.int .i64 off)).setNew (b := w.heap.size) hk 2 (.slice (some ⟨b8, 0, none⟩) ms.length ms.length))
        have HDD := dHide (((E.drawn.setNew (b := w.heap.size) (Nat.le_refl _) 0 (.int .i64 ep)).setNew (b := w.heap.size) (Nat.le_refl _) 1 (.int .i64 off)).setNew (b := w.heap.size) (Nat.le_refl _) 2 (.slice (some ⟨b8, 0, none⟩) ms.length ms.length))
        have HF : Hid (fitR ⟨ep, off, ms⟩) := ⟨⟨by simp only; omega, by simp only; omega⟩, ⟨by simp only; omega, by simp only; omega⟩, hmq, fun e he => by rw [hmz e he]; exact fitV_zero⟩
        clear E hmz
        go_wp2
        generalize (((w9.setCell ⟨b0, 2, none⟩ (.slice (some ⟨b8, 0, none⟩) ms.length ms.length)).setCell ⟨w.heap.size, 0, none⟩ (.int .i64 ep)).setCell ⟨w.heap.size, 1, none⟩ (.int .i64 off)).setCell ⟨w.heap.size, 2, none⟩ (.slice (some ⟨b8, 0, none⟩) ms.length ms.length) = V at *
        have q0 := ((dUnhide HX).2 0 _ rfl).1
        have q1 := ((dUnhide HX).2 1 _ rfl).1
        have q2 := ((dUnhide HX).2 2 _ rfl).1
        refine bodyPost_ret (v := .agg #[.int .i64 ep, .int .i64 off, .slice (some ⟨b8, 0, none⟩) ms.length ms.length]) (by simp [results, Tryd.results33, go_sem, q0, q1, q2]) rfl ⟨⟨⟨ep, off, ms⟩, _, _, rfl, (dUnhide HO).mono (by omega), dUnhide HF⟩, dUnhide HC, dUnhide HDD⟩
      have hx0 : ((x : Int) == 0) = false := by simpa using x0
      have hx1 : ((x : Int) == 1) = false := by simpa using (show ¬ (x : Int) = 1 by omega)
      have hx2 : ((x : Int) == 2) = false := by simpa using (show ¬ (x : Int) = 2 by omega)
      have D := D7
      obtain ⟨k0, g0⟩ := D.box.2 0 _ rfl
      obtain ⟨k1, g1⟩ := D.box.2 1 _ rfl
      obtain ⟨k2, g2⟩ := D.box.2 2 _ rfl
      obtain ⟨z0, f0⟩ := D.res.2 0 _ rfl
      obtain ⟨z1, f1⟩ := D.res.2 1 _ rfl
      obtain ⟨z2, f2⟩ := D.res.2 2 _ rfl
      have E := D.re
      have HO := dHide (((E.own.farZ (b' := w.heap.size) (o := 0) (by omega) (.int .i64 ep)).farZ (b' := w.heap.size) (o := 1) (by omega) (.int .i64 off)).farZ (b' := w.heap.size) (o := 2) (by omega) (.slice ea es.length ec))
      have HX := dHide (((E.res.put 0 (.int .i64 ep)).put 1 (.int .i64 off)).put 2 (.slice ea es.length ec))
      have HC := dHide (((E.cur.setNew (b := w.heap.size) hk 0 (.int .i64 ep)).setNew (b := w.heap.size) hk 1 (.int .i64 off)).setNew (b := w.heap.size) hk 2 (.slice ea es.length ec))
      have HDD := dHide (((E.drawn.setNew (b := w.heap.size) (Nat.le_refl _) 0 (.int .i64 ep)).setNew (b := w.heap.size) (Nat.le_refl _) 1 (.int .i64 off)).setNew (b := w.heap.size) (Nat.le_refl _) 2 (.slice ea es.length ec))
      have HF : Hid (fitR ⟨ep, off, es⟩) := ⟨⟨by simp only; omega, by simp only; omega⟩, ⟨by simp only; omega, by simp only; omega⟩, by simp only; omega, D.fit⟩
      clear E D D7
      go_wp2
      generalize ((w7.setCell ⟨w.heap.size, 0, none⟩ (.int .i64 ep)).setCell ⟨w.heap.size, 1, none⟩ (.int .i64 off)).setCell ⟨w.heap.size, 2, none⟩ (.slice ea es.length ec) = V at *
      have q0 := ((dUnhide HX).2 0 _ rfl).1
      have q1 := ((dUnhide HX).2 1 _ rfl).1
      have q2 := ((dUnhide HX).2 2 _ rfl).1
      refine bodyPost_ret (v := .agg #[.int .i64 ep, .int .i64 off, .slice ea es.length ec]) (by simp [results, Tryd.results33, go_sem, q0, q1, q2]) rfl ⟨⟨⟨ep, off, es⟩, _, _, rfl, (dUnhide HO).mono (by omega), dUnhide HF⟩, dUnhide HC, dUnhide HDD⟩
end Go.Proofs.YthndkkjgjhgdnaaDoor
