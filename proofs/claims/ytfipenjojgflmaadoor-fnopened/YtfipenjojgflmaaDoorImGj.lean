/- impl's RegOpen. -/
import Derived.Test.YtfipenjojgflmaaDoorImGi
namespace Go.Proofs.YtfipenjojgflmaaDoor
open Go.ChangeShapes Go.WideShapes Go.ChangeAt Go.RowKit
set_option linter.unusedVariables false
set_option linter.unusedSimpArgs false
set_option maxRecDepth 100000

theorem openFn (W : World) (lo b pb qb : Nat) (u : Value) (m : Rg) (sc v2 : Value) (ds xs : List Int) (cop : Int) (a0 a1 : Addr) (hp : W.cell? ⟨pb, 0, none⟩ = some sc ∧ W.cell? ⟨pb, 1, none⟩ = some (.int .i64 cop)) (hq : W.cell? ⟨qb, 0, none⟩ = some v2) (h : CpyAt W lo b u m) (hSh : Shp W b) (hS : Snt W a0 a1) (hlo : lo ≤ W.heap.size) (hc : Ns W sc ds) (hx : Ns W v2 xs) (had : allInt ds) (hax : allInt xs) (hld : ds.length ≤ 1048576) (hlx : xs.length ≤ 1048576) (c0 : -9223372036854775808 ≤ cop) (c1 : cop ≤ 9223372036854775807) (hs : m.eras.length ≤ 1048576) :
    Calls Tryd.prog 25 #[.pointer (some ⟨b, 0, none⟩), .pointer (some ⟨pb, 0, none⟩), .pointer (some ⟨qb, 0, none⟩)] W fun e w' => ChgEnd a1 lo b (openO ds cop m xs) e w' ∧ Below lo W w' := by
  have C := dHide (open_any W lo b u m sc v2 ds xs cop a0 a1 h hSh hS hlo hc hx had hax hld hlx c0 c1 hs)
  have NP : Hid (∀ e w', ChgEnd a1 lo b (openO ds cop m xs) e w' → ∃ v, e = .returned v) := fun e w' h => by
    unfold ChgEnd at h
    split at h
    · exact ⟨_, h⟩
    · exact ⟨_, h.1⟩
  obtain ⟨p0, p1⟩ := hp
  obtain ⟨-, ca, cc, rfl, -, -⟩ := hc
  obtain ⟨-, va, vc, rfl, -, -⟩ := hx
  clear h hSh hS
  go_enter Tryd.func25, Tryd.ntmps25
  go_wp2_with fail
  refine (dUnhide C).mono ?_
  rintro e w1 ⟨hE, b1⟩
  obtain ⟨v, rfl⟩ := dUnhide NP _ _ hE
  have HE := dHide hE
  clear C hE
  go_wp2
  go_ret
  exact ⟨dUnhide HE, b1⟩
set_option maxHeartbeats 8000000 in
theorem implRegOpen_any (cv v v2 : Value) (c : List Int × Int) (m : Rg) (xs : List Int) (w : World) (a0 a1 : Addr) (hS : Snt w a0 a1) (hc : RdConfig cv c w) (hv : RdRegister v m w) (hx : Ns w v2 xs) (hax : allInt xs) (hlx : xs.length ≤ 1048576) (okc : okConfig c) (ok : okRegister m) (hsc : sizConfig c ≤ 1048576) (hs : sizRegister m ≤ 1048576) :
    Calls Tryd.prog 7 #[cv, v, v2] w fun e w' => (∃ u, e = .returned (.tuple #[u, .int .i64 (openM c.1 c.2 m xs).2.1, .bool (openM c.1 c.2 m xs).2.2]) ∧ OwRegister w.heap.size w'.heap.size u (openM c.1 c.2 m xs).1 w') ∧ Below w.heap.size w w' := by
  obtain ⟨ds, cop⟩ := c
  have hle : m.eras.length ≤ 1048576 := by unfold sizRegister sizEraS at hs; omega
  have hRS : (¬ regP ds cop m → (openM ds cop m xs).1 = zeroRg ∧ (openM ds cop m xs).2.2 = false) ∧ (regP ds cop m → (openO ds cop m xs = none → (openM ds cop m xs).1 = m ∧ (openM ds cop m xs).2.2 = false) ∧ ∀ m', openO ds cop m xs = some m' → (openM ds cop m xs).1 = m' ∧ (openM ds cop m xs).2.2 = true) := by
    refine ⟨fun h => by rw [openM_bad h]; exact ⟨rfl, rfl⟩, fun h => ⟨fun h0 => ?_, fun m' h0 => ?_⟩⟩
    · unfold openO at h0
      split at h0
      · cases h0
      · rename_i hn; rw [openM_no h hn]; exact ⟨rfl, rfl⟩
    · unfold openO at h0
      split at h0
      · rename_i hn; cases h0; rw [openM_yes h hn]; exact ⟨rfl, rfl⟩
      · cases h0
  have hNum : ((openM ds cop m xs).2.2 = false → (openM ds cop m xs).2.1 = 0) ∧ ((openM ds cop m xs).2.2 = true → (openM ds cop m xs).2.1 = ((openM ds cop m xs).1.eras.length : Int)) := by
    by_cases h : regP ds cop m
    · by_cases hn : openP ds cop m xs
      · rw [openM_yes h hn]; exact ⟨(fun h => by cases h), fun _ => by simp⟩
      · rw [openM_no h hn]; exact ⟨fun _ => rfl, (fun h => by cases h)⟩
    · rw [openM_bad h]; exact ⟨fun _ => rfl, (fun h => by cases h)⟩
  have CT := dHide fun W (hS : Snt W a0 a1) (hc : RdConfig cv (ds, cop) W) (hv : RdRegister v m W) caps hG => turned_any W 25 caps cv v (ds, cop) m a0 a1 (openO ds cop m xs) Tryd.call25 hG hc hv okc ok hsc hs hS _ _ hRS
  simp only at *
  generalize (openM ds cop m xs).1 = R at *
  generalize (openM ds cop m xs).2.1 = nm at *
  generalize (openM ds cop m xs).2.2 = s at *
  have ba : ∀ (w : World) o, Below w.heap.size w (w.alloc o) := fun w o => (Below.refl _ _).alloc (Nat.le_refl _) o
  obtain ⟨a, cap, e0, -⟩ := formRegister hv
  obtain ⟨sc, e1, hNc⟩ := hc
  have hNc' := hNc
  obtain ⟨-, ca, cc, e2, -, -⟩ := hNc'
  have hx' := hx
  obtain ⟨-, va, vc, e3, -, -⟩ := hx'
  subst e0
  subst e2
  subst e1
  subst e3
  simp only at *
  have hc : RdConfig (.agg #[.slice ca ds.length cc, .int .i64 cop]) (ds, cop) w := ⟨_, rfl, hNc⟩
  have B0 := (belowThen (belowThen (belowThen (ba w (.cells #[.slice ca ds.length cc, .int .i64 cop] 26)) (ba _ (.cells #[.slice a m.eras.length cap, .int .i64 m.trim] 29))) (ba _ (.cells #[.slice va xs.length vc] 24))) (ba _ (.cells #[.slice none 0 0, .int .i64 0] 29)))
  have CT := dHide (dUnhide CT _ (hS.below B0 (Nat.le_refl _)) (hc.below B0) (hv.below B0))
  have HS := dHide (hS.below B0 (Nat.le_refl _))
  have HC := dHide (hNc.below B0)
  have HX := dHide (hx.below B0)
  have P0 := (Bx.new ((w.alloc (.cells #[.slice ca ds.length cc, .int .i64 cop] 26)).alloc (.cells #[.slice a m.eras.length cap, .int .i64 m.trim] 29)) [.slice va xs.length vc] 24).below (ba _ (.cells #[.slice none 0 0, .int .i64 0] 29))
  have Z0 := BxZ.new (B := w.heap.size) (((w.alloc (.cells #[.slice ca ds.length cc, .int .i64 cop] 26)).alloc (.cells #[.slice a m.eras.length cap, .int .i64 m.trim] 29)).alloc (.cells #[.slice va xs.length vc] 24)) [.slice none 0 0, .int .i64 0] 29 (by simp <;> omega)
  have X0 := (Bx.new w [.slice ca ds.length cc, .int .i64 cop] 26).below (belowThen (belowThen (ba _ (.cells #[.slice a m.eras.length cap, .int .i64 m.trim] 29)) (ba _ (.cells #[.slice va xs.length vc] 24))) (ba _ (.cells #[.slice none 0 0, .int .i64 0] 29)))
  have Y0 := (Bx.new (w.alloc (.cells #[.slice ca ds.length cc, .int .i64 cop] 26)) [.slice a m.eras.length cap, .int .i64 m.trim] 29).below (belowThen (ba _ (.cells #[.slice va xs.length vc] 24)) (ba _ (.cells #[.slice none 0 0, .int .i64 0] 29)))
  have e1 : (w.alloc (.cells #[.slice ca ds.length cc, .int .i64 cop] 26)).heap.size = w.heap.size + 1 := by simp
  have e2 : ((w.alloc (.cells #[.slice ca ds.length cc, .int .i64 cop] 26)).alloc (.cells #[.slice a m.eras.length cap, .int .i64 m.trim] 29)).heap.size = w.heap.size + 1 + 1 := by simp
  have e3 : (((w.alloc (.cells #[.slice ca ds.length cc, .int .i64 cop] 26)).alloc (.cells #[.slice a m.eras.length cap, .int .i64 m.trim] 29)).alloc (.cells #[.slice va xs.length vc] 24)).heap.size = w.heap.size + 1 + 1 + 1 := by simp
  rw [e1] at Y0
  rw [e2] at P0
  rw [e3] at Z0
  clear e1 e2 e3 hS hc hv hNc hx
  have HG : Hid (regP ds cop m → ∀ W, Below ((((w.alloc (.cells #[.slice ca ds.length cc, .int .i64 cop] 26)).alloc (.cells #[.slice a m.eras.length cap, .int .i64 m.trim] 29)).alloc (.cells #[.slice va xs.length vc] 24)).alloc (.cells #[.slice none 0 0, .int .i64 0] 29)).heap.size ((((w.alloc (.cells #[.slice ca ds.length cc, .int .i64 cop] 26)).alloc (.cells #[.slice a m.eras.length cap, .int .i64 m.trim] 29)).alloc (.cells #[.slice va xs.length vc] 24)).alloc (.cells #[.slice none 0 0, .int .i64 0] 29)) W → Chg W 25 #[.pointer (some ⟨w.heap.size, 0, none⟩), .pointer (some ⟨w.heap.size + 1 + 1, 0, none⟩)] m a1 (openO ds cop m xs)) := fun hP W hb W' lo b u hb' hlo hlo' hC hSh => by
    have hbb := belowThen hb hb'
    exact openFn W' lo b _ _ u m _ _ ds xs cop a0 a1 ⟨X0.below hbb 0 _ rfl, X0.below hbb 1 _ rfl⟩ (P0.below hbb 0 _ rfl) hC hSh ((dUnhide HS).below hbb (Nat.le_refl _)) hlo' ((dUnhide HC).below hbb) ((dUnhide HX).below hbb) okc.1 hax hsc hlx okc.2.1 okc.2.2 hle
  have CT := dHide (dUnhide CT _ (dUnhide HG))
  have x0 := X0 0 _ rfl
  have x1 := X0 1 _ rfl
  have y0 := Y0 0 _ rfl
  have y1 := Y0 1 _ rfl
  have HZ := dHide Z0
  clear HG HS X0 Y0 Z0 P0 HC HX
  go_enter Tryd.func7, Tryd.ntmps7
  go_wp2_with fail
  generalize ((((w.alloc (.cells #[.slice ca ds.length cc, .int .i64 cop] 26)).alloc (.cells #[.slice a m.eras.length cap, .int .i64 m.trim] 29)).alloc (.cells #[.slice va xs.length vc] 24)).alloc (.cells #[.slice none 0 0, .int .i64 0] 29)) = w0 at *
  refine (dUnhide CT).mono ?_
  rintro e w1 ⟨⟨u1, rfl, O1⟩, b1⟩
  obtain ⟨sv, rfl, O1⟩ := O1
  have O1' := O1
  obtain ⟨ua, uc, rfl, -⟩ := formK (OwK.rd O1)
  have B1 := belowThen B0 b1
  have hw0 := (dUnhide HZ).lt
  have s1 := b1.size
  have s0 := B0.size
  have bN := ba w1 (.cells #[.slice ua R.eras.length uc, .int .i64 R.trim] 29)
  have B2 := belowThen B1 bN
  have Z2 := dHide (((dUnhide HZ).below b1).below bN)
  have N2 := dHide (Bx.new w1 [.slice ua R.eras.length uc, .int .i64 R.trim] 29)
  have O2 := dHide ((OwK.sits O1 (Nat.le_refl _)).below bN)
  have RD := dHide (show RdRegister (.agg #[.slice ua R.eras.length uc, .int .i64 R.trim]) R _ from ⟨_, rfl, RdK.below (OwK.rd O1) bN⟩)
  have hw1 : Hid (w1.heap.size < (w1.alloc (.cells #[.slice ua R.eras.length uc, .int .i64 R.trim] 29)).heap.size) := by simp [Hid]
  clear CT O1 O1' b1 x0 x1 y0 y1 bN B1
  have n0 := dUnhide N2 0 _ rfl
  have n1 := dUnhide N2 1 _ rfl
  have WN : Hid (w.heap.size + 1 + 1 + 1 < w0.heap.size) := hw0
  have hne : w1.heap.size ≠ w.heap.size + 1 + 1 + 1 := by omega
  obtain ⟨z0, f0⟩ := (dUnhide Z2).2 0 _ rfl
  obtain ⟨z1, f1⟩ := (dUnhide Z2).2 1 _ rfl
  have ZZ := dHide (((dUnhide Z2).put 0 (.slice ua R.eras.length uc)).put 1 (.int .i64 R.trim))
  have BB := dHide ((B2.setCell (p := ⟨w.heap.size + 1 + 1 + 1, 0, none⟩) (by simp only; omega) (.slice ua R.eras.length uc)).setCell (p := ⟨w.heap.size + 1 + 1 + 1, 1, none⟩) (by simp only; omega) (.int .i64 R.trim))
  have OO := dHide (((dUnhide O2).setFar (b := w.heap.size + 1 + 1 + 1) (o := 0) (.inl hw0) (.slice ua R.eras.length uc)).setFar (b := w.heap.size + 1 + 1 + 1) (o := 1) (.inl hw0) (.int .i64 R.trim))
  cases s with
  | false =>
    have e0 := hNum.1 rfl
    subst e0
    go_wp2_with fail
    have hVs := (dUnhide OO).fit
    generalize ((w1.alloc (.cells #[.slice ua R.eras.length uc, .int .i64 R.trim] 29)).setCell ⟨w.heap.size + 1 + 1 + 1, 0, none⟩ (.slice ua R.eras.length uc)).setCell ⟨w.heap.size + 1 + 1 + 1, 1, none⟩ (.int .i64 R.trim) = V at *
    have q0 := ((dUnhide ZZ).2 0 _ rfl).1
    have q1 := ((dUnhide ZZ).2 1 _ rfl).1
    refine bodyPost_ret (v := .tuple #[.agg #[.slice ua R.eras.length uc, .int .i64 R.trim], .int .i64 0, .bool false]) (by simp [results, Tryd.results7, go_sem, q0, q1]) rfl ⟨⟨_, rfl, ⟨_, rfl, OwK.wide (dUnhide OO).now s0 hVs⟩⟩, dUnhide BB⟩
  | true =>
    have e0 := hNum.2 rfl
    subst e0
    have CE := dHide fun W (hr : RdRegister (.agg #[.slice ua R.eras.length uc, .int .i64 R.trim]) R W) => lastEpoch_any _ R W hr
    have RD2 : Hid (RdRegister (.agg #[.slice ua R.eras.length uc, .int .i64 R.trim]) R (((w1.alloc (.cells #[.slice ua R.eras.length uc, .int .i64 R.trim] 29)).setCell ⟨w.heap.size + 1 + 1 + 1, 0, none⟩ (.slice ua R.eras.length uc)).setCell ⟨w.heap.size + 1 + 1 + 1, 1, none⟩ (.int .i64 R.trim))) := ⟨_, rfl, OwK.rd (dUnhide OO).now⟩
    go_wp2_with fail
    generalize w1.alloc (.cells #[.slice ua R.eras.length uc, .int .i64 R.trim] 29) = w2 at *
    have hbr := Below.refl w2.heap.size w2
    go_cut [7, 8] (fun sv s8 wx => sv = .int .i64 (R.eras.length : Int) ∧ s8 = .bool true ∧ BxZ wx w.heap.size (w.heap.size + 1 + 1 + 1) [.slice ua R.eras.length uc, .int .i64 R.trim] ∧ OwEraS w0.heap.size wx.heap.size (.slice ua R.eras.length uc) R.eras wx ∧ Below w.heap.size w wx)
    case first =>
      refine wp_region_noPanic ?_
      refine wp_region_held_drew (S := fun W => W.cell? ⟨w1.heap.size, 0, none⟩ = some (.slice ua R.eras.length uc) ∧ W.cell? ⟨w1.heap.size, 1, none⟩ = some (.int .i64 R.trim)) (by kernel_rfl) (by first | exact ⟨n0, n1⟩ | exact ⟨m0, m1⟩ | exact ⟨set_other (set_other m0 (.inl hne)) (.inl hne), set_other (set_other m1 (.inl hne)) (.inl hne)⟩ | go_keep) (fun hHeld => ?_)
      refine wpAnyH_take (i := 0) (oi := { dst := some 21, op := Op.load 29 (Operand.tmp 9), type := 29, pos := "l07_register.go:141", after := #[], guard := none }) (v := ?_) rfl (by kernel_rfl) (by kernel_rfl) (by kernel_rfl) (fun _ _ _ h => h) (Or.inl ⟨by rfl, ?_⟩) (by assumption) ?_
      rotate_left 1
      · intro w hSw
        (try dsimp only at hSw)
        first | (go_simp; done) | (go_simp; with_reducible rfl)
      try simp only [Act.put, List.setIfInBounds_toArray, List.set_cons_zero, List.set_cons_succ]
      refine wpAnyH_take (i := 1) (oi := { dst := some 22, op := Op.load 29 (Operand.tmp 9), type := 29, pos := "l07_register.go:141", after := #[], guard := none }) (v := ?_) rfl (by kernel_rfl) (by kernel_rfl) (by kernel_rfl) (fun _ _ _ h => h) (Or.inl ⟨by rfl, ?_⟩) (by assumption) ?_
      rotate_left 1
      · intro w hSw
        (try dsimp only at hSw)
        first | (go_simp; done) | (go_simp; with_reducible rfl)
      try simp only [Act.put, List.setIfInBounds_toArray, List.set_cons_zero, List.set_cons_succ]
      refine wpAnyH_ready (rs := [2]) (by kernel_rfl) (by simp) ?_
      refine AllReadyH.cons (o := { dst := some 23, op := Op.call { callee := Callee.value (Operand.func 27), args := #[Operand.tmp 22], argTypes := #[29] }, type := 3, pos := "l07_register.go:141", after := #[{ on := 1, ground := Ground.data }], guard := none }) rfl (fun K hK => ?_) AllReadyH.nil
      go_simp
      refine (dUnhide CE _ ((dUnhide RD).below hbr.drew)).mono ?_
      rintro e w5 ⟨rfl, b5⟩
      have hb5 : Below w2.heap.size w2 w5 := belowThen hbr.drew b5
      have m0 := (dUnhide N2).below hb5 0 _ rfl
      have m1 := (dUnhide N2).below hb5 1 _ rfl
      have Z5 := dHide ((dUnhide Z2).below hb5)
      obtain ⟨i0, j0⟩ := (dUnhide Z5).2 0 _ rfl
      obtain ⟨i1, j1⟩ := (dUnhide Z5).2 1 _ rfl
      have O5 := dHide ((((dUnhide O2).below hb5).setFar (b := w.heap.size + 1 + 1 + 1) (o := 0) (.inl hw0) (.slice ua R.eras.length uc)).setFar (b := w.heap.size + 1 + 1 + 1) (o := 1) (.inl hw0) (.int .i64 R.trim))
      have B5 := dHide (belowThen B2 hb5)
      (try go_wp2_with fail)
      refine hK.out _ _ (by first | exact ⟨n0, n1⟩ | exact ⟨m0, m1⟩ | exact ⟨set_other (set_other m0 (.inl hne)) (.inl hne), set_other (set_other m1 (.inl hne)) (.inl hne)⟩ | go_keep) (fun hHeld => ?_)
      clear hK K
      try simp only [Act.put, List.setIfInBounds_toArray, List.set_cons_zero, List.set_cons_succ]
      refine wpAnyH_ready (rs := [3]) (by kernel_rfl) (by simp) ?_
      refine AllReadyH.cons (o := { dst := none, op := Op.store 29 (Operand.tmp 6) (Operand.tmp 21), type := 0, pos := "l07_register.go:141", after := #[{ on := 0, ground := Ground.data }, { on := 2, ground := Ground.chain }, { on := 0, ground := Ground.phase }, { on := 1, ground := Ground.textOnly Departure.lateStores }, { on := 2, ground := Ground.textOnly Departure.lateStoresUnsure }], guard := none }) rfl (fun K hK => ?_) AllReadyH.nil
      go_simp
      refine hK.out _ _ (by first | exact ⟨n0, n1⟩ | exact ⟨m0, m1⟩ | exact ⟨set_other (set_other m0 (.inl hne)) (.inl hne), set_other (set_other m1 (.inl hne)) (.inl hne)⟩ | go_keep) (fun hHeld => ?_)
      clear hK K
      try simp only [Act.put, List.setIfInBounds_toArray, List.set_cons_zero, List.set_cons_succ]
      refine wpAnyH_take (i := 4) (oi := { dst := some 7, op := Op.assign (Operand.tmp 23), type := 3, pos := "l07_register.go:141", after := #[{ on := 2, ground := Ground.data }, { on := 3, ground := Ground.chain }, { on := 0, ground := Ground.phase }, { on := 1, ground := Ground.phase }, { on := 2, ground := Ground.phase }, { on := 3, ground := Ground.phase }], guard := none }) (v := ?_) rfl (by kernel_rfl) (by kernel_rfl) (by kernel_rfl) (fun _ _ _ h => h) (Or.inl ⟨by rfl, ?_⟩) (by assumption) ?_
      rotate_left 1
      · intro w hSw
        (try dsimp only at hSw)
        first | (go_simp; done) | (go_simp; with_reducible rfl)
      try simp only [Act.put, List.setIfInBounds_toArray, List.set_cons_zero, List.set_cons_succ]
      refine wpAnyH_take (i := 5) (oi := { dst := some 8, op := Op.assign (Operand.const (Value.bool true)), type := 4, pos := "l07_register.go:141", after := #[{ on := 4, ground := Ground.chain }, { on := 0, ground := Ground.phase }, { on := 1, ground := Ground.phase }, { on := 2, ground := Ground.phase }, { on := 3, ground := Ground.phase }, { on := 4, ground := Ground.phase }], guard := none }) (v := ?_) rfl (by kernel_rfl) (by kernel_rfl) (by kernel_rfl) (fun _ _ _ h => h) (Or.inl ⟨by rfl, ?_⟩) (by assumption) ?_
      rotate_left 1
      · intro w hSw
        (try dsimp only at hSw)
        first | (go_simp; done) | (go_simp; with_reducible rfl)
      try simp only [Act.put, List.setIfInBounds_toArray, List.set_cons_zero, List.set_cons_succ]
      refine wpAnyH_done (by kernel_rfl) ?_ _
      refine NoPanic.normal ?_
      go_wp2_with fail
      go_meet
      case rel => exact ⟨rfl, rfl, ((dUnhide Z5).put 0 _).put 1 _, OwK.wide (dUnhide O5).now (Nat.le_refl _) (dUnhide O5).fit, ((dUnhide B5).setCell (p := ⟨w.heap.size + 1 + 1 + 1, 0, none⟩) (by simp only; omega) _).setCell (p := ⟨w.heap.size + 1 + 1 + 1, 1, none⟩) (by simp only; omega) _⟩
    case rest =>
      obtain ⟨rfl, rfl, ZF, OF, BF⟩ := hcut
      have q0 := (ZF.2 0 _ rfl).1
      have q1 := (ZF.2 1 _ rfl).1
      have HO := dHide OF
      have HB := dHide BF
      clear ZF OF BF n0 n1 z0 z1 f0 f1
      go_wp2_with fail
      refine bodyPost_ret (v := .tuple #[.agg #[.slice ua R.eras.length uc, .int .i64 R.trim], .int .i64 (R.eras.length : Int), .bool true]) (by simp [results, Tryd.results7, go_sem, q0, q1]) rfl ⟨⟨_, rfl, ⟨_, rfl, OwK.wide (dUnhide HO) s0 (Nat.le_refl _)⟩⟩, dUnhide HB⟩
end Go.Proofs.YtfipenjojgflmaaDoor
