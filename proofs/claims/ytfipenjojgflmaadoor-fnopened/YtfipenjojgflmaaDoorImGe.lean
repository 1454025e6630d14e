/- impl's: open. -/
import Derived.Test.YtfipenjojgflmaaDoorImGd
namespace Go.Proofs.YtfipenjojgflmaaDoor
open Go.ChangeShapes Go.WideShapes Go.ChangeAt Go.RowKit
set_option linter.unusedVariables false
set_option linter.unusedSimpArgs false
set_option maxRecDepth 100000

open Classical in
/-- The change of RegOpen. -/
noncomputable def openO (ds : List Int) (cop : Int) (m : Rg) (xs : List Int) : Option Rg := if openP ds cop m xs then some ⟨m.eras ++ [⟨xs, false, 0⟩], m.trim⟩ else none
set_option maxHeartbeats 8000000 in
theorem open_any (w : World) (lo b : Nat) (u : Value) (m : Rg) (sc v2 : Value) (ds xs : List Int) (cop : Int) (a0 a1 : Addr) (h : CpyAt w lo b u m) (hSh : Shp w b) (hS : Snt w a0 a1) (hlo : lo ≤ w.heap.size) (hc : Ns w sc ds) (hx : Ns w v2 xs) (had : allInt ds) (hax : allInt xs) (hld : ds.length ≤ 1048576) (hlx : xs.length ≤ 1048576) (c0 : -9223372036854775808 ≤ cop) (c1 : cop ≤ 9223372036854775807) (hs : m.eras.length ≤ 1048576) :
    Calls Tryd.prog 26 #[.pointer (some ⟨b, 0, none⟩), .agg #[sc, .int .i64 cop], v2] w fun e w' => ChgEnd a1 lo b (openO ds cop m xs) e w' ∧ Below lo w w' := by
  have CL := dHide fun W (hb : Below w.heap.size w W) => lastEpoch_any _ m W (h.rd.below hb)
  have CH := dHide fun W (hb : Below w.heap.size w W) => implHolds_any sc v2 ds xs cop W (hc.below hb) (hx.below hb) had hax hld hlx c0 c1
  have CN := dHide fun W (hb : Below w.heap.size w W) => cloneN_any v2 xs W (hx.below hb) hlx
  have H := dHide h
  have HSh := dHide hSh
  have HS := dHide hS
  have p0 := (h.1.2 0 _ rfl).1
  have p1 := (h.1.2 1 _ rfl).1
  have hblt := h.1.lt
  obtain ⟨a, c, rfl, -⟩ := h.slice
  have hlb := h.1.1
  obtain ⟨-, ca, cc, rfl, -, -⟩ := hc
  obtain ⟨-, va, vc, rfl, -, -⟩ := hx
  have NB : Hid (∀ W, Below w.heap.size w W → Below lo w W) := fun W b1 => ⟨b1.os, b1.tape, b1.output, b1.size, fun k hk => b1.block k (by omega)⟩
  have FIRST : Hid (∀ W, Below w.heap.size w W → W.cell? ⟨b, 0, none⟩ = some (.slice a m.eras.length c) ∧ W.cell? ⟨b, 1, none⟩ = some (.int .i64 m.trim)) := fun W hb => ⟨((dUnhide H).below hb).1.2 0 _ rfl |>.1, ((dUnhide H).below hb).1.2 1 _ rfl |>.1⟩
  have FIN : Hid (∀ W, Below w.heap.size w W → W.cell? ⟨1, 0, none⟩ = some (.iface 127 (.pointer (some a1)))) := fun W hb => ((dUnhide HS).below hb (Nat.le_refl _)).2.1
  have ba : ∀ (w : World) o, Below w.heap.size w (w.alloc o) := fun w o => (Below.refl _ _).alloc (Nat.le_refl _) o
  have X0 := Bx.new w [.slice ca ds.length cc, .int .i64 cop] 26
  have bA := ba w (.cells #[.slice ca ds.length cc, .int .i64 cop] 26)
  obtain ⟨r0, r1⟩ := dUnhide FIRST _ bA
  clear h hS
  by_cases h30 : m.eras.length = 30
  · have e0 : openO ds cop m xs = none := if_neg fun h => h.2 h30
    rw [e0]
    have hb1 : ((m.eras.length : Int) == 30) = true := by simp [h30]
    clear e0 h30
    go_enter Tryd.func26, Tryd.ntmps26
    go_wp2_with fail
    refine (dUnhide CL _ bA).mono ?_
    rintro e w1 ⟨rfl, b1⟩
    have b1' := belowThen bA b1
    have g1 := dUnhide FIN w1 b1'
    have BB := dHide (dUnhide NB w1 b1')
    clear CL X0 bA b1 b1' p0 p1 r0 r1
    go_wp2
    go_ret
    exact ⟨rfl, dUnhide BB⟩
  have hb1 : ((m.eras.length : Int) == 30) = false := by simp; omega
  by_cases hH : holdsP ds cop xs
  case neg =>
    have e0 : openO ds cop m xs = none := if_neg fun h => hH h.1
    rw [e0]
    have CH := dHide fun W hb => retB_no (dUnhide CH W hb) hH
    clear e0 hH
    go_enter Tryd.func26, Tryd.ntmps26
    go_wp2_with fail
    refine (dUnhide CL _ bA).mono ?_
    rintro e w1 ⟨rfl, b1⟩
    have b1' := belowThen bA b1
    have x0 := X0.below b1 0 _ rfl
    have x1 := X0.below b1 1 _ rfl
    clear CL X0 bA b1 p0 p1 r0 r1
    go_wp2_with fail
    refine (dUnhide CH _ b1').mono ?_
    rintro e w2 ⟨rfl, b2⟩
    have b2' := belowThen b1' b2
    have g1 := dUnhide FIN w2 b2'
    have BB := dHide (dUnhide NB w2 b2')
    clear x0 x1 b1' b2 b2' CH
    go_wp2
    go_ret
    exact ⟨rfl, dUnhide BB⟩
  have e0 : openO ds cop m xs = some ⟨m.eras ++ [⟨xs, false, 0⟩], m.trim⟩ := if_pos ⟨hH, h30⟩
  rw [e0]
  replace CH := dHide fun W hb => retB_yes (dUnhide CH W hb) hH
  clear e0 hH
  go_enter Tryd.func26, Tryd.ntmps26
  go_wp2_with fail
  refine (dUnhide CL _ bA).mono ?_
  rintro e w1 ⟨rfl, b1⟩
  have b1' := belowThen bA b1
  have x0 := X0.below b1 0 _ rfl
  have x1 := X0.below b1 1 _ rfl
  clear CL X0 bA b1 p0 p1 r0 r1
  go_wp2_with fail
  refine (dUnhide CH _ b1').mono ?_
  rintro e w2 ⟨rfl, b2⟩
  have b2' := belowThen b1' b2
  obtain ⟨p0, p1⟩ := dUnhide FIRST w2 b2'
  have H2 := dHide ((dUnhide H).below b2')
  obtain ⟨-, r0, m1, m2, m3, m4, m5, m6, m7⟩ := dUnhide H2
  have hl0 : r0.length = m.eras.length := by rw [← m1, List.length_map]
  have M := dHide (And.intro m1 (And.intro m2 (And.intro m3 (And.intro m4 (And.intro m5 (And.intro m6 m7))))))
  have s2 := b2'.size
  have hbr := Below.refl w2.heap.size w2
  clear x0 x1 b1' b2 CH m1 m2 m3 m4 m5 m6 m7 H
  go_wp2_with fail
  go_cut [28] (fun sv wx => ChgTo wx lo b ⟨m.eras ++ [⟨xs, false, 0⟩], m.trim⟩ ∧ Below lo w wx)
  case first =>
    refine wp_region_noPanic ?_
    refine wp_region_held_drew (S := fun _ => True) (by kernel_rfl) (trivial) (fun hHeld => ?_)
    refine wpAnyH_take (i := 0) (oi := { dst := some 19, op := Op.move (Operand.tmp 0), type := 51, pos := "l07_register.go:69", after := #[], guard := none }) (v := ?_) rfl (by kernel_rfl) (by kernel_rfl) (by kernel_rfl) (fun _ _ _ h => h) (Or.inl ⟨by rfl, ?_⟩) (by assumption) ?_
    rotate_left 1
    · intro w hSw
      (try dsimp only at hSw)
      first | (go_simp; done) | (go_simp; with_reducible rfl)
    try simp only [Act.put, List.setIfInBounds_toArray, List.set_cons_zero, List.set_cons_succ]
    refine wpAnyH_take (i := 1) (oi := { dst := some 20, op := Op.move (Operand.tmp 0), type := 51, pos := "l07_register.go:69", after := #[], guard := none }) (v := ?_) rfl (by kernel_rfl) (by kernel_rfl) (by kernel_rfl) (fun _ _ _ h => h) (Or.inl ⟨by rfl, ?_⟩) (by assumption) ?_
    rotate_left 1
    · intro w hSw
      (try dsimp only at hSw)
      first | (go_simp; done) | (go_simp; with_reducible rfl)
    try simp only [Act.put, List.setIfInBounds_toArray, List.set_cons_zero, List.set_cons_succ]
    refine wpAnyH_take (i := 2) (oi := { dst := some 21, op := Op.nilCheck (Operand.tmp 20), type := 0, pos := "l07_register.go:69", after := #[{ on := 1, ground := Ground.data }], guard := none }) (v := ?_) rfl (by kernel_rfl) (by kernel_rfl) (by kernel_rfl) (fun _ _ _ h => h) (Or.inl ⟨by rfl, ?_⟩) (by assumption) ?_
    rotate_left 1
    · intro w hSw
      (try dsimp only at hSw)
      first | (go_simp; done) | (go_simp; with_reducible rfl)
    try simp only [Act.put, List.setIfInBounds_toArray, List.set_cons_zero, List.set_cons_succ]
    refine wpAnyH_take (i := 3) (oi := { dst := some 22, op := Op.fieldAddr 29 (Operand.tmp 21) 0, type := 0, pos := "l07_register.go:69", after := #[{ on := 2, ground := Ground.data }], guard := none }) (v := ?_) rfl (by kernel_rfl) (by kernel_rfl) (by kernel_rfl) (fun _ _ _ h => h) (Or.inl ⟨by rfl, ?_⟩) (by assumption) ?_
    rotate_left 1
    · intro w hSw
      (try dsimp only at hSw)
      first | (go_simp; done) | (go_simp; with_reducible rfl)
    try simp only [Act.put, List.setIfInBounds_toArray, List.set_cons_zero, List.set_cons_succ]
    refine wpAnyH_take (i := 5) (oi := { dst := some 24, op := Op.move (Operand.tmp 2), type := 24, pos := "l07_register.go:69", after := #[], guard := none }) (v := ?_) rfl (by kernel_rfl) (by kernel_rfl) (by kernel_rfl) (fun _ _ _ h => h) (Or.inl ⟨by rfl, ?_⟩) (by assumption) ?_
    rotate_left 1
    · intro w hSw
      (try dsimp only at hSw)
      first | (go_simp; done) | (go_simp; with_reducible rfl)
    try simp only [Act.put, List.setIfInBounds_toArray, List.set_cons_zero, List.set_cons_succ]
    refine wpAnyH_ready (rs := [4, 6]) (by kernel_rfl) (by simp) ?_
    refine AllReadyH.cons (o := { dst := some 23, op := Op.load 27 (Operand.tmp 22), type := 27, pos := "l07_register.go:69", after := #[{ on := 3, ground := Ground.data }], guard := none }) rfl (fun K hK => ?_) (AllReadyH.cons (o := { dst := some 25, op := Op.call { callee := Callee.value (Operand.func 31), args := #[Operand.tmp 24], argTypes := #[24] }, type := 24, pos := "l07_register.go:69", after := #[{ on := 5, ground := Ground.data }], guard := none }) rfl (fun K hK => ?_) AllReadyH.nil)
    · go_simp
      refine hK.out _ _ (trivial) (fun hHeld => ?_)
      clear hK K
      try simp only [Act.put, List.setIfInBounds_toArray, List.set_cons_zero, List.set_cons_succ]
      refine wpAnyH_ready (rs := [6]) (by kernel_rfl) (by simp) ?_
      refine AllReadyH.cons (o := { dst := some 25, op := Op.call { callee := Callee.value (Operand.func 31), args := #[Operand.tmp 24], argTypes := #[24] }, type := 24, pos := "l07_register.go:69", after := #[{ on := 5, ground := Ground.data }], guard := none }) rfl (fun K hK => ?_) AllReadyH.nil
      go_simp
      refine (dUnhide CN _ (belowThen b2' hbr.drew)).mono ?_
      rintro e w5 ⟨⟨u5, rfl, O5⟩, b5⟩
      obtain ⟨-, ua5, uc5, rfl, -, -⟩ := O5.bs
      have b5' : Below w2.heap.size w2 w5 := belowThen hbr.drew b5
      have p5 := ((dUnhide H2).1.below b5').2 0 _ rfl |>.1
      have p6 := ((dUnhide H2).1.below (belowThen b5' (ba w5 (.cells #[.slice ua5 xs.length uc5, .bool false, .int .i64 0] 37)))).2 0 _ rfl |>.1
      have P6 := dHide (((dUnhide M).2.1.below b5').below (ba w5 (.cells #[.slice ua5 xs.length uc5, .bool false, .int .i64 0] 37)))
      have RO := dHide (rwR_one w5 ⟨ua5, uc5, xs, false, 0⟩ 37 1 (by omega))
      have HO5 : Hid (OwnN w5 w2.heap.size (.slice ua5 xs.length uc5) xs) := O5
      have sz5 := b5'.size
      clear O5
      (try go_wp2_with fail)
      refine hK.out _ _ (trivial) (fun hHeld => ?_)
      clear hK K
      try simp only [Act.put, List.setIfInBounds_toArray, List.set_cons_zero, List.set_cons_succ]
      refine wpAnyH_take (i := 7) (oi := { dst := some 26, op := Op.build 37 #[(0, Operand.tmp 25)], type := 37, pos := "l07_register.go:69", after := #[{ on := 6, ground := Ground.data }], guard := none }) (v := ?_) rfl (by kernel_rfl) (by kernel_rfl) (by kernel_rfl) (fun _ _ _ h => h) (Or.inl ⟨by rfl, ?_⟩) (by assumption) ?_
      rotate_left 1
      · intro w hSw
        (try dsimp only at hSw)
        first | (go_simp; done) | (go_simp; with_reducible rfl)
      try simp only [Act.put, List.setIfInBounds_toArray, List.set_cons_zero, List.set_cons_succ]
      refine wpAnyH_ready (rs := [8]) (by kernel_rfl) (by simp) ?_
      refine AllReadyH.cons (o := { dst := some 27, op := Op.buildSlice 27 1 #[(0, Operand.tmp 26)], type := 27, pos := "l07_register.go:69", after := #[{ on := 7, ground := Ground.data }], guard := none }) rfl (fun K hK => ?_) AllReadyH.nil
      go_simp
      refine hK.out _ _ (trivial) (fun hHeld => ?_)
      clear hK K
      try simp only [Act.put, List.setIfInBounds_toArray, List.set_cons_zero, List.set_cons_succ]
      refine wpAnyH_ready (rs := [9]) (by kernel_rfl) (by simp) ?_
      refine AllReadyH.cons (o := { dst := some 28, op := Op.call { callee := Callee.builtin Builtin.append, args := #[Operand.tmp 23, Operand.tmp 27], argTypes := #[27, 27] }, type := 27, pos := "l07_register.go:69", after := #[{ on := 4, ground := Ground.data }, { on := 8, ground := Ground.data }, { on := 6, ground := Ground.chain }], guard := none }) rfl (fun K hK => ?_) AllReadyH.nil
      refine step_apR elemR rfl _ _ rfl lo _ r0 rfl (dUnhide P6) _ [⟨ua5, uc5, xs, false, 0⟩] rfl (dUnhide RO) (by simp; omega) (by simp; omega) (by simp; omega) ?_
      intro v7 w7 P7 g7 t7
      obtain ⟨a7, c7, e7⟩ : ∃ a c, v7 = .slice a (m.eras.length + 1) c := by
        obtain ⟨a, c, e⟩ := ApR.slice elemR P7
        exact ⟨a, c, by rw [e]; simp [hl0]⟩
      subst e7
      have NN : Hid (∀ u, NAp (w7.setCell ⟨b, 0, none⟩ u) lo (.slice a7 (m.eras.length + 1) c7) (m.eras ++ [(⟨xs, false, 0⟩ : Er)])) := fun u => NAp.pushO (p := ⟨ua5, uc5, xs, false, 0⟩) (dUnhide M).1 (dUnhide M).2.1 (dUnhide M).2.2.1 (dUnhide M).2.2.2.1 (dUnhide M).2.2.2.2.1 (fun p hp => (((dUnhide M).2.2.1 p hp).below b5').below (ba _ _)) (by simp; omega) (by omega) (((dUnhide HO5).below (ba _ _))) P7 g7 t7 (fun e => by have := (dUnhide M).2.2.2.2.2.1 _ e; omega) (fun q hq => by
        rcases List.mem_append.1 hq with hq | hq
        · rcases (dUnhide M).2.2.2.2.2.2 q hq with h | h
          · exact .inl h
          · exact .inr (by omega)
        · obtain rfl : q = ⟨ua5, uc5, xs, false, 0⟩ := by simpa using hq
          rcases (dUnhide HO5).ge with h | h
          · exact .inl h
          · right
            have e9 : blockOf (Sv Er.nodes (⟨ua5, uc5, xs, false, 0⟩ : Nst Er)) = blockOf (.slice ua5 xs.length uc5) := rfl
            rw [e9]
            omega) (by simp; omega) u
      have OF7 := dHide ((((dUnhide H2).1.below b5').below (ba w5 (.cells #[.slice ua5 xs.length uc5, .bool false, .int .i64 0] 37))).grown g7 (fun e => by have := (dUnhide M).2.2.2.2.2.1 _ e; omega))
      have B7 := dHide ((((dUnhide NB w2 b2').trans (⟨b5'.os, b5'.tape, b5'.output, b5'.size, fun k hk => b5'.block k (by omega)⟩ : Below lo w2 w5)).trans (⟨rfl, rfl, rfl, (ba w5 (.cells #[.slice ua5 xs.length uc5, .bool false, .int .i64 0] 37)).size, fun k hk => (ba w5 _).block k (by omega)⟩ : Below lo w5 (w5.alloc (.cells #[.slice ua5 xs.length uc5, .bool false, .int .i64 0] 37)))).grown g7 (by simp; omega) (fun j hj => (dUnhide M).2.1.touched elemR hj |>.1))
      obtain ⟨i0, j0⟩ := (dUnhide OF7).2 0 _ rfl
      have SH : Hid (∀ u, Shp (w7.setCell ⟨b, 0, none⟩ u) b) := fun u => (((((dUnhide HSh).below b2').below b5').below (ba w5 (.cells #[.slice ua5 xs.length uc5, .bool false, .int .i64 0] 37))).of_block (g7.block b (by simp; omega) (fun e => by have := (dUnhide M).2.2.2.2.2.1 _ e.symm; omega))).set u
      refine hK.out _ _ (trivial) (fun hHeld => ?_)
      clear hK K
      try simp only [Act.put, List.setIfInBounds_toArray, List.set_cons_zero, List.set_cons_succ]
      refine wpAnyH_take (i := 10) (oi := { dst := some 29, op := Op.nilCheck (Operand.tmp 19), type := 0, pos := "l07_register.go:69", after := #[{ on := 0, ground := Ground.data }, { on := 0, ground := Ground.phase }, { on := 1, ground := Ground.phase }, { on := 2, ground := Ground.phase }, { on := 3, ground := Ground.phase }, { on := 4, ground := Ground.phase }, { on := 5, ground := Ground.phase }, { on := 6, ground := Ground.phase }, { on := 7, ground := Ground.phase }, { on := 8, ground := Ground.phase }, { on := 9, ground := Ground.phase }], guard := none }) (v := ?_) rfl (by kernel_rfl) (by kernel_rfl) (by kernel_rfl) (fun _ _ _ h => h) (Or.inl ⟨by rfl, ?_⟩) (by assumption) ?_
      rotate_left 1
      · intro w hSw
        (try dsimp only at hSw)
        first | (go_simp; done) | (go_simp; with_reducible rfl)
      try simp only [Act.put, List.setIfInBounds_toArray, List.set_cons_zero, List.set_cons_succ]
      refine wpAnyH_take (i := 11) (oi := { dst := some 30, op := Op.fieldAddr 29 (Operand.tmp 29) 0, type := 0, pos := "l07_register.go:69", after := #[{ on := 10, ground := Ground.data }, { on := 0, ground := Ground.phase }, { on := 1, ground := Ground.phase }, { on := 2, ground := Ground.phase }, { on := 3, ground := Ground.phase }, { on := 4, ground := Ground.phase }, { on := 5, ground := Ground.phase }, { on := 6, ground := Ground.phase }, { on := 7, ground := Ground.phase }, { on := 8, ground := Ground.phase }, { on := 9, ground := Ground.phase }], guard := none }) (v := ?_) rfl (by kernel_rfl) (by kernel_rfl) (by kernel_rfl) (fun _ _ _ h => h) (Or.inl ⟨by rfl, ?_⟩) (by assumption) ?_
      rotate_left 1
      · intro w hSw
        (try dsimp only at hSw)
        first | (go_simp; done) | (go_simp; with_reducible rfl)
      try simp only [Act.put, List.setIfInBounds_toArray, List.set_cons_zero, List.set_cons_succ]
      refine wpAnyH_ready (rs := [12]) (by kernel_rfl) (by simp) ?_
      refine AllReadyH.cons (o := { dst := none, op := Op.store 27 (Operand.tmp 30) (Operand.tmp 28), type := 0, pos := "l07_register.go:69", after := #[{ on := 11, ground := Ground.data }, { on := 9, ground := Ground.data }, { on := 9, ground := Ground.chain }, { on := 0, ground := Ground.phase }, { on := 1, ground := Ground.phase }, { on := 2, ground := Ground.phase }, { on := 3, ground := Ground.phase }, { on := 4, ground := Ground.phase }, { on := 5, ground := Ground.phase }, { on := 6, ground := Ground.phase }, { on := 7, ground := Ground.phase }, { on := 8, ground := Ground.phase }, { on := 9, ground := Ground.phase }], guard := none }) rfl (fun K hK => ?_) AllReadyH.nil
      go_simp
      refine hK.out _ _ (trivial) (fun hHeld => ?_)
      clear hK K
      try simp only [Act.put, List.setIfInBounds_toArray, List.set_cons_zero, List.set_cons_succ]
      refine wpAnyH_done (by kernel_rfl) ?_ _
      refine NoPanic.normal ?_
      go_wp2_with fail
      have el : (m.eras ++ [(⟨xs, false, 0⟩ : Er)]).length = m.eras.length + 1 := by simp
      go_meet
      case rel => exact ⟨⟨a7, c7, by simp only [el]; exact (dUnhide OF7).put 0 _, by simp only [el]; exact (dUnhide NN _).ow, dUnhide SH _⟩, (dUnhide B7).setCell (p := ⟨b, 0, none⟩) hlb _⟩
    · go_simp
      refine (dUnhide CN _ (belowThen b2' hbr.drew)).mono ?_
      rintro e w5 ⟨⟨u5, rfl, O5⟩, b5⟩
      obtain ⟨-, ua5, uc5, rfl, -, -⟩ := O5.bs
      have b5' : Below w2.heap.size w2 w5 := belowThen hbr.drew b5
      have p5 := ((dUnhide H2).1.below b5').2 0 _ rfl |>.1
      have p6 := ((dUnhide H2).1.below (belowThen b5' (ba w5 (.cells #[.slice ua5 xs.length uc5, .bool false, .int .i64 0] 37)))).2 0 _ rfl |>.1
      have P6 := dHide (((dUnhide M).2.1.below b5').below (ba w5 (.cells #[.slice ua5 xs.length uc5, .bool false, .int .i64 0] 37)))
      have RO := dHide (rwR_one w5 ⟨ua5, uc5, xs, false, 0⟩ 37 1 (by omega))
      have HO5 : Hid (OwnN w5 w2.heap.size (.slice ua5 xs.length uc5) xs) := O5
      have sz5 := b5'.size
      clear O5
      (try go_wp2_with fail)
      refine hK.out _ _ (trivial) (fun hHeld => ?_)
      clear hK K
      try simp only [Act.put, List.setIfInBounds_toArray, List.set_cons_zero, List.set_cons_succ]
      refine wpAnyH_take (i := 7) (oi := { dst := some 26, op := Op.build 37 #[(0, Operand.tmp 25)], type := 37, pos := "l07_register.go:69", after := #[{ on := 6, ground := Ground.data }], guard := none }) (v := ?_) rfl (by kernel_rfl) (by kernel_rfl) (by kernel_rfl) (fun _ _ _ h => h) (Or.inl ⟨by rfl, ?_⟩) (by assumption) ?_
      rotate_left 1
      · intro w hSw
        (try dsimp only at hSw)
        first | (go_simp; done) | (go_simp; with_reducible rfl)
      try simp only [Act.put, List.setIfInBounds_toArray, List.set_cons_zero, List.set_cons_succ]
      refine wpAnyH_ready (rs := [4, 8]) (by kernel_rfl) (by simp) ?_
      refine AllReadyH.cons (o := { dst := some 23, op := Op.load 27 (Operand.tmp 22), type := 27, pos := "l07_register.go:69", after := #[{ on := 3, ground := Ground.data }], guard := none }) rfl (fun K hK => ?_) (AllReadyH.cons (o := { dst := some 27, op := Op.buildSlice 27 1 #[(0, Operand.tmp 26)], type := 27, pos := "l07_register.go:69", after := #[{ on := 7, ground := Ground.data }], guard := none }) rfl (fun K hK => ?_) AllReadyH.nil)
      · go_simp
        refine hK.out _ _ (trivial) (fun hHeld => ?_)
        clear hK K
        try simp only [Act.put, List.setIfInBounds_toArray, List.set_cons_zero, List.set_cons_succ]
        refine wpAnyH_ready (rs := [8]) (by kernel_rfl) (by simp) ?_
        refine AllReadyH.cons (o := { dst := some 27, op := Op.buildSlice 27 1 #[(0, Operand.tmp 26)], type := 27, pos := "l07_register.go:69", after := #[{ on := 7, ground := Ground.data }], guard := none }) rfl (fun K hK => ?_) AllReadyH.nil
        go_simp
        refine hK.out _ _ (trivial) (fun hHeld => ?_)
        clear hK K
        try simp only [Act.put, List.setIfInBounds_toArray, List.set_cons_zero, List.set_cons_succ]
        refine wpAnyH_ready (rs := [9]) (by kernel_rfl) (by simp) ?_
        refine AllReadyH.cons (o := { dst := some 28, op := Op.call { callee := Callee.builtin Builtin.append, args := #[Operand.tmp 23, Operand.tmp 27], argTypes := #[27, 27] }, type := 27, pos := "l07_register.go:69", after := #[{ on := 4, ground := Ground.data }, { on := 8, ground := Ground.data }, { on := 6, ground := Ground.chain }], guard := none }) rfl (fun K hK => ?_) AllReadyH.nil
        refine step_apR elemR rfl _ _ rfl lo _ r0 rfl (dUnhide P6) _ [⟨ua5, uc5, xs, false, 0⟩] rfl (dUnhide RO) (by simp; omega) (by simp; omega) (by simp; omega) ?_
        intro v7 w7 P7 g7 t7
        obtain ⟨a7, c7, e7⟩ : ∃ a c, v7 = .slice a (m.eras.length + 1) c := by
          obtain ⟨a, c, e⟩ := ApR.slice elemR P7
          exact ⟨a, c, by rw [e]; simp [hl0]⟩
        subst e7
        have NN : Hid (∀ u, NAp (w7.setCell ⟨b, 0, none⟩ u) lo (.slice a7 (m.eras.length + 1) c7) (m.eras ++ [(⟨xs, false, 0⟩ : Er)])) := fun u => NAp.pushO (p := ⟨ua5, uc5, xs, false, 0⟩) (dUnhide M).1 (dUnhide M).2.1 (dUnhide M).2.2.1 (dUnhide M).2.2.2.1 (dUnhide M).2.2.2.2.1 (fun p hp => (((dUnhide M).2.2.1 p hp).below b5').below (ba _ _)) (by simp; omega) (by omega) (((dUnhide HO5).below (ba _ _))) P7 g7 t7 (fun e => by have := (dUnhide M).2.2.2.2.2.1 _ e; omega) (fun q hq => by
          rcases List.mem_append.1 hq with hq | hq
          · rcases (dUnhide M).2.2.2.2.2.2 q hq with h | h
            · exact .inl h
            · exact .inr (by omega)
          · obtain rfl : q = ⟨ua5, uc5, xs, false, 0⟩ := by simpa using hq
            rcases (dUnhide HO5).ge with h | h
            · exact .inl h
            · right
              have e9 : blockOf (Sv Er.nodes (⟨ua5, uc5, xs, false, 0⟩ : Nst Er)) = blockOf (.slice ua5 xs.length uc5) := rfl
              rw [e9]
              omega) (by simp; omega) u
        have OF7 := dHide ((((dUnhide H2).1.below b5').below (ba w5 (.cells #[.slice ua5 xs.length uc5, .bool false, .int .i64 0] 37))).grown g7 (fun e => by have := (dUnhide M).2.2.2.2.2.1 _ e; omega))
        have B7 := dHide ((((dUnhide NB w2 b2').trans (⟨b5'.os, b5'.tape, b5'.output, b5'.size, fun k hk => b5'.block k (by omega)⟩ : Below lo w2 w5)).trans (⟨rfl, rfl, rfl, (ba w5 (.cells #[.slice ua5 xs.length uc5, .bool false, .int .i64 0] 37)).size, fun k hk => (ba w5 _).block k (by omega)⟩ : Below lo w5 (w5.alloc (.cells #[.slice ua5 xs.length uc5, .bool false, .int .i64 0] 37)))).grown g7 (by simp; omega) (fun j hj => (dUnhide M).2.1.touched elemR hj |>.1))
        obtain ⟨i0, j0⟩ := (dUnhide OF7).2 0 _ rfl
        have SH : Hid (∀ u, Shp (w7.setCell ⟨b, 0, none⟩ u) b) := fun u => (((((dUnhide HSh).below b2').below b5').below (ba w5 (.cells #[.slice ua5 xs.length uc5, .bool false, .int .i64 0] 37))).of_block (g7.block b (by simp; omega) (fun e => by have := (dUnhide M).2.2.2.2.2.1 _ e.symm; omega))).set u
        refine hK.out _ _ (trivial) (fun hHeld => ?_)
        clear hK K
        try simp only [Act.put, List.setIfInBounds_toArray, List.set_cons_zero, List.set_cons_succ]
        refine wpAnyH_take (i := 10) (oi := { dst := some 29, op := Op.nilCheck (Operand.tmp 19), type := 0, pos := "l07_register.go:69", after := #[{ on := 0, ground := Ground.data }, { on := 0, ground := Ground.phase }, { on := 1, ground := Ground.phase }, { on := 2, ground := Ground.phase }, { on := 3, ground := Ground.phase }, { on := 4, ground := Ground.phase }, { on := 5, ground := Ground.phase }, { on := 6, ground := Ground.phase }, { on := 7, ground := Ground.phase }, { on := 8, ground := Ground.phase }, { on := 9, ground := Ground.phase }], guard := none }) (v := ?_) rfl (by kernel_rfl) (by kernel_rfl) (by kernel_rfl) (fun _ _ _ h => h) (Or.inl ⟨by rfl, ?_⟩) (by assumption) ?_
        rotate_left 1
        · intro w hSw
          (try dsimp only at hSw)
          first | (go_simp; done) | (go_simp; with_reducible rfl)
        try simp only [Act.put, List.setIfInBounds_toArray, List.set_cons_zero, List.set_cons_succ]
        refine wpAnyH_take (i := 11) (oi := { dst := some 30, op := Op.fieldAddr 29 (Operand.tmp 29) 0, type := 0, pos := "l07_register.go:69", after := #[{ on := 10, ground := Ground.data }, { on := 0, ground := Ground.phase }, { on := 1, ground := Ground.phase }, { on := 2, ground := Ground.phase }, { on := 3, ground := Ground.phase }, { on := 4, ground := Ground.phase }, { on := 5, ground := Ground.phase }, { on := 6, ground := Ground.phase }, { on := 7, ground := Ground.phase }, { on := 8, ground := Ground.phase }, { on := 9, ground := Ground.phase }], guard := none }) (v := ?_) rfl (by kernel_rfl) (by kernel_rfl) (by kernel_rfl) (fun _ _ _ h => h) (Or.inl ⟨by rfl, ?_⟩) (by assumption) ?_
        rotate_left 1
        · intro w hSw
          (try dsimp only at hSw)
          first | (go_simp; done) | (go_simp; with_reducible rfl)
        try simp only [Act.put, List.setIfInBounds_toArray, List.set_cons_zero, List.set_cons_succ]
        refine wpAnyH_ready (rs := [12]) (by kernel_rfl) (by simp) ?_
        refine AllReadyH.cons (o := { dst := none, op := Op.store 27 (Operand.tmp 30) (Operand.tmp 28), type := 0, pos := "l07_register.go:69", after := #[{ on := 11, ground := Ground.data }, { on := 9, ground := Ground.data }, { on := 9, ground := Ground.chain }, { on := 0, ground := Ground.phase }, { on := 1, ground := Ground.phase }, { on := 2, ground := Ground.phase }, { on := 3, ground := Ground.phase }, { on := 4, ground := Ground.phase }, { on := 5, ground := Ground.phase }, { on := 6, ground := Ground.phase }, { on := 7, ground := Ground.phase }, { on := 8, ground := Ground.phase }, { on := 9, ground := Ground.phase }], guard := none }) rfl (fun K hK => ?_) AllReadyH.nil
        go_simp
        refine hK.out _ _ (trivial) (fun hHeld => ?_)
        clear hK K
        try simp only [Act.put, List.setIfInBounds_toArray, List.set_cons_zero, List.set_cons_succ]
        refine wpAnyH_done (by kernel_rfl) ?_ _
        refine NoPanic.normal ?_
        go_wp2_with fail
        have el : (m.eras ++ [(⟨xs, false, 0⟩ : Er)]).length = m.eras.length + 1 := by simp
        go_meet
        case rel => exact ⟨⟨a7, c7, by simp only [el]; exact (dUnhide OF7).put 0 _, by simp only [el]; exact (dUnhide NN _).ow, dUnhide SH _⟩, (dUnhide B7).setCell (p := ⟨b, 0, none⟩) hlb _⟩
      · go_simp
        refine hK.out _ _ (trivial) (fun hHeld => ?_)
        clear hK K
        try simp only [Act.put, List.setIfInBounds_toArray, List.set_cons_zero, List.set_cons_succ]
        refine wpAnyH_ready (rs := [4]) (by kernel_rfl) (by simp) ?_
        refine AllReadyH.cons (o := { dst := some 23, op := Op.load 27 (Operand.tmp 22), type := 27, pos := "l07_register.go:69", after := #[{ on := 3, ground := Ground.data }], guard := none }) rfl (fun K hK => ?_) AllReadyH.nil
        go_simp
        refine hK.out _ _ (trivial) (fun hHeld => ?_)
        clear hK K
        try simp only [Act.put, List.setIfInBounds_toArray, List.set_cons_zero, List.set_cons_succ]
        refine wpAnyH_ready (rs := [9]) (by kernel_rfl) (by simp) ?_
        refine AllReadyH.cons (o := { dst := some 28, op := Op.call { callee := Callee.builtin Builtin.append, args := #[Operand.tmp 23, Operand.tmp 27], argTypes := #[27, 27] }, type := 27, pos := "l07_register.go:69", after := #[{ on := 4, ground := Ground.data }, { on := 8, ground := Ground.data }, { on := 6, ground := Ground.chain }], guard := none }) rfl (fun K hK => ?_) AllReadyH.nil
        refine step_apR elemR rfl _ _ rfl lo _ r0 rfl (dUnhide P6) _ [⟨ua5, uc5, xs, false, 0⟩] rfl (dUnhide RO) (by simp; omega) (by simp; omega) (by simp; omega) ?_
        intro v7 w7 P7 g7 t7
        obtain ⟨a7, c7, e7⟩ : ∃ a c, v7 = .slice a (m.eras.length + 1) c := by
          obtain ⟨a, c, e⟩ := ApR.slice elemR P7
          exact ⟨a, c, by rw [e]; simp [hl0]⟩
        subst e7
        have NN : Hid (∀ u, NAp (w7.setCell ⟨b, 0, none⟩ u) lo (.slice a7 (m.eras.length + 1) c7) (m.eras ++ [(⟨xs, false, 0⟩ : Er)])) := fun u => NAp.pushO (p := ⟨ua5, uc5, xs, false, 0⟩) (dUnhide M).1 (dUnhide M).2.1 (dUnhide M).2.2.1 (dUnhide M).2.2.2.1 (dUnhide M).2.2.2.2.1 (fun p hp => (((dUnhide M).2.2.1 p hp).below b5').below (ba _ _)) (by simp; omega) (by omega) (((dUnhide HO5).below (ba _ _))) P7 g7 t7 (fun e => by have := (dUnhide M).2.2.2.2.2.1 _ e; omega) (fun q hq => by
          rcases List.mem_append.1 hq with hq | hq
          · rcases (dUnhide M).2.2.2.2.2.2 q hq with h | h
            · exact .inl h
            · exact .inr (by omega)
          · obtain rfl : q = ⟨ua5, uc5, xs, false, 0⟩ := by simpa using hq
            rcases (dUnhide HO5).ge with h | h
            · exact .inl h
            · right
              have e9 : blockOf (Sv Er.nodes (⟨ua5, uc5, xs, false, 0⟩ : Nst Er)) = blockOf (.slice ua5 xs.length uc5) := rfl
              rw [e9]
              omega) (by simp; omega) u
        have OF7 := dHide ((((dUnhide H2).1.below b5').below (ba w5 (.cells #[.slice ua5 xs.length uc5, .bool false, .int .i64 0] 37))).grown g7 (fun e => by have := (dUnhide M).2.2.2.2.2.1 _ e; omega))
        have B7 := dHide ((((dUnhide NB w2 b2').trans (⟨b5'.os, b5'.tape, b5'.output, b5'.size, fun k hk => b5'.block k (by omega)⟩ : Below lo w2 w5)).trans (⟨rfl, rfl, rfl, (ba w5 (.cells #[.slice ua5 xs.length uc5, .bool false, .int .i64 0] 37)).size, fun k hk => (ba w5 _).block k (by omega)⟩ : Below lo w5 (w5.alloc (.cells #[.slice ua5 xs.length uc5, .bool false, .int .i64 0] 37)))).grown g7 (by simp; omega) (fun j hj => (dUnhide M).2.1.touched elemR hj |>.1))
        obtain ⟨i0, j0⟩ := (dUnhide OF7).2 0 _ rfl
        have SH : Hid (∀ u, Shp (w7.setCell ⟨b, 0, none⟩ u) b) := fun u => (((((dUnhide HSh).below b2').below b5').below (ba w5 (.cells #[.slice ua5 xs.length uc5, .bool false, .int .i64 0] 37))).of_block (g7.block b (by simp; omega) (fun e => by have := (dUnhide M).2.2.2.2.2.1 _ e.symm; omega))).set u
        refine hK.out _ _ (trivial) (fun hHeld => ?_)
        clear hK K
        try simp only [Act.put, List.setIfInBounds_toArray, List.set_cons_zero, List.set_cons_succ]
        refine wpAnyH_take (i := 10) (oi := { dst := some 29, op := Op.nilCheck (Operand.tmp 19), type := 0, pos := "l07_register.go:69", after := #[{ on := 0, ground := Ground.data }, { on := 0, ground := Ground.phase }, { on := 1, ground := Ground.phase }, { on := 2, ground := Ground.phase }, { on := 3, ground := Ground.phase }, { on := 4, ground := Ground.phase }, { on := 5, ground := Ground.phase }, { on := 6, ground := Ground.phase }, { on := 7, ground := Ground.phase }, { on := 8, ground := Ground.phase }, { on := 9, ground := Ground.phase }], guard := none }) (v := ?_) rfl (by kernel_rfl) (by kernel_rfl) (by kernel_rfl) (fun _ _ _ h => h) (Or.inl ⟨by rfl, ?_⟩) (by assumption) ?_
        rotate_left 1
        · intro w hSw
          (try dsimp only at hSw)
          first | (go_simp; done) | (go_simp; with_reducible rfl)
        try simp only [Act.put, List.setIfInBounds_toArray, List.set_cons_zero, List.set_cons_succ]
        refine wpAnyH_take (i := 11) (oi := { dst := some 30, op := Op.fieldAddr 29 (Operand.tmp 29) 0, type := 0, pos := "l07_register.go:69", after := #[{ on := 10, ground := Ground.data }, { on := 0, ground := Ground.phase }, { on := 1, ground := Ground.phase }, { on := 2, ground := Ground.phase }, { on := 3, ground := Ground.phase }, { on := 4, ground := Ground.phase }, { on := 5, ground := Ground.phase }, { on := 6, ground := Ground.phase }, { on := 7, ground := Ground.phase }, { on := 8, ground := Ground.phase }, { on := 9, ground := Ground.phase }], guard := none }) (v := ?_) rfl (by kernel_rfl) (by kernel_rfl) (by kernel_rfl) (fun _ _ _ h => h) (Or.inl ⟨by rfl, ?_⟩) (by assumption) ?_
        rotate_left 1
        · intro w hSw
          (try dsimp only at hSw)
          first | (go_simp; done) | (go_simp; with_reducible rfl)
        try simp only [Act.put, List.setIfInBounds_toArray, List.set_cons_zero, List.set_cons_succ]
        refine wpAnyH_ready (rs := [12]) (by kernel_rfl) (by simp) ?_
        refine AllReadyH.cons (o := { dst := none, op := Op.store 27 (Operand.tmp 30) (Operand.tmp 28), type := 0, pos := "l07_register.go:69", after := #[{ on := 11, ground := Ground.data }, { on := 9, ground := Ground.data }, { on := 9, ground := Ground.chain }, { on := 0, ground := Ground.phase }, { on := 1, ground := Ground.phase }, { on := 2, ground := Ground.phase }, { on := 3, ground := Ground.phase }, { on := 4, ground := Ground.phase }, { on := 5, ground := Ground.phase }, { on := 6, ground := Ground.phase }, { on := 7, ground := Ground.phase }, { on := 8, ground := Ground.phase }, { on := 9, ground := Ground.phase }], guard := none }) rfl (fun K hK => ?_) AllReadyH.nil
        go_simp
        refine hK.out _ _ (trivial) (fun hHeld => ?_)
        clear hK K
        try simp only [Act.put, List.setIfInBounds_toArray, List.set_cons_zero, List.set_cons_succ]
        refine wpAnyH_done (by kernel_rfl) ?_ _
        refine NoPanic.normal ?_
        go_wp2_with fail
        have el : (m.eras ++ [(⟨xs, false, 0⟩ : Er)]).length = m.eras.length + 1 := by simp
        go_meet
        case rel => exact ⟨⟨a7, c7, by simp only [el]; exact (dUnhide OF7).put 0 _, by simp only [el]; exact (dUnhide NN _).ow, dUnhide SH _⟩, (dUnhide B7).setCell (p := ⟨b, 0, none⟩) hlb _⟩
  case rest =>
    obtain ⟨G, BF⟩ := hcut
    have HG := dHide G
    have HB := dHide BF
    clear G BF p0 p1
    go_wp2
    go_ret
    exact ⟨⟨rfl, dUnhide HG⟩, dUnhide HB⟩
end Go.Proofs.YtfipenjojgflmaaDoor
