/- impl's Enough. -/
import Derived.Test.YtapfdmmfhfkhkaaGreatImpDf
namespace Go.Proofs.YtapfdmmfhfkhkaaGreat
open Go.ChangeShapes Go.WideShapes Go.ChangeAt Go.RowKit
set_option linter.unusedVariables false

theorem allInt_less {xs ys : List Int} (h : allInt xs) : allInt (lessL xs ys) := fun x hx => h x (List.mem_filter.1 hx).1
set_option maxHeartbeats 4000000 in
theorem implEnough_any (sv u v : Value) (ds xs ys : List Int) (cop : Int) (w : World) (hd : Ns w sv ds) (hu : Ns w u xs) (hv : Ns w v ys) (had : allInt ds) (hax : allInt xs) (hay : allInt ys) (hld : ds.length ≤ 1048576) (hlx : xs.length ≤ 1048576) (hly : ys.length ≤ 1048576) (c0 : -9223372036854775808 ≤ cop) (c1 : cop ≤ 9223372036854775807) :
    Calls Tryz.prog 34 #[.agg #[sv, .int .i64 cop], u, v] w fun e w' => RetB (enoughP ds cop xs ys) e ∧ Below w.heap.size w w' := by
  have hb0 : ∀ o, Below w.heap.size w (w.alloc o) := fun o => (Below.refl _ _).alloc (Nat.le_refl _) o
  have C1 := dHide fun W (hb : Below w.heap.size w W) => implNodes_any sv v ds ys cop W (hd.below hb) (hv.below hb) had hay hld hly c0 c1
  have C2 := dHide fun W (hb : Below w.heap.size w W) => implHolds_any sv u ds xs cop W (hd.below hb) (hu.below hb) had hax hld hlx c0 c1
  have C3 := dHide fun (hm : nodesP ds cop ys) W (hb : Below w.heap.size w W) => dedL_nodes hm ▸ setOf_any v ys W (hv.below hb) hay hly
  have C4 := dHide fun (hn : nodesP ds cop xs) W (hb : Below w.heap.size w W) => dedL_nodes hn ▸ setOf_any u xs W (hu.below hb) hax hlx
  have C5 := dHide fun b c W hb hc => setWithin_any b c ys xs W hb hc
  have C6 := dHide fun (hn : nodesP ds cop xs) (hm : nodesP ds cop ys) W (hb : Below w.heap.size w W) => implRest_yes sv u v ds xs ys cop W (hd.below hb) (hu.below hb) (hv.below hb) had hax hay hld hlx hly c0 c1 hn hm
  have C7 := dHide fun W (hb : Below w.heap.size w W) o (ho : Ns W o (lessL xs ys)) => implHolds_any sv o ds (lessL xs ys) cop W (hd.below hb) ho had (allInt_less hax) hld (Nat.le_trans (lessL_len _ _) hlx) c0 c1
  clear had hax hay
  obtain ⟨h0, a, cap, rfl, -, -⟩ := hd
  obtain ⟨h0', a', cap', rfl, -, -⟩ := hu
  obtain ⟨h0'', a'', cap'', rfl, -, -⟩ := hv
  go_enter Tryz.func34, Tryz.ntmps34
  go_wp2_with fail
  have T0 := Two.new w (.slice a ds.length cap) (.int .i64 cop) 26
  refine (dUnhide C1 _ (hb0 _)).mono ?_
  rintro e w1 ⟨hr, b1⟩
  have T1 := T0.kept b1
  have HT1 := dHide T1
  obtain ⟨k0, k1⟩ := T1
  have B1 := belowThen (hb0 _) b1
  clear b1 hb0 C1 T0
  by_cases hm : nodesP ds cop ys
  · obtain rfl := hr.of_yes hm
    have HM := dHide hm
    clear hr hm
    go_wp2_with fail
    refine (dUnhide C2 _ B1).mono ?_
    rintro e w2 ⟨hr, b2⟩
    have T2 := (dUnhide HT1).kept b2
    have HT := dHide T2
    have B2 := belowThen B1 b2
    clear b2 B1 C2 k0 k1 HT1
    by_cases hh : holdsP ds cop xs
    · obtain rfl := hr.of_yes hh
      have HH := dHide hh
      have CL := dHide (dUnhide C3 (dUnhide HM))
      have CS := dHide (dUnhide C4 hh.1)
      have CR := dHide (dUnhide C6 hh.1 (dUnhide HM))
      clear hr hh C3 C4 C6
      obtain ⟨k0, k1⟩ := T2
      go_wp2_with fail
      have hbr := Below.refl w2.heap.size w2
      by_cases hz : lessL ys xs = []
      · have HIN := dHide (lessL_nil.1 hz)
        have R : ∀ bb : Bool, (bb = true ↔ holdsP ds cop (lessL xs ys)) → RetB (enoughP ds cop xs ys) (.returned (.bool (!bb))) := fun bb hbb => by
          refine ⟨_, rfl, fun h => ⟨dUnhide HH, dUnhide HM, hz, ?_⟩, fun h => ?_⟩
          · cases bb
            · rcases Int.lt_or_le (spanN ds (lessL xs ys) : Int) cop with hlt | hge
              · exact hlt
              · exact absurd (hbb.2 ⟨nodesP_less (dUnhide HH).1, hge⟩) (by simp)
            · cases h
          · cases bb
            · rfl
            · have := (hbb.1 rfl).2
              have := h.2.2.2
              omega
        have HR := dHide R
        clear hz HH HM R
        go_region_held3 (fun W => W.cell? ⟨w.heap.size, 0, none⟩ = some (.slice a ds.length cap) ∧ W.cell? ⟨w.heap.size, 1, none⟩ = some (.int .i64 cop)) (go_keep)
          (first
            | (go_at_call 109; refine (dUnhide CS _ (belowThen B2 hb4)).mono ?_; rintro e w5 ⟨rfl, s5, b5⟩; have hb5 := belowThen hb4 b5; have S4 := s4.below b5; obtain ⟨q0, q1⟩ := (dUnhide HT).kept hb5)
            | (go_at_call 109; refine (dUnhide CL _ (belowThen B2 hbr.drew)).mono ?_; rintro e w4 ⟨rfl, s4, b4⟩; have hb4 := belowThen hbr.drew b4; obtain ⟨q0, q1⟩ := (dUnhide HT).kept hb4)
            | (go_at_call 110; refine (dUnhide C5 _ _ _ S4 s5).mono ?_; rintro e w6 ⟨hr6, b6⟩; obtain rfl := hr6.of_yes (dUnhide HIN); have hb6 := belowThen hb5 b6; obtain ⟨q0, q1⟩ := (dUnhide HT).kept hb6)
            | (go_at_call 111; refine (dUnhide CR _ (belowThen B2 hb6)).mono ?_; rintro e w7 ⟨⟨o7, rfl, r7⟩, b7⟩; have hb7 := belowThen hb6 b7; have n7 := dHide r7.bs; obtain ⟨q0, q1⟩ := (dUnhide HT).kept hb7)
            | (go_at_call 27; refine (dUnhide C7 _ (belowThen B2 hb7) _ (dUnhide n7)).mono ?_; rintro e w8 ⟨⟨bb, rfl, hbb⟩, b8⟩; have hb8 := belowThen hb7 b8; have R8 := dUnhide HR bb hbb; clear hbb; obtain ⟨q0, q1⟩ := (dUnhide HT).kept hb8))
        all_goals
          go_wp2
          go_ret
          exact ⟨R8, belowThen B2 hb8⟩
      · have HIN : Hid (¬ ∀ x ∈ ys, x ∈ xs) := fun h => hz (lessL_nil.2 h)
        have R : RetB (enoughP ds cop xs ys) (.returned (.bool false)) := RetB.no fun h => hz h.2.2.1
        clear hz HH HM
        refine wp_region_noPanic ?_
        refine wp_region_held_drew (S := (fun W => W.cell? ⟨w.heap.size, 0, none⟩ = some (.slice a ds.length cap) ∧ W.cell? ⟨w.heap.size, 1, none⟩ = some (.int .i64 cop))) (by kernel_rfl) ?_ (fun hHeld => ?_)
        · go_keep
        refine wpAnyH_take (i := 0) (oi := { dst := some 17, op := Op.move (Operand.tmp 2), type := 24, pos := "l04_domain.go:122", after := #[], guard := none }) (v := ?_) rfl (by kernel_rfl) (by kernel_rfl) (by kernel_rfl) (fun _ _ _ h => h) (Or.inl ⟨by rfl, ?_⟩) (by assumption) ?_
        rotate_left 1
        · intro w hSw
          (try dsimp only at hSw)
          first | (go_simp; done) | (go_simp; with_reducible rfl)
        try simp only [Act.put, List.setIfInBounds_toArray, List.set_cons_zero, List.set_cons_succ]
        refine wpAnyH_take (i := 2) (oi := { dst := some 19, op := Op.move (Operand.tmp 1), type := 24, pos := "l04_domain.go:122", after := #[], guard := none }) (v := ?_) rfl (by kernel_rfl) (by kernel_rfl) (by kernel_rfl) (fun _ _ _ h => h) (Or.inl ⟨by rfl, ?_⟩) (by assumption) ?_
        rotate_left 1
        · intro w hSw
          (try dsimp only at hSw)
          first | (go_simp; done) | (go_simp; with_reducible rfl)
        try simp only [Act.put, List.setIfInBounds_toArray, List.set_cons_zero, List.set_cons_succ]
        refine wpAnyH_ready (rs := [1]) (by kernel_rfl) (by simp) ?_
        refine AllReadyH.cons (o := { dst := some 18, op := Op.call { callee := Callee.value (Operand.func 109), args := #[Operand.tmp 17], argTypes := #[24] }, type := 150, pos := "l04_domain.go:122", after := #[{ on := 0, ground := Ground.data }], guard := none }) rfl (fun K hK => ?_) AllReadyH.nil
        go_simp
        refine (dUnhide CL _ (belowThen B2 hbr.drew)).mono ?_
        rintro e w4 ⟨rfl, s4, b4⟩
        have hb4 := belowThen hbr.drew b4
        obtain ⟨q0, q1⟩ := (dUnhide HT).kept hb4
        (try go_wp2_with fail)
        refine hK.out _ _ ?_ (fun hHeld => ?_)
        · go_keep
        clear hK K
        try simp only [Act.put, List.setIfInBounds_toArray, List.set_cons_zero, List.set_cons_succ]
        refine wpAnyH_ready (rs := [3]) (by kernel_rfl) (by simp) ?_
        refine AllReadyH.cons (o := { dst := some 20, op := Op.call { callee := Callee.value (Operand.func 109), args := #[Operand.tmp 19], argTypes := #[24] }, type := 150, pos := "l04_domain.go:122", after := #[{ on := 2, ground := Ground.data }, { on := 1, ground := Ground.chain }], guard := none }) rfl (fun K hK => ?_) AllReadyH.nil
        go_simp
        refine (dUnhide CS _ (belowThen B2 hb4)).mono ?_
        rintro e w5 ⟨rfl, s5, b5⟩
        have hb5 := belowThen hb4 b5
        have S4 := s4.below b5
        obtain ⟨q0, q1⟩ := (dUnhide HT).kept hb5
        (try go_wp2_with fail)
        refine hK.out _ _ ?_ (fun hHeld => ?_)
        · go_keep
        clear hK K
        try simp only [Act.put, List.setIfInBounds_toArray, List.set_cons_zero, List.set_cons_succ]
        refine wpAnyH_ready (rs := [4]) (by kernel_rfl) (by simp) ?_
        refine AllReadyH.cons (o := { dst := some 21, op := Op.call { callee := Callee.value (Operand.func 110), args := #[Operand.tmp 18, Operand.tmp 20], argTypes := #[150, 150] }, type := 4, pos := "l04_domain.go:122", after := #[{ on := 1, ground := Ground.data }, { on := 3, ground := Ground.data }, { on := 3, ground := Ground.chain }], guard := none }) rfl (fun K hK => ?_) AllReadyH.nil
        go_simp
        refine (dUnhide C5 _ _ _ S4 s5).mono ?_
        rintro e w6 ⟨hr6, b6⟩
        obtain rfl := hr6.of_no (dUnhide HIN)
        have hb6 := belowThen hb5 b6
        obtain ⟨q0, q1⟩ := (dUnhide HT).kept hb6
        (try go_wp2_with fail)
        refine hK.out _ _ ?_ (fun hHeld => ?_)
        · go_keep
        clear hK K
        try simp only [Act.put, List.setIfInBounds_toArray, List.set_cons_zero, List.set_cons_succ]
        refine wpAnyH_take (i := 5) (oi := { dst := some 22, op := Op.move (Operand.tmp 21), type := 4, pos := "l04_domain.go:122", after := #[{ on := 4, ground := Ground.data }, { on := 4, ground := Ground.chain }], guard := none }) (v := ?_) rfl (by kernel_rfl) (by kernel_rfl) (by kernel_rfl) (fun _ _ _ h => h) (Or.inl ⟨by rfl, ?_⟩) (by assumption) ?_
        rotate_left 1
        · intro w hSw
          (try dsimp only at hSw)
          first | (go_simp; done) | (go_simp; with_reducible rfl)
        try simp only [Act.put, List.setIfInBounds_toArray, List.set_cons_zero, List.set_cons_succ]
        refine wpAnyH_take (i := 6) (oi := { dst := some 23, op := Op.load 26 (Operand.tmp 3), type := 26, pos := "l04_domain.go:122", after := #[{ on := 5, ground := Ground.guard }], guard := some (5, true) }) (v := undef) rfl (by kernel_rfl) (by kernel_rfl) (by kernel_rfl) (fun _ _ _ h => h) (Or.inr ⟨by rfl, rfl⟩) (by assumption) ?_
        try simp only [Act.put, List.setIfInBounds_toArray, List.set_cons_zero, List.set_cons_succ]
        refine wpAnyH_take (i := 7) (oi := { dst := some 24, op := Op.load 26 (Operand.tmp 3), type := 26, pos := "l04_domain.go:122", after := #[{ on := 5, ground := Ground.guard }], guard := some (5, true) }) (v := undef) rfl (by kernel_rfl) (by kernel_rfl) (by kernel_rfl) (fun _ _ _ h => h) (Or.inr ⟨by rfl, rfl⟩) (by assumption) ?_
        try simp only [Act.put, List.setIfInBounds_toArray, List.set_cons_zero, List.set_cons_succ]
        refine wpAnyH_take (i := 8) (oi := { dst := some 25, op := Op.move (Operand.tmp 1), type := 24, pos := "l04_domain.go:122", after := #[{ on := 5, ground := Ground.guard }], guard := some (5, true) }) (v := undef) rfl (by kernel_rfl) (by kernel_rfl) (by kernel_rfl) (fun _ _ _ h => h) (Or.inr ⟨by rfl, rfl⟩) (by assumption) ?_
        try simp only [Act.put, List.setIfInBounds_toArray, List.set_cons_zero, List.set_cons_succ]
        refine wpAnyH_take (i := 9) (oi := { dst := some 26, op := Op.move (Operand.tmp 2), type := 24, pos := "l04_domain.go:122", after := #[{ on := 5, ground := Ground.guard }], guard := some (5, true) }) (v := undef) rfl (by kernel_rfl) (by kernel_rfl) (by kernel_rfl) (fun _ _ _ h => h) (Or.inr ⟨by rfl, rfl⟩) (by assumption) ?_
        try simp only [Act.put, List.setIfInBounds_toArray, List.set_cons_zero, List.set_cons_succ]
        refine wpAnyH_take (i := 10) (oi := { dst := some 27, op := Op.call { callee := Callee.value (Operand.func 111), args := #[Operand.tmp 24, Operand.tmp 25, Operand.tmp 26], argTypes := #[26, 24, 24] }, type := 24, pos := "l04_domain.go:122", after := #[{ on := 7, ground := Ground.data }, { on := 8, ground := Ground.data }, { on := 9, ground := Ground.data }, { on := 5, ground := Ground.chain }, { on := 5, ground := Ground.guard }], guard := some (5, true) }) (v := undef) rfl (by kernel_rfl) (by kernel_rfl) (by kernel_rfl) (fun _ _ _ h => h) (Or.inr ⟨by rfl, rfl⟩) (by assumption) ?_
        try simp only [Act.put, List.setIfInBounds_toArray, List.set_cons_zero, List.set_cons_succ]
        refine wpAnyH_take (i := 11) (oi := { dst := some 28, op := Op.call { callee := Callee.value (Operand.func 27), args := #[Operand.tmp 23, Operand.tmp 27], argTypes := #[26, 24] }, type := 4, pos := "l04_domain.go:122", after := #[{ on := 6, ground := Ground.data }, { on := 10, ground := Ground.data }, { on := 10, ground := Ground.chain }, { on := 5, ground := Ground.guard }], guard := some (5, true) }) (v := undef) rfl (by kernel_rfl) (by kernel_rfl) (by kernel_rfl) (fun _ _ _ h => h) (Or.inr ⟨by rfl, rfl⟩) (by assumption) ?_
        try simp only [Act.put, List.setIfInBounds_toArray, List.set_cons_zero, List.set_cons_succ]
        refine wpAnyH_take (i := 12) (oi := { dst := some 29, op := Op.unOp UnOp.not 4 (Operand.tmp 28), type := 4, pos := "l04_domain.go:122", after := #[{ on := 11, ground := Ground.data }, { on := 5, ground := Ground.guard }], guard := some (5, true) }) (v := undef) rfl (by kernel_rfl) (by kernel_rfl) (by kernel_rfl) (fun _ _ _ h => h) (Or.inr ⟨by rfl, rfl⟩) (by assumption) ?_
        try simp only [Act.put, List.setIfInBounds_toArray, List.set_cons_zero, List.set_cons_succ]
        refine wpAnyH_take (i := 13) (oi := { dst := some 30, op := Op.pick (Operand.tmp 22) (Operand.tmp 29) (Operand.const (Value.bool false)), type := 4, pos := "l04_domain.go:122", after := #[{ on := 5, ground := Ground.data }, { on := 12, ground := Ground.data }], guard := none }) (v := ?_) rfl (by kernel_rfl) (by kernel_rfl) (by kernel_rfl) (fun _ _ _ h => h) (Or.inl ⟨by rfl, ?_⟩) (by assumption) ?_
        rotate_left 1
        · intro w hSw
          (try dsimp only at hSw)
          first | (go_simp; done) | (go_simp; with_reducible rfl)
        try simp only [Act.put, List.setIfInBounds_toArray, List.set_cons_zero, List.set_cons_succ]
        refine wpAnyH_take (i := 14) (oi := { dst := some 6, op := Op.assign (Operand.tmp 30), type := 4, pos := "l04_domain.go:122", after := #[{ on := 13, ground := Ground.data }, { on := 11, ground := Ground.chain }, { on := 0, ground := Ground.phase }, { on := 1, ground := Ground.phase }, { on := 2, ground := Ground.phase }, { on := 3, ground := Ground.phase }, { on := 4, ground := Ground.phase }, { on := 5, ground := Ground.phase }, { on := 6, ground := Ground.phase }, { on := 7, ground := Ground.phase }, { on := 8, ground := Ground.phase }, { on := 9, ground := Ground.phase }, { on := 10, ground := Ground.phase }, { on := 11, ground := Ground.phase }, { on := 12, ground := Ground.phase }, { on := 13, ground := Ground.phase }], guard := none }) (v := ?_) rfl (by kernel_rfl) (by kernel_rfl) (by kernel_rfl) (fun _ _ _ h => h) (Or.inl ⟨by rfl, ?_⟩) (by assumption) ?_
        rotate_left 1
        · intro w hSw
          (try dsimp only at hSw)
          first | (go_simp; done) | (go_simp; with_reducible rfl)
        try simp only [Act.put, List.setIfInBounds_toArray, List.set_cons_zero, List.set_cons_succ]
        refine wpAnyH_done (by kernel_rfl) ?_ _
        refine NoPanic.normal ?_
        go_wp2
        go_ret
        exact ⟨R, belowThen B2 hb6⟩
    · obtain rfl := hr.of_no hh
      have R : RetB (enoughP ds cop xs ys) (.returned (.bool false)) := RetB.no fun h => hh h.1
      clear hr hh
      go_wp2
      go_ret
      exact ⟨R, B2⟩
  · obtain rfl := hr.of_no hm
    have R : RetB (enoughP ds cop xs ys) (.returned (.bool false)) := RetB.no fun h => hm h.2.1
    clear hr hm
    go_wp2
    go_ret
    exact ⟨R, B1⟩
end Go.Proofs.YtapfdmmfhfkhkaaGreat
