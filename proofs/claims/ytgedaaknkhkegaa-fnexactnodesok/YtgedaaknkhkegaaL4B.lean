/- The walks of the laws FnExactNodesOk, FnExactHolds, FnExactSpanOf (printed by tools/gen4b.py). -/
import Derived.Test.YtgedaaknkhkegaaL4A
namespace Go.Proofs.Ytgedaaknkhkegaa
open Go.ChangeShapes Go.WideShapes Go.ChangeAt Go.RowKit
set_option linter.unusedVariables false

theorem bothFnExactNodesOk (ds xs : List Int) (cop : Int) (hall : allInt ds) (hallx : allInt xs) (hl : ds.length ≤ 1048576) (hlx : xs.length ≤ 1048576) (c0 : -9223372036854775808 ≤ cop) (c1 : cop ≤ 9223372036854775807) :
    ∃ bb : Bool, (∀ W o l, Ns W o ds → Ns W l xs → Calls Try.prog 24 #[.agg #[o, .int .i64 cop], l] W fun e w' => e = .returned (.bool bb) ∧ Below W.heap.size W w') ∧
      (∀ W o l, Ns W o ds → Ns W l xs → Calls Try.prog 25 #[.agg #[o, .int .i64 cop], l] W fun e w' => e = .returned (.bool bb) ∧ Below W.heap.size W w') := by
  by_cases h : nodesP ds cop xs
  · exact ⟨true, fun W o l ho hx => (specNodes_any o l ds xs cop W ho hx).mono fun e w' ⟨h1, h2⟩ => ⟨h1.of_yes h, h2⟩, fun W o l ho hx => (implNodes_any o l ds xs cop W ho hx hall hallx hl hlx c0 c1).mono fun e w' ⟨h1, h2⟩ => ⟨h1.of_yes h, h2⟩⟩
  · exact ⟨false, fun W o l ho hx => (specNodes_any o l ds xs cop W ho hx).mono fun e w' ⟨h1, h2⟩ => ⟨h1.of_no h, h2⟩, fun W o l ho hx => (implNodes_any o l ds xs cop W ho hx hall hallx hl hlx c0 c1).mono fun e w' ⟨h1, h2⟩ => ⟨h1.of_no h, h2⟩⟩
set_option maxHeartbeats 4000000 in
theorem walkFnExactNodesOk (v v' : Value) (c : List Int × Int) (xs : List Int) (w : World) (i : CfgIs w v c) (i' : Ns w v' xs ∧ allInt xs) :
    Calls Try.prog 7 #[v, v'] w fun r w' => r = .returned (.bool true) ∧ Below w.heap.size w w' := by
  obtain ⟨⟨sv, rfl, hv⟩, hall, c0, c1⟩ := i
  obtain ⟨hx, hallx⟩ := i'
  obtain ⟨ds, cop⟩ := c
  simp only at hv hall c0 c1 ⊢
  have ha : ∀ (w : World) o, Below w.heap.size w (w.alloc o) := fun w o => (Below.refl _ _).alloc (Nat.le_refl _) o
  have CS := dHide fun W (hb : Below w.heap.size w W) => szConfig_any sv ds cop 1048576 (by omega) (by omega) W (hv.below hb)
  have hle := hv.1
  have hlx := hx.1
  by_cases hbig : (1048576 : Int) < (xs.length : Int)
  · obtain ⟨h0, a, cap, rfl, -, -⟩ := hv
    obtain ⟨h0', a', cap', rfl, -, -⟩ := hx
    clear CS
    go_enter Try.func7, Try.ntmps7
    go_wp2
    go_ret
    exact ⟨rfl, ha w _⟩
  by_cases hs : (1048576 : Int) < (ds.length : Int)
  · have e1 : left1 ds.length 1048576 = -1 := by rw [left1, if_pos hs]
    rw [e1] at CS
    clear e1 hs
    obtain ⟨h0, a, cap, rfl, -, -⟩ := hv
    obtain ⟨h0', a', cap', rfl, -, -⟩ := hx
    go_enter Try.func7, Try.ntmps7
    go_wp2_with fail
    refine (dUnhide CS _ (ha _ _)).mono ?_
    rintro e w1 ⟨rfl, b1⟩
    have B1 := belowThen (ha w _) b1
    clear b1 ha CS
    go_wp2
    go_ret
    exact ⟨rfl, B1⟩
  · have e1 : left1 ds.length 1048576 = 1048576 - (ds.length : Int) := by rw [left1, if_neg hs]
    rw [e1] at CS
    have hs' : ¬ ((1048576 : Int) - (ds.length : Int) < 0) := by omega
    have CT := dHide fun W (hb : Below w.heap.size w W) => toConfig_any sv ds cop W (hv.below hb) (by omega)
    have CL := dHide fun W (hb : Below w.heap.size w W) => toIntS_any v' xs W (by omega) (hx.below hb)
    have CE := dHide fun W o o' (ho : Ns W o ds) (ho' : Ns W o' ds) => eqConfig_yes o o' ds cop W ho ho'
    have CX := dHide fun W o o' (ho : Ns W o xs) (ho' : Ns W o' xs) => eqIntS_yes o o' xs W ho ho'
    obtain ⟨bb, p1, p2⟩ := bothFnExactNodesOk ds xs cop hall hallx (by omega) (by omega) c0 c1
    have CP := dHide p1
    have CI := dHide p2
    clear e1 hs hall hallx p1 p2
    obtain ⟨h0, a, cap, rfl, -, -⟩ := hv
    obtain ⟨h0', a', cap', rfl, -, -⟩ := hx
    go_enter Try.func7, Try.ntmps7
    go_wp2_with fail
    have T0 := Two.new w (.slice a ds.length cap) (.int .i64 cop) 39
    refine (dUnhide CS _ (ha _ _)).mono ?_
    rintro e w1 ⟨rfl, b1⟩
    have T1 := T0.kept b1
    have H1 := dHide T1
    obtain ⟨k0, k1⟩ := T1
    have B1 := belowThen (ha w _) b1
    clear b1 CS T0
    go_wp2_with fail
    refine (dUnhide CT _ B1).mono ?_
    rintro e w2 ⟨⟨o2, rfl, q2⟩, b2⟩
    have H2 := dHide ((dUnhide H1).kept b2)
    have B2 := belowThen B1 b2
    have n2 := dHide q2.bs
    clear k0 k1 H1 b2 B1 q2
    go_wp2_with fail
    refine (dUnhide CL _ B2).mono ?_
    rintro e w2b ⟨⟨l2, rfl, m2⟩, b2b⟩
    have H2b := dHide ((dUnhide H2).kept b2b)
    have B2b := belowThen B2 b2b
    have n2b := (dUnhide n2).below b2b
    clear H2 b2b B2 n2
    go_wp2_with fail
    refine (dUnhide CP _ _ _ n2b m2.bs).mono ?_
    rintro e w3 ⟨rfl, b3⟩
    have T3 := (dUnhide H2b).kept b3
    have H3 := dHide T3
    have B3 := belowThen B2b b3
    clear H2b b3 B2b n2b CP m2
    obtain ⟨k0, k1⟩ := T3
    go_wp2_with fail
    refine (dUnhide CT _ B3).mono ?_
    rintro e w4 ⟨⟨o4, rfl, q4⟩, b4⟩
    have H4 := dHide ((dUnhide H3).kept b4)
    have B4 := belowThen B3 b4
    have n4 := q4.bs
    clear k0 k1 H3 b4 B3 q4
    obtain ⟨-, a4, cap4, rfl, -, -⟩ := id n4
    go_wp2_with fail
    have X5 := dHide (Two.new w4 (.slice a4 ds.length cap4) (.int .i64 cop) 26)
    have H5 := dHide ((dUnhide H4).kept (ha w4 (.cells #[.slice a4 ds.length cap4, .int .i64 cop] 26)))
    have B5 := belowThen B4 (ha w4 (.cells #[.slice a4 ds.length cap4, .int .i64 cop] 26))
    have n5 := dHide (n4.below (ha w4 (.cells #[.slice a4 ds.length cap4, .int .i64 cop] 26)))
    generalize hbx : w4.heap.size = bx at *
    generalize w4.alloc (.cells #[.slice a4 ds.length cap4, .int .i64 cop] 26) = w5 at *
    clear hbx H4 B4 n4
    refine (dUnhide CL _ B5).mono ?_
    rintro e w6 ⟨⟨l6, rfl, m6⟩, b6⟩
    have X6 := (dUnhide X5).kept b6
    have HX6 := dHide X6
    have H6 := dHide ((dUnhide H5).kept b6)
    have B6 := belowThen B5 b6
    have n6 := (dUnhide n5).below b6
    have N6 := dHide n6
    have M6 := dHide m6.bs
    clear X5 H5 B5 n5 b6
    obtain ⟨k0, k1⟩ := X6
    go_wp2_with fail
    refine (dUnhide CI _ _ _ n6 m6.bs).mono ?_
    rintro e w7 ⟨rfl, b7⟩
    have X7 := dHide ((dUnhide HX6).kept b7)
    have H7 := dHide ((dUnhide H6).kept b7)
    have B7 := belowThen B6 b7
    have N7 := dHide ((dUnhide N6).below b7)
    have M7 := dHide ((dUnhide M6).below b7)
    clear HX6 H6 B6 N6 M6 b7 n6 m6 CI k0 k1
    obtain ⟨k0, k1⟩ := id (dUnhide X7)
    obtain ⟨j0, j1⟩ := id (dUnhide H7)
    have hbr := Below.refl w7.heap.size w7
    cases bb
    all_goals
      go_wp2_with fail
      go_cut [37] (fun sv wx => sv = .bool false ∧ Below w7.heap.size w7 wx)
      case first =>
        go_region_held3 (fun W => W.cell? ⟨bx, 0, none⟩ = some (.slice a4 ds.length cap4) ∧ W.cell? ⟨bx, 1, none⟩ = some (.int .i64 cop) ∧ W.cell? ⟨w.heap.size, 0, none⟩ = some (.slice a ds.length cap) ∧ W.cell? ⟨w.heap.size, 1, none⟩ = some (.int .i64 cop)) (go_keep)
          (first
            | (go_at_call 32; refine (dUnhide CT _ (belowThen B7 hbr.drew)).mono ?_; rintro e w8 ⟨⟨o8, rfl, q8⟩, b8⟩; have hb8 := belowThen hbr.drew b8; obtain ⟨k0, k1⟩ := (dUnhide X7).kept hb8; obtain ⟨j0, j1⟩ := (dUnhide H7).kept hb8; have m8 := dHide ((dUnhide N7).below hb8); have n8 := dHide q8.bs)
            | (go_at_call 33; refine (dUnhide CE _ _ _ (dUnhide m8) (dUnhide n8)).mono ?_; rintro e w9 ⟨rfl, b9⟩; have hb9 := belowThen hb8 b9; obtain ⟨k0, k1⟩ := (dUnhide X7).kept hb9; obtain ⟨j0, j1⟩ := (dUnhide H7).kept hb9))
        all_goals
          go_wp2_with fail
          go_meet
          case rel => exact ⟨rfl, hb9⟩
      case rest =>
        obtain ⟨rfl, bc⟩ := hcut
        have B8 := belowThen B7 bc
        have M8 := dHide ((dUnhide M7).below bc)
        generalize hwc : wc = w8 at *
        clear hwc bc
        go_wp2_with fail
        refine (dUnhide CL _ B8).mono ?_
        rintro e w9 ⟨⟨l9, rfl, m9⟩, b9⟩
        have B9 := belowThen B8 b9
        have M9 := (dUnhide M8).below b9
        go_wp2_with fail
        refine (dUnhide CX _ _ _ M9 m9.bs).mono ?_
        rintro e w10 ⟨rfl, b10⟩
        have B10 := belowThen B9 b10
        clear b10 B9 M9 m9 b9 M8 B8
        go_wp2
        go_ret
        exact ⟨rfl, B10⟩
theorem bothFnExactHolds (ds xs : List Int) (cop : Int) (hall : allInt ds) (hallx : allInt xs) (hl : ds.length ≤ 1048576) (hlx : xs.length ≤ 1048576) (c0 : -9223372036854775808 ≤ cop) (c1 : cop ≤ 9223372036854775807) :
    ∃ bb : Bool, (∀ W o l, Ns W o ds → Ns W l xs → Calls Try.prog 17 #[.agg #[o, .int .i64 cop], l] W fun e w' => e = .returned (.bool bb) ∧ Below W.heap.size W w') ∧
      (∀ W o l, Ns W o ds → Ns W l xs → Calls Try.prog 16 #[.agg #[o, .int .i64 cop], l] W fun e w' => e = .returned (.bool bb) ∧ Below W.heap.size W w') := by
  by_cases h : holdsP ds cop xs
  · exact ⟨true, fun W o l ho hx => (specHolds_any o l ds xs cop W ho hx (by omega)).mono fun e w' ⟨h1, h2⟩ => ⟨h1.of_yes h, h2⟩, fun W o l ho hx => (implHolds_any o l ds xs cop W ho hx hall hallx hl hlx c0 c1).mono fun e w' ⟨h1, h2⟩ => ⟨h1.of_yes h, h2⟩⟩
  · exact ⟨false, fun W o l ho hx => (specHolds_any o l ds xs cop W ho hx (by omega)).mono fun e w' ⟨h1, h2⟩ => ⟨h1.of_no h, h2⟩, fun W o l ho hx => (implHolds_any o l ds xs cop W ho hx hall hallx hl hlx c0 c1).mono fun e w' ⟨h1, h2⟩ => ⟨h1.of_no h, h2⟩⟩
set_option maxHeartbeats 4000000 in
theorem walkFnExactHolds (v v' : Value) (c : List Int × Int) (xs : List Int) (w : World) (i : CfgIs w v c) (i' : Ns w v' xs ∧ allInt xs) :
    Calls Try.prog 9 #[v, v'] w fun r w' => r = .returned (.bool true) ∧ Below w.heap.size w w' := by
  obtain ⟨⟨sv, rfl, hv⟩, hall, c0, c1⟩ := i
  obtain ⟨hx, hallx⟩ := i'
  obtain ⟨ds, cop⟩ := c
  simp only at hv hall c0 c1 ⊢
  have ha : ∀ (w : World) o, Below w.heap.size w (w.alloc o) := fun w o => (Below.refl _ _).alloc (Nat.le_refl _) o
  have CS := dHide fun W (hb : Below w.heap.size w W) => szConfig_any sv ds cop 1048576 (by omega) (by omega) W (hv.below hb)
  have hle := hv.1
  have hlx := hx.1
  by_cases hbig : (1048576 : Int) < (xs.length : Int)
  · obtain ⟨h0, a, cap, rfl, -, -⟩ := hv
    obtain ⟨h0', a', cap', rfl, -, -⟩ := hx
    clear CS
    go_enter Try.func9, Try.ntmps9
    go_wp2
    go_ret
    exact ⟨rfl, ha w _⟩
  by_cases hs : (1048576 : Int) < (ds.length : Int)
  · have e1 : left1 ds.length 1048576 = -1 := by rw [left1, if_pos hs]
    rw [e1] at CS
    clear e1 hs
    obtain ⟨h0, a, cap, rfl, -, -⟩ := hv
    obtain ⟨h0', a', cap', rfl, -, -⟩ := hx
    go_enter Try.func9, Try.ntmps9
    go_wp2_with fail
    refine (dUnhide CS _ (ha _ _)).mono ?_
    rintro e w1 ⟨rfl, b1⟩
    have B1 := belowThen (ha w _) b1
    clear b1 ha CS
    go_wp2
    go_ret
    exact ⟨rfl, B1⟩
  · have e1 : left1 ds.length 1048576 = 1048576 - (ds.length : Int) := by rw [left1, if_neg hs]
    rw [e1] at CS
    have hs' : ¬ ((1048576 : Int) - (ds.length : Int) < 0) := by omega
    have CT := dHide fun W (hb : Below w.heap.size w W) => toConfig_any sv ds cop W (hv.below hb) (by omega)
    have CL := dHide fun W (hb : Below w.heap.size w W) => toIntS_any v' xs W (by omega) (hx.below hb)
    have CE := dHide fun W o o' (ho : Ns W o ds) (ho' : Ns W o' ds) => eqConfig_yes o o' ds cop W ho ho'
    have CX := dHide fun W o o' (ho : Ns W o xs) (ho' : Ns W o' xs) => eqIntS_yes o o' xs W ho ho'
    obtain ⟨bb, p1, p2⟩ := bothFnExactHolds ds xs cop hall hallx (by omega) (by omega) c0 c1
    have CP := dHide p1
    have CI := dHide p2
    clear e1 hs hall hallx p1 p2
    obtain ⟨h0, a, cap, rfl, -, -⟩ := hv
    obtain ⟨h0', a', cap', rfl, -, -⟩ := hx
    go_enter Try.func9, Try.ntmps9
    go_wp2_with fail
    have T0 := Two.new w (.slice a ds.length cap) (.int .i64 cop) 39
    refine (dUnhide CS _ (ha _ _)).mono ?_
    rintro e w1 ⟨rfl, b1⟩
    have T1 := T0.kept b1
    have H1 := dHide T1
    obtain ⟨k0, k1⟩ := T1
    have B1 := belowThen (ha w _) b1
    clear b1 CS T0
    go_wp2_with fail
    refine (dUnhide CT _ B1).mono ?_
    rintro e w2 ⟨⟨o2, rfl, q2⟩, b2⟩
    have H2 := dHide ((dUnhide H1).kept b2)
    have B2 := belowThen B1 b2
    have n2 := dHide q2.bs
    clear k0 k1 H1 b2 B1 q2
    go_wp2_with fail
    refine (dUnhide CL _ B2).mono ?_
    rintro e w2b ⟨⟨l2, rfl, m2⟩, b2b⟩
    have H2b := dHide ((dUnhide H2).kept b2b)
    have B2b := belowThen B2 b2b
    have n2b := (dUnhide n2).below b2b
    clear H2 b2b B2 n2
    go_wp2_with fail
    refine (dUnhide CP _ _ _ n2b m2.bs).mono ?_
    rintro e w3 ⟨rfl, b3⟩
    have T3 := (dUnhide H2b).kept b3
    have H3 := dHide T3
    have B3 := belowThen B2b b3
    clear H2b b3 B2b n2b CP m2
    obtain ⟨k0, k1⟩ := T3
    go_wp2_with fail
    refine (dUnhide CT _ B3).mono ?_
    rintro e w4 ⟨⟨o4, rfl, q4⟩, b4⟩
    have H4 := dHide ((dUnhide H3).kept b4)
    have B4 := belowThen B3 b4
    have n4 := q4.bs
    clear k0 k1 H3 b4 B3 q4
    obtain ⟨-, a4, cap4, rfl, -, -⟩ := id n4
    go_wp2_with fail
    have X5 := dHide (Two.new w4 (.slice a4 ds.length cap4) (.int .i64 cop) 26)
    have H5 := dHide ((dUnhide H4).kept (ha w4 (.cells #[.slice a4 ds.length cap4, .int .i64 cop] 26)))
    have B5 := belowThen B4 (ha w4 (.cells #[.slice a4 ds.length cap4, .int .i64 cop] 26))
    have n5 := dHide (n4.below (ha w4 (.cells #[.slice a4 ds.length cap4, .int .i64 cop] 26)))
    generalize hbx : w4.heap.size = bx at *
    generalize w4.alloc (.cells #[.slice a4 ds.length cap4, .int .i64 cop] 26) = w5 at *
    clear hbx H4 B4 n4
    refine (dUnhide CL _ B5).mono ?_
    rintro e w6 ⟨⟨l6, rfl, m6⟩, b6⟩
    have X6 := (dUnhide X5).kept b6
    have HX6 := dHide X6
    have H6 := dHide ((dUnhide H5).kept b6)
    have B6 := belowThen B5 b6
    have n6 := (dUnhide n5).below b6
    have N6 := dHide n6
    have M6 := dHide m6.bs
    clear X5 H5 B5 n5 b6
    obtain ⟨k0, k1⟩ := X6
    go_wp2_with fail
    refine (dUnhide CI _ _ _ n6 m6.bs).mono ?_
    rintro e w7 ⟨rfl, b7⟩
    have X7 := dHide ((dUnhide HX6).kept b7)
    have H7 := dHide ((dUnhide H6).kept b7)
    have B7 := belowThen B6 b7
    have N7 := dHide ((dUnhide N6).below b7)
    have M7 := dHide ((dUnhide M6).below b7)
    clear HX6 H6 B6 N6 M6 b7 n6 m6 CI k0 k1
    obtain ⟨k0, k1⟩ := id (dUnhide X7)
    obtain ⟨j0, j1⟩ := id (dUnhide H7)
    have hbr := Below.refl w7.heap.size w7
    cases bb
    all_goals
      go_wp2_with fail
      go_cut [37] (fun sv wx => sv = .bool false ∧ Below w7.heap.size w7 wx)
      case first =>
        go_region_held3 (fun W => W.cell? ⟨bx, 0, none⟩ = some (.slice a4 ds.length cap4) ∧ W.cell? ⟨bx, 1, none⟩ = some (.int .i64 cop) ∧ W.cell? ⟨w.heap.size, 0, none⟩ = some (.slice a ds.length cap) ∧ W.cell? ⟨w.heap.size, 1, none⟩ = some (.int .i64 cop)) (go_keep)
          (first
            | (go_at_call 32; refine (dUnhide CT _ (belowThen B7 hbr.drew)).mono ?_; rintro e w8 ⟨⟨o8, rfl, q8⟩, b8⟩; have hb8 := belowThen hbr.drew b8; obtain ⟨k0, k1⟩ := (dUnhide X7).kept hb8; obtain ⟨j0, j1⟩ := (dUnhide H7).kept hb8; have m8 := dHide ((dUnhide N7).below hb8); have n8 := dHide q8.bs)
            | (go_at_call 33; refine (dUnhide CE _ _ _ (dUnhide m8) (dUnhide n8)).mono ?_; rintro e w9 ⟨rfl, b9⟩; have hb9 := belowThen hb8 b9; obtain ⟨k0, k1⟩ := (dUnhide X7).kept hb9; obtain ⟨j0, j1⟩ := (dUnhide H7).kept hb9))
        all_goals
          go_wp2_with fail
          go_meet
          case rel => exact ⟨rfl, hb9⟩
      case rest =>
        obtain ⟨rfl, bc⟩ := hcut
        have B8 := belowThen B7 bc
        have M8 := dHide ((dUnhide M7).below bc)
        generalize hwc : wc = w8 at *
        clear hwc bc
        go_wp2_with fail
        refine (dUnhide CL _ B8).mono ?_
        rintro e w9 ⟨⟨l9, rfl, m9⟩, b9⟩
        have B9 := belowThen B8 b9
        have M9 := (dUnhide M8).below b9
        go_wp2_with fail
        refine (dUnhide CX _ _ _ M9 m9.bs).mono ?_
        rintro e w10 ⟨rfl, b10⟩
        have B10 := belowThen B9 b10
        clear b10 B9 M9 m9 b9 M8 B8
        go_wp2
        go_ret
        exact ⟨rfl, B10⟩
theorem bothFnExactSpanOf (ds xs : List Int) (cop : Int) (hall : allInt ds) (hallx : allInt xs) (hl : ds.length ≤ 1048576) (hlx : xs.length ≤ 1048576) (c0 : -9223372036854775808 ≤ cop) (c1 : cop ≤ 9223372036854775807) :
    ∃ nn : Int, (∀ W o l, Ns W o ds → Ns W l xs → Calls Try.prog 28 #[.agg #[o, .int .i64 cop], l] W fun e w' => e = .returned (.int .i64 nn) ∧ Below W.heap.size W w') ∧
      (∀ W o l, Ns W o ds → Ns W l xs → Calls Try.prog 26 #[.agg #[o, .int .i64 cop], l] W fun e w' => e = .returned (.int .i64 nn) ∧ Below W.heap.size W w') := by
  by_cases h : nodesP ds cop xs
  · exact ⟨(spanN ds xs : Int), fun W o l ho hx => specSpan_yes o l ds xs cop W ho hx h (by omega), fun W o l ho hx => implSpan_yes o l ds xs cop W ho hx hall hallx hl hlx c0 c1 h⟩
  · exact ⟨-1, fun W o l ho hx => specSpan_no o l ds xs cop W ho hx h, fun W o l ho hx => implSpan_no o l ds xs cop W ho hx hall hallx hl hlx c0 c1 h⟩
set_option maxHeartbeats 4000000 in
theorem walkFnExactSpanOf (v v' : Value) (c : List Int × Int) (xs : List Int) (w : World) (i : CfgIs w v c) (i' : Ns w v' xs ∧ allInt xs) :
    Calls Try.prog 8 #[v, v'] w fun r w' => r = .returned (.bool true) ∧ Below w.heap.size w w' := by
  obtain ⟨⟨sv, rfl, hv⟩, hall, c0, c1⟩ := i
  obtain ⟨hx, hallx⟩ := i'
  obtain ⟨ds, cop⟩ := c
  simp only at hv hall c0 c1 ⊢
  have ha : ∀ (w : World) o, Below w.heap.size w (w.alloc o) := fun w o => (Below.refl _ _).alloc (Nat.le_refl _) o
  have CS := dHide fun W (hb : Below w.heap.size w W) => szConfig_any sv ds cop 1048576 (by omega) (by omega) W (hv.below hb)
  have hle := hv.1
  have hlx := hx.1
  by_cases hbig : (1048576 : Int) < (xs.length : Int)
  · obtain ⟨h0, a, cap, rfl, -, -⟩ := hv
    obtain ⟨h0', a', cap', rfl, -, -⟩ := hx
    clear CS
    go_enter Try.func8, Try.ntmps8
    go_wp2
    go_ret
    exact ⟨rfl, ha w _⟩
  by_cases hs : (1048576 : Int) < (ds.length : Int)
  · have e1 : left1 ds.length 1048576 = -1 := by rw [left1, if_pos hs]
    rw [e1] at CS
    clear e1 hs
    obtain ⟨h0, a, cap, rfl, -, -⟩ := hv
    obtain ⟨h0', a', cap', rfl, -, -⟩ := hx
    go_enter Try.func8, Try.ntmps8
    go_wp2_with fail
    refine (dUnhide CS _ (ha _ _)).mono ?_
    rintro e w1 ⟨rfl, b1⟩
    have B1 := belowThen (ha w _) b1
    clear b1 ha CS
    go_wp2
    go_ret
    exact ⟨rfl, B1⟩
  · have e1 : left1 ds.length 1048576 = 1048576 - (ds.length : Int) := by rw [left1, if_neg hs]
    rw [e1] at CS
    have hs' : ¬ ((1048576 : Int) - (ds.length : Int) < 0) := by omega
    have CT := dHide fun W (hb : Below w.heap.size w W) => toConfig_any sv ds cop W (hv.below hb) (by omega)
    have CL := dHide fun W (hb : Below w.heap.size w W) => toIntS_any v' xs W (by omega) (hx.below hb)
    have CE := dHide fun W o o' (ho : Ns W o ds) (ho' : Ns W o' ds) => eqConfig_yes o o' ds cop W ho ho'
    have CX := dHide fun W o o' (ho : Ns W o xs) (ho' : Ns W o' xs) => eqIntS_yes o o' xs W ho ho'
    obtain ⟨nn, p1, p2⟩ := bothFnExactSpanOf ds xs cop hall hallx (by omega) (by omega) c0 c1
    have CP := dHide p1
    have CI := dHide p2
    clear e1 hs hall hallx p1 p2
    obtain ⟨h0, a, cap, rfl, -, -⟩ := hv
    obtain ⟨h0', a', cap', rfl, -, -⟩ := hx
    go_enter Try.func8, Try.ntmps8
    go_wp2_with fail
    have T0 := Two.new w (.slice a ds.length cap) (.int .i64 cop) 39
    refine (dUnhide CS _ (ha _ _)).mono ?_
    rintro e w1 ⟨rfl, b1⟩
    have T1 := T0.kept b1
    have H1 := dHide T1
    obtain ⟨k0, k1⟩ := T1
    have B1 := belowThen (ha w _) b1
    clear b1 CS T0
    go_wp2_with fail
    refine (dUnhide CT _ B1).mono ?_
    rintro e w2 ⟨⟨o2, rfl, q2⟩, b2⟩
    have H2 := dHide ((dUnhide H1).kept b2)
    have B2 := belowThen B1 b2
    have n2 := dHide q2.bs
    clear k0 k1 H1 b2 B1 q2
    go_wp2_with fail
    refine (dUnhide CL _ B2).mono ?_
    rintro e w2b ⟨⟨l2, rfl, m2⟩, b2b⟩
    have H2b := dHide ((dUnhide H2).kept b2b)
    have B2b := belowThen B2 b2b
    have n2b := (dUnhide n2).below b2b
    clear H2 b2b B2 n2
    go_wp2_with fail
    refine (dUnhide CP _ _ _ n2b m2.bs).mono ?_
    rintro e w3 ⟨rfl, b3⟩
    have T3 := (dUnhide H2b).kept b3
    have H3 := dHide T3
    have B3 := belowThen B2b b3
    clear H2b b3 B2b n2b CP m2
    obtain ⟨k0, k1⟩ := T3
    go_wp2_with fail
    refine (dUnhide CT _ B3).mono ?_
    rintro e w4 ⟨⟨o4, rfl, q4⟩, b4⟩
    have H4 := dHide ((dUnhide H3).kept b4)
    have B4 := belowThen B3 b4
    have n4 := q4.bs
    clear k0 k1 H3 b4 B3 q4
    obtain ⟨-, a4, cap4, rfl, -, -⟩ := id n4
    go_wp2_with fail
    have X5 := dHide (Two.new w4 (.slice a4 ds.length cap4) (.int .i64 cop) 26)
    have H5 := dHide ((dUnhide H4).kept (ha w4 (.cells #[.slice a4 ds.length cap4, .int .i64 cop] 26)))
    have B5 := belowThen B4 (ha w4 (.cells #[.slice a4 ds.length cap4, .int .i64 cop] 26))
    have n5 := dHide (n4.below (ha w4 (.cells #[.slice a4 ds.length cap4, .int .i64 cop] 26)))
    generalize hbx : w4.heap.size = bx at *
    generalize w4.alloc (.cells #[.slice a4 ds.length cap4, .int .i64 cop] 26) = w5 at *
    clear hbx H4 B4 n4
    refine (dUnhide CL _ B5).mono ?_
    rintro e w6 ⟨⟨l6, rfl, m6⟩, b6⟩
    have X6 := (dUnhide X5).kept b6
    have HX6 := dHide X6
    have H6 := dHide ((dUnhide H5).kept b6)
    have B6 := belowThen B5 b6
    have n6 := (dUnhide n5).below b6
    have N6 := dHide n6
    have M6 := dHide m6.bs
    clear X5 H5 B5 n5 b6
    obtain ⟨k0, k1⟩ := X6
    go_wp2_with fail
    refine (dUnhide CI _ _ _ n6 m6.bs).mono ?_
    rintro e w7 ⟨rfl, b7⟩
    have X7 := dHide ((dUnhide HX6).kept b7)
    have H7 := dHide ((dUnhide H6).kept b7)
    have B7 := belowThen B6 b7
    have N7 := dHide ((dUnhide N6).below b7)
    have M7 := dHide ((dUnhide M6).below b7)
    clear HX6 H6 B6 N6 M6 b7 n6 m6 CI k0 k1
    obtain ⟨k0, k1⟩ := id (dUnhide X7)
    obtain ⟨j0, j1⟩ := id (dUnhide H7)
    have hbr := Below.refl w7.heap.size w7
    all_goals
      go_wp2_with fail
      go_cut [37] (fun sv wx => sv = .bool false ∧ Below w7.heap.size w7 wx)
      case first =>
        go_region_held3 (fun W => W.cell? ⟨bx, 0, none⟩ = some (.slice a4 ds.length cap4) ∧ W.cell? ⟨bx, 1, none⟩ = some (.int .i64 cop) ∧ W.cell? ⟨w.heap.size, 0, none⟩ = some (.slice a ds.length cap) ∧ W.cell? ⟨w.heap.size, 1, none⟩ = some (.int .i64 cop)) (go_keep)
          (first
            | (go_at_call 32; refine (dUnhide CT _ (belowThen B7 hbr.drew)).mono ?_; rintro e w8 ⟨⟨o8, rfl, q8⟩, b8⟩; have hb8 := belowThen hbr.drew b8; obtain ⟨k0, k1⟩ := (dUnhide X7).kept hb8; obtain ⟨j0, j1⟩ := (dUnhide H7).kept hb8; have m8 := dHide ((dUnhide N7).below hb8); have n8 := dHide q8.bs)
            | (go_at_call 33; refine (dUnhide CE _ _ _ (dUnhide m8) (dUnhide n8)).mono ?_; rintro e w9 ⟨rfl, b9⟩; have hb9 := belowThen hb8 b9; obtain ⟨k0, k1⟩ := (dUnhide X7).kept hb9; obtain ⟨j0, j1⟩ := (dUnhide H7).kept hb9))
        all_goals
          go_wp2_with fail
          go_meet
          case rel => exact ⟨rfl, hb9⟩
      case rest =>
        obtain ⟨rfl, bc⟩ := hcut
        have B8 := belowThen B7 bc
        have M8 := dHide ((dUnhide M7).below bc)
        generalize hwc : wc = w8 at *
        clear hwc bc
        go_wp2_with fail
        refine (dUnhide CL _ B8).mono ?_
        rintro e w9 ⟨⟨l9, rfl, m9⟩, b9⟩
        have B9 := belowThen B8 b9
        have M9 := (dUnhide M8).below b9
        go_wp2_with fail
        refine (dUnhide CX _ _ _ M9 m9.bs).mono ?_
        rintro e w10 ⟨rfl, b10⟩
        have B10 := belowThen B9 b10
        clear b10 B9 M9 m9 b9 M8 B8
        go_wp2
        go_ret
        exact ⟨rfl, B10⟩
end Go.Proofs.Ytgedaaknkhkegaa
