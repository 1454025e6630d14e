/- The walk of the law FnExactConfigOk. -/
import Derived.Test.YtgedaaknkhkegaaDomI
import Derived.Test.YtgedaaknkhkegaaOpenB
import Derived.Test.YtgedaaknkhkegaaImplD
import Derived.Deep.RegionHeld3
import Derived.Deep.DeepCutAuto
namespace Go.Proofs.Ytgedaaknkhkegaa
open Go.ChangeShapes Go.WideShapes Go.ChangeAt Go.RowKit
set_option linter.unusedVariables false

theorem RetB.same {p : Prop} {e e' : Ending} (h : RetB p e) (h' : RetB p e') : ∃ b : Bool, e = .returned (.bool b) ∧ e' = .returned (.bool b) := by
  obtain ⟨b, rfl, hb⟩ := h
  obtain ⟨b', rfl, hb'⟩ := h'
  refine ⟨b, rfl, ?_⟩
  have : b = b' := by
    cases b <;> cases b' <;> simp_all
  rw [this]
set_option maxHeartbeats 2000000 in
theorem walkFnExactConfigOk (v : Value) (c : List Int × Int) (w : World) (i : CfgIs w v c) :
    Calls Try.prog 6 #[v] w fun r w' => r = .returned (.bool true) ∧ Below w.heap.size w w' := by
  obtain ⟨⟨sv, rfl, hv⟩, hall, c0, c1⟩ := i
  obtain ⟨ds, cop⟩ := c
  simp only at hv hall c0 c1 ⊢
  have ha : ∀ (w : World) o, Below w.heap.size w (w.alloc o) := fun w o => (Below.refl _ _).alloc (Nat.le_refl _) o
  have CS := dHide fun W (hb : Below w.heap.size w W) => szConfig_any sv ds cop 1048576 (by omega) (by omega) W (hv.below hb)
  have hle := hv.1
  by_cases hs : (1048576 : Int) < (ds.length : Int)
  · have e1 : left1 ds.length 1048576 = -1 := by rw [left1, if_pos hs]
    rw [e1] at CS
    clear e1 hs
    obtain ⟨h0, a, cap, rfl, -, -⟩ := hv
    go_enter Try.func6, Try.ntmps6
    go_wp2_with fail
    refine (dUnhide CS _ (ha _ _)).mono ?_
    rintro e w1 ⟨rfl, b1⟩
    have B1 := belowThen (ha w _) b1
    clear b1 ha CS
    go_wp2
    go_ret
    exact ⟨rfl, B1⟩
  · have e1 : left1 ds.length 1048576 = 1048576 - (ds.length : Int) := by rw [left1, if_neg hs]
    rw [e1] at CS
    have hs' : ¬ ((1048576 : Int) - (ds.length : Int) < 0) := by omega
    have CT := dHide fun W (hb : Below w.heap.size w W) => toConfig_any sv ds cop W (hv.below hb) (by omega)
    have CP := dHide fun W o (ho : Ns W o ds) => specCfg_any o ds cop W ho
    have CI := dHide fun W o (ho : Ns W o ds) => implCfg_any o ds cop W ho hall (by omega) c0 c1
    have CE := dHide fun W o o' (ho : Ns W o ds) (ho' : Ns W o' ds) => eqConfig_yes o o' ds cop W ho ho'
    clear e1 hs hall
    obtain ⟨h0, a, cap, rfl, -, -⟩ := hv
    go_enter Try.func6, Try.ntmps6
    go_wp2_with fail
    have T0 := Two.new w (.slice a ds.length cap) (.int .i64 cop) 39
    refine (dUnhide CS _ (ha _ _)).mono ?_
    rintro e w1 ⟨rfl, b1⟩
    have T1 := T0.kept b1
    have H1 := dHide T1
    obtain ⟨k0, k1⟩ := T1
    have B1 := belowThen (ha w _) b1
    clear b1 CS T0
    go_wp2_with fail
    refine (dUnhide CT _ B1).mono ?_
    rintro e w2 ⟨⟨o2, rfl, q2⟩, b2⟩
    have H2 := dHide ((dUnhide H1).kept b2)
    have B2 := belowThen B1 b2
    have n2 := q2.bs
    clear k0 k1 H1 b2 B1 q2
    go_wp2_with fail
    refine (dUnhide CP _ _ n2).mono ?_
    rintro e w3 ⟨r3, b3⟩
    have T3 := (dUnhide H2).kept b3
    have H3 := dHide T3
    have B3 := belowThen B2 b3
    clear H2 b3 B2 n2 CP
    obtain ⟨bb, rfl, hbb⟩ := r3
    have hR : RetB (cfgP ds cop) (.returned (.bool bb)) := ⟨bb, rfl, hbb⟩
    clear hbb
    obtain ⟨k0, k1⟩ := T3
    go_wp2_with fail
    refine (dUnhide CT _ B3).mono ?_
    rintro e w4 ⟨⟨o4, rfl, q4⟩, b4⟩
    have H4 := dHide ((dUnhide H3).kept b4)
    have B4 := belowThen B3 b4
    have n4 := q4.bs
    clear k0 k1 H3 b4 B3 q4
    obtain ⟨-, a4, cap4, rfl, -, -⟩ := id n4
    go_wp2_with fail
    have X5 := dHide (Two.new w4 (.slice a4 ds.length cap4) (.int .i64 cop) 26)
    have H5 := dHide ((dUnhide H4).kept (ha w4 (.cells #[.slice a4 ds.length cap4, .int .i64 cop] 26)))
    have B5 := belowThen B4 (ha w4 (.cells #[.slice a4 ds.length cap4, .int .i64 cop] 26))
    have n5 := n4.below (ha w4 (.cells #[.slice a4 ds.length cap4, .int .i64 cop] 26))
    generalize hbx : w4.heap.size = bx at *
    generalize w4.alloc (.cells #[.slice a4 ds.length cap4, .int .i64 cop] 26) = w5 at *
    clear hbx H4 B4 n4
    refine (dUnhide CI _ _ n5).mono ?_
    rintro e w6 ⟨r6, b6⟩
    obtain ⟨b', e1, e2⟩ := hR.same r6
    cases e1
    subst e2
    have X6 := dHide ((dUnhide X5).kept b6)
    have H6 := dHide ((dUnhide H5).kept b6)
    have B6 := belowThen B5 b6
    have n6 := dHide (n5.below b6)
    clear X5 H5 B5 n5 b6 r6 hR CI
    obtain ⟨k0, k1⟩ := id (dUnhide X6)
    obtain ⟨j0, j1⟩ := id (dUnhide H6)
    have hbr := Below.refl w6.heap.size w6
    cases bb
    all_goals
      go_wp2_with fail
      go_region_held3 (fun W => W.cell? ⟨bx, 0, none⟩ = some (.slice a4 ds.length cap4) ∧ W.cell? ⟨bx, 1, none⟩ = some (.int .i64 cop) ∧ W.cell? ⟨w.heap.size, 0, none⟩ = some (.slice a ds.length cap) ∧ W.cell? ⟨w.heap.size, 1, none⟩ = some (.int .i64 cop)) (go_keep)
        (first
          | (go_at_call 32; refine (dUnhide CT _ (belowThen B6 hbr.drew)).mono ?_; rintro e w7 ⟨⟨o7, rfl, q7⟩, b7⟩; have hb7 := belowThen hbr.drew b7; obtain ⟨k0, k1⟩ := (dUnhide X6).kept hb7; obtain ⟨j0, j1⟩ := (dUnhide H6).kept hb7; have m7 := dHide ((dUnhide n6).below hb7); have n7 := dHide q7.bs)
          | (go_at_call 33; refine (dUnhide CE _ _ _ (dUnhide m7) (dUnhide n7)).mono ?_; rintro e w8 ⟨rfl, b8⟩; have hb8 := belowThen hb7 b8; obtain ⟨k0, k1⟩ := (dUnhide X6).kept hb8; obtain ⟨j0, j1⟩ := (dUnhide H6).kept hb8))
      all_goals
        go_wp2
        go_ret
        exact ⟨rfl, belowThen B6 hb8⟩
end Go.Proofs.Ytgedaaknkhkegaa
