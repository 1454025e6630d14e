/- FnExactStorePut: both answers, and the law's walk. -/
import Derived.Test.YtenpnnocdjakdaaQ6Put
import Derived.Test.YtenpnnocdjakdaaBoxQ
import Derived.Deep.RegionHeld3
import Derived.Deep.DeepCutAuto
namespace Go.Proofs.Ytenpnnocdjakdaa
open Go.ChangeShapes Go.WideShapes Go.ChangeAt Go.RowKit
set_option linter.unusedVariables false
theorem bothFnExactStorePut (m0 : St) (m1 : Ent) (ok0 : okStore m0) (ok1 : okEntry m1) : ∃ (R : St) (s1 : Bool), cntStore R ≤ 1048576 ∧ (∀ W v0, RdStore v0 m0 W → Calls Try.prog 43 #[v0, m1.val] W fun e w' => ∃ u, e = .returned (.tuple #[u, .bool s1]) ∧ Sits (OwStore W.heap.size w'.heap.size u R) W.heap.size w'.heap.size w' ∧ Below W.heap.size W w') ∧ (∀ W v0, RdStore v0 m0 W → Calls Try.prog 21 #[v0, m1.val] W fun e w' => ∃ u, e = .returned (.tuple #[u, .bool s1]) ∧ Sits (OwStore W.heap.size w'.heap.size u R) W.heap.size w'.heap.size w' ∧ Below W.heap.size W w') := ⟨_, _, cnt_put _ _, specPut_sits m0 m1 ok0 ok1, implPut_sits m0 m1 ok0 ok1⟩
set_option maxHeartbeats 8000000 in
set_option maxRecDepth 100000 in
theorem walkFnExactStorePut (v0 v1 : Value) (m0 : St) (m1 : Ent) (w : World) (i0 : IsStore v0 m0 w) (i1 : IsEntry v1 m1 w) :
    Calls Try.prog 7 #[v0, v1] w fun r w' => r = .returned (.bool true) ∧ Below w.heap.size w w' := by
  obtain ⟨r0, ok0⟩ := i0
  obtain ⟨rfl, ok1⟩ := i1
  have ha : ∀ (w : World) o, Below w.heap.size w (w.alloc o) := fun w o => (Below.refl _ _).alloc (Nat.le_refl _) o
  have A0 := dHide fun W (hb : Below w.heap.size w W) => r0.below hb
  obtain ⟨v0ka, v0kc, v0la, v0lc, rfl, v0l1, v0l2⟩ := formStore r0
  obtain ⟨R, s1, hR, p1, p2⟩ := bothFnExactStorePut m0 m1 ok0 ok1
  have CS := dHide fun W (hb : Below w.heap.size w W) => szStore_ _ m0 1048576 (by omega) (by omega) (txtS_of ok0) W (dUnhide A0 W hb)
  have CE0 := dHide fun left l0 l1 => szEntry_any m1 left l0 l1 ok1.2.2.2.2
  have CT := dHide (toEntry_any m1)
  obtain ⟨ex, ew, eh, ed⟩ := m1
  simp only [Ent.val] at p1 p2 CE0 CT ⊢
  have CP := dHide p1
  have CI := dHide p2
  clear p1 p2 ok0 ok1 r0
  by_cases z0 : (1048576 : Int) < (sizStore m0 : Int)
  · rw [lft_no z0] at CS
    clear z0 CE0 CT CP CI
    go_enter Try.func7, Try.ntmps7
    go_wp2_with fail
    refine (dUnhide CS _ (belowThen (ha _ _) (ha _ _))).mono ?_
    rintro e w1 ⟨rfl, b1⟩
    have B1 := belowThen (belowThen (ha w _) (ha _ _)) b1
    clear b1 ha CS
    go_wp2
    go_ret
    exact ⟨rfl, B1⟩
  have hs0 : sizStore m0 ≤ 1048576 := by omega
  have hc0 := cntStore_le hs0
  rw [lft_yes z0] at CS
  have z0' : ¬ ((1048576 : Int) - (sizStore m0 : Int) < 0) := by omega
  have CE := dHide (dUnhide CE0 (1048576 - (sizStore m0 : Int)) (by omega) (by omega))
  clear CE0
  by_cases z1 : (1048576 : Int) - (sizStore m0 : Int) < (ed.size : Int)
  · simp only [if_pos z1] at CE
    clear z1 CT CP CI
    go_enter Try.func7, Try.ntmps7
    go_wp2_with fail
    have B := belowThen (ha w (.cells #[.slice v0ka m0.kept.length v0kc, .slice v0la m0.late.length v0lc, .int .i64 m0.lock] 48)) (ha _ (.cells #[.int .i64 ex, .int .i64 ew, .bool eh, .string ed] 54))
    have X1 := dHide (Sits.box (w.alloc (.cells #[.slice v0ka m0.kept.length v0kc, .slice v0la m0.late.length v0lc, .int .i64 m0.lock] 48)) #[.int .i64 ex, .int .i64 ew, .bool eh, .string ed] 54)
    rw [World.size_alloc] at X1
    generalize (w.alloc (.cells #[.slice v0ka m0.kept.length v0kc, .slice v0la m0.late.length v0lc, .int .i64 m0.lock] 48)).alloc (.cells #[.int .i64 ex, .int .i64 ew, .bool eh, .string ed] 54) = wb at *
    refine (dUnhide CS _ B).mono ?_
    rintro e ws ⟨rfl, bs⟩
    replace X1 := dHide ((dUnhide X1).below bs)
    replace B := belowThen B bs
    clear bs CS
    have k0 := (dUnhide X1).now 0 _ rfl
    have k1 := (dUnhide X1).now 1 _ rfl
    have k2 := (dUnhide X1).now 2 _ rfl
    have k3 := (dUnhide X1).now 3 _ rfl
    go_wp2_with fail
    refine (dUnhide CE _).mono ?_
    rintro e wt ⟨rfl, bt⟩
    replace B := belowThen B bt
    clear bt CE k0 k1 k2 k3 X1
    go_wp2
    go_ret
    exact ⟨rfl, B⟩
  simp only [if_neg z1] at CE
  have z1' : ¬ ((1048576 : Int) - (sizStore m0 : Int) - (ed.size : Int) < 0) := by omega
  go_enter Try.func7, Try.ntmps7
  go_wp2_with fail
  have B := belowThen (ha w (.cells #[.slice v0ka m0.kept.length v0kc, .slice v0la m0.late.length v0lc, .int .i64 m0.lock] 48)) (ha _ (.cells #[.int .i64 ex, .int .i64 ew, .bool eh, .string ed] 54))
  have X0 := (Sits.box w #[.slice v0ka m0.kept.length v0kc, .slice v0la m0.late.length v0lc, .int .i64 m0.lock] 48).below (ha _ (.cells #[.int .i64 ex, .int .i64 ew, .bool eh, .string ed] 54))
  have X1 := dHide (Sits.box (w.alloc (.cells #[.slice v0ka m0.kept.length v0kc, .slice v0la m0.late.length v0lc, .int .i64 m0.lock] 48)) #[.int .i64 ex, .int .i64 ew, .bool eh, .string ed] 54)
  rw [World.size_alloc] at X1
  replace X0 := dHide X0
  have sz0 : Hid (w.heap.size + 1 + 1 = ((w.alloc (.cells #[.slice v0ka m0.kept.length v0kc, .slice v0la m0.late.length v0lc, .int .i64 m0.lock] 48)).alloc (.cells #[.int .i64 ex, .int .i64 ew, .bool eh, .string ed] 54)).heap.size) := by simp [Hid]
  generalize (w.alloc (.cells #[.slice v0ka m0.kept.length v0kc, .slice v0la m0.late.length v0lc, .int .i64 m0.lock] 48)).alloc (.cells #[.int .i64 ex, .int .i64 ew, .bool eh, .string ed] 54) = wb at *
  refine (dUnhide CS _ B).mono ?_
  rintro e ws ⟨rfl, bs⟩
  have sz1 := dHide bs.size
  replace X0 := dHide ((dUnhide X0).below bs)
  replace X1 := dHide ((dUnhide X1).below bs)
  replace B := belowThen B bs
  clear bs CS
  have k0 := (dUnhide X1).now 0 _ rfl
  have k1 := (dUnhide X1).now 1 _ rfl
  have k2 := (dUnhide X1).now 2 _ rfl
  have k3 := (dUnhide X1).now 3 _ rfl
  go_wp2_with fail
  refine (dUnhide CE _).mono ?_
  rintro e wt ⟨rfl, bt⟩
  have sz2 := dHide bt.size
  replace X0 := dHide ((dUnhide X0).below bt)
  replace X1 := dHide ((dUnhide X1).below bt)
  replace B := belowThen B bt
  clear bt CE k0 k1 k2 k3
  go_wp2_with fail
  have hC : ∀ W, Below wt.heap.size wt W → W.cell? ⟨w.heap.size, 0, none⟩ = some (.slice v0ka m0.kept.length v0kc) ∧ W.cell? ⟨w.heap.size, 1, none⟩ = some (.slice v0la m0.late.length v0lc) ∧ W.cell? ⟨w.heap.size, 2, none⟩ = some (.int .i64 m0.lock) ∧ W.cell? ⟨w.heap.size + 1, 0, none⟩ = some (.int .i64 ex) ∧ W.cell? ⟨w.heap.size + 1, 1, none⟩ = some (.int .i64 ew) ∧ W.cell? ⟨w.heap.size + 1, 2, none⟩ = some (.bool eh) ∧ W.cell? ⟨w.heap.size + 1, 3, none⟩ = some (.string ed) := fun W hb =>
    ⟨(dUnhide X0).at hb 0 _ rfl, (dUnhide X0).at hb 1 _ rfl, (dUnhide X0).at hb 2 _ rfl, (dUnhide X1).at hb 0 _ rfl, (dUnhide X1).at hb 1 _ rfl, (dUnhide X1).at hb 2 _ rfl, (dUnhide X1).at hb 3 _ rfl⟩
  have HC := dHide hC
  have hbr := Below.refl wt.heap.size wt
  obtain ⟨ka0, ka1, ka2, ka3, ka4, ka5, ka6⟩ := hC wt hbr
  clear hC
  go_cut [6, 7] (fun sv s7 wx => ∃ (bv lo hi : Nat) (ka : Option Addr) (kc : Nat) (la : Option Addr) (lc : Nat), sv = .pointer (some ⟨bv, 0, none⟩) ∧ s7 = .bool s1 ∧ Sits (Box bv #[.slice ka R.kept.length kc, .slice la R.late.length lc, .int .i64 R.lock]) bv (bv + 1) wx ∧ Sits (OwStore lo hi (.agg #[.slice ka R.kept.length kc, .slice la R.late.length lc, .int .i64 R.lock]) R) lo hi wx ∧ (bv < lo ∨ hi ≤ bv) ∧ wt.heap.size ≤ bv ∧ wt.heap.size ≤ lo ∧ Below wt.heap.size wt wx)
  case first =>
    go_region_held3 (fun W => W.cell? ⟨w.heap.size, 0, none⟩ = some (.slice v0ka m0.kept.length v0kc) ∧ W.cell? ⟨w.heap.size, 1, none⟩ = some (.slice v0la m0.late.length v0lc) ∧ W.cell? ⟨w.heap.size, 2, none⟩ = some (.int .i64 m0.lock) ∧ W.cell? ⟨w.heap.size + 1, 0, none⟩ = some (.int .i64 ex) ∧ W.cell? ⟨w.heap.size + 1, 1, none⟩ = some (.int .i64 ew) ∧ W.cell? ⟨w.heap.size + 1, 2, none⟩ = some (.bool eh) ∧ W.cell? ⟨w.heap.size + 1, 3, none⟩ = some (.string ed)) (first | exact dUnhide HC _ (below_three hb5 zz.1 _ _ _) | go_keep)
      (first
        | (go_at_call 39; refine (toStore_ _ m0 _ hs0 (dUnhide A0 _ (belowThen B (by first | exact hbr.drew | exact hbr.drew.alloc hbr.size _)))).mono ?_; rintro e w3 ⟨u3, rfl, q3, b3⟩; have hb3 := belowThen (by first | exact hbr.drew | exact hbr.drew.alloc hbr.size _) b3; obtain ⟨ka0, ka1, ka2, ka3, ka4, ka5, ka6⟩ := dUnhide HC w3 hb3; (first | have zz := BxZ.madeD hbr.size b3 | have zz : BxZ w3 wt.heap.size wt.heap.size [_, _, _] := BxZ.made hbr.size b3 | skip); have Q3 := dHide q3; obtain ⟨o3ka, o3kc, o3la, o3lc, rfl, o3l1, o3l2⟩ := formStore q3.now.rd; clear q3; (try obtain ⟨z0, y0⟩ := zz.2 0 _ rfl); (try obtain ⟨z1, y1⟩ := zz.2 1 _ rfl); (try obtain ⟨z2, y2⟩ := zz.2 2 _ rfl))
        | (go_at_call 44; refine (dUnhide CT _).mono ?_; rintro e w4 ⟨rfl, b4⟩; have hb4 := belowThen (by first | exact hb3 | exact hb3.alloc hb3.size _) b4; obtain ⟨ka0, ka1, ka2, ka3, ka4, ka5, ka6⟩ := dUnhide HC w4 hb4; have Q4 := dHide ((dUnhide Q3).at (by first | exact b4 | exact belowThen (ha _ _) b4)); (first | have zz := BxZ.made hb3.size b4 | have zz := BxZ.below zz b4 | skip); (try obtain ⟨z0, y0⟩ := zz.2 0 _ rfl); (try obtain ⟨z1, y1⟩ := zz.2 1 _ rfl); (try obtain ⟨z2, y2⟩ := zz.2 2 _ rfl))
        | (go_at_call 43; refine (dUnhide CP _ _ (by first | exact (dUnhide Q4).rd | exact RdStore.below (dUnhide Q4).rd (ha _ _))).mono ?_; rintro e w5 ⟨u5, rfl, q5, b5⟩; have hb5 := belowThen (by first | exact hb4 | exact hb4.alloc hb4.size _) b5; obtain ⟨ka0, ka1, ka2, ka3, ka4, ka5, ka6⟩ := dUnhide HC w5 hb5; (try have hlo := BxZ.lt zz); (first | have zz := BxZ.made hb4.size b5 | have zz := BxZ.below zz b5 | skip); have Q5 := dHide q5; obtain ⟨o5ka, o5kc, o5la, o5lc, rfl, o5l1, o5l2⟩ := formStore q5.now.rd; clear q5; (try obtain ⟨z0, y0⟩ := zz.2 0 _ rfl); (try obtain ⟨z1, y1⟩ := zz.2 1 _ rfl); (try obtain ⟨z2, y2⟩ := zz.2 2 _ rfl)))
    all_goals
      go_wp2_with fail
      go_meet
      case rel => first | exact ⟨_, _, _, _, _, _, _, rfl, rfl, (((zz.put 0 _).put 1 _).put 2 _).bx.sits, (((dUnhide Q5).setFar (.inl (by first | exact hlo | simp)) _).setFar (.inl (by first | exact hlo | simp)) _).setFar (.inl (by first | exact hlo | simp)) _, (.inl (by first | exact hlo | simp)), zz.1, (by have := hb4.size; first | exact this | (simp; omega)), below_three hb5 zz.1 _ _ _⟩ | exact ⟨_, _, _, _, _, _, _, rfl, rfl, Sits.box w5 _ _, (dUnhide Q5).below (ha _ _), .inr (Nat.le_refl _), hb5.size, hb4.size, hb5.alloc hb5.size _⟩
  case rest =>
    obtain ⟨bXW, loa, hia, aka, akc, ala, alc, rfl, rfl, XW, OW, da, ga, ia, bc⟩ := hcut
    clear ka0 ka1 ka2 ka3 ka4 ka5 ka6 HC hbr
    have sz11 := dHide bc.size
    replace X0 := dHide ((dUnhide X0).below bc)
    replace X1 := dHide ((dUnhide X1).below bc)
    replace B := belowThen B bc
    have sz12 := dHide da
    have sz13 := dHide ga
    have sz14 := dHide ia
    have sz15 := dHide XW.fit
    have sz16 := dHide OW.fit
    replace XW := dHide XW
    replace OW := dHide OW
    clear bc da ga ia
    generalize wc = w17 at *
    clear CP
    have k18 := (dUnhide X0).now 0 _ rfl
    have k19 := (dUnhide X0).now 1 _ rfl
    have k20 := (dUnhide X0).now 2 _ rfl
    go_wp2_with fail
    refine (toStore_ _ m0 _ hs0 (dUnhide A0 _ B)).mono ?_
    rintro e w21 ⟨ux, rfl, TX, bt⟩
    clear k18 k19 k20
    have sz22 := dHide bt.size
    replace X0 := dHide ((dUnhide X0).below bt)
    replace X1 := dHide ((dUnhide X1).below bt)
    replace XW := dHide ((dUnhide XW).below bt)
    replace OW := dHide ((dUnhide OW).below bt)
    replace B := belowThen B bt
    replace TX := dHide TX
    clear bt
    obtain ⟨uxka, uxkc, uxla, uxlc, rfl, uxl1, uxl2⟩ := formStore (dUnhide TX).now.rd
    go_wp2_with fail
    have XX := Sits.box w21 #[.slice uxka m0.kept.length uxkc, .slice uxla m0.late.length uxlc, .int .i64 m0.lock] 26
    have ba := ha w21 (.cells #[.slice uxka m0.kept.length uxkc, .slice uxla m0.late.length uxlc, .int .i64 m0.lock] 26)
    have sz23 := dHide ba.size
    replace X0 := dHide ((dUnhide X0).below ba)
    replace X1 := dHide ((dUnhide X1).below ba)
    replace XW := dHide ((dUnhide XW).below ba)
    replace OW := dHide ((dUnhide OW).below ba)
    replace TX := dHide ((dUnhide TX).below ba)
    replace B := belowThen B ba
    have sz24 : Hid (w21.heap.size + 1 = (w21.alloc (.cells #[.slice uxka m0.kept.length uxkc, .slice uxla m0.late.length uxlc, .int .i64 m0.lock] 26)).heap.size) := by simp [Hid]
    replace XX := dHide XX
    clear ba
    generalize hbXX : w21.heap.size = bXX at *
    generalize w21.alloc (.cells #[.slice uxka m0.kept.length uxkc, .slice uxla m0.late.length uxlc, .int .i64 m0.lock] 26) = w25 at *
    have sz26 := dHide hbXX
    clear hbXX
    have hC : ∀ W, Below w25.heap.size w25 W → W.cell? ⟨bXX, 0, none⟩ = some (.slice uxka m0.kept.length uxkc) ∧ W.cell? ⟨bXX, 1, none⟩ = some (.slice uxla m0.late.length uxlc) ∧ W.cell? ⟨bXX, 2, none⟩ = some (.int .i64 m0.lock) ∧ W.cell? ⟨w.heap.size + 1, 0, none⟩ = some (.int .i64 ex) ∧ W.cell? ⟨w.heap.size + 1, 1, none⟩ = some (.int .i64 ew) ∧ W.cell? ⟨w.heap.size + 1, 2, none⟩ = some (.bool eh) ∧ W.cell? ⟨w.heap.size + 1, 3, none⟩ = some (.string ed) := fun W hb =>
      ⟨(dUnhide XX).at hb 0 _ rfl, (dUnhide XX).at hb 1 _ rfl, (dUnhide XX).at hb 2 _ rfl, (dUnhide X1).at hb 0 _ rfl, (dUnhide X1).at hb 1 _ rfl, (dUnhide X1).at hb 2 _ rfl, (dUnhide X1).at hb 3 _ rfl⟩
    have HC := dHide hC
    have hbr := Below.refl w25.heap.size w25
    obtain ⟨kb0, kb1, kb2, kb3, kb4, kb5, kb6⟩ := hC w25 hbr
    clear hC
    go_cut [9, 10] (fun sv s7 wx => ∃ (bv lo hi : Nat) (ka : Option Addr) (kc : Nat) (la : Option Addr) (lc : Nat), sv = .pointer (some ⟨bv, 0, none⟩) ∧ s7 = .bool s1 ∧ Sits (Box bv #[.slice ka R.kept.length kc, .slice la R.late.length lc, .int .i64 R.lock]) bv (bv + 1) wx ∧ Sits (OwStore lo hi (.agg #[.slice ka R.kept.length kc, .slice la R.late.length lc, .int .i64 R.lock]) R) lo hi wx ∧ (bv < lo ∨ hi ≤ bv) ∧ w25.heap.size ≤ bv ∧ w25.heap.size ≤ lo ∧ Below w25.heap.size w25 wx)
    case first =>
      go_region_held3 (fun W => W.cell? ⟨bXX, 0, none⟩ = some (.slice uxka m0.kept.length uxkc) ∧ W.cell? ⟨bXX, 1, none⟩ = some (.slice uxla m0.late.length uxlc) ∧ W.cell? ⟨bXX, 2, none⟩ = some (.int .i64 m0.lock) ∧ W.cell? ⟨w.heap.size + 1, 0, none⟩ = some (.int .i64 ex) ∧ W.cell? ⟨w.heap.size + 1, 1, none⟩ = some (.int .i64 ew) ∧ W.cell? ⟨w.heap.size + 1, 2, none⟩ = some (.bool eh) ∧ W.cell? ⟨w.heap.size + 1, 3, none⟩ = some (.string ed)) (first | exact dUnhide HC _ (below_three hb5 zz.1 _ _ _) | go_keep)
        (first
          | (go_at_call 44; refine (dUnhide CT _).mono ?_; rintro e w4 ⟨rfl, b4⟩; have hb4 := belowThen (by first | exact hbr.drew | exact hbr.drew.alloc hbr.size _) b4; obtain ⟨kb0, kb1, kb2, kb3, kb4, kb5, kb6⟩ := dUnhide HC w4 hb4; have Q4 := dHide ((dUnhide TX).at hb4); (first | have zz := BxZ.madeD hbr.size b4 | have zz : BxZ w4 w25.heap.size w25.heap.size [_, _, _] := BxZ.made hbr.size b4 | skip); (try obtain ⟨z0, y0⟩ := zz.2 0 _ rfl); (try obtain ⟨z1, y1⟩ := zz.2 1 _ rfl); (try obtain ⟨z2, y2⟩ := zz.2 2 _ rfl))
          | (go_at_call 21; refine (dUnhide CI _ _ (by first | exact (dUnhide Q4).rd | exact RdStore.below (dUnhide Q4).rd (ha _ _))).mono ?_; rintro e w5 ⟨u5, rfl, q5, b5⟩; have hb5 := belowThen (by first | exact hb4 | exact hb4.alloc hb4.size _) b5; obtain ⟨kb0, kb1, kb2, kb3, kb4, kb5, kb6⟩ := dUnhide HC w5 hb5; (try have hlo := BxZ.lt zz); (first | have zz := BxZ.made hb4.size b5 | have zz := BxZ.below zz b5 | skip); have Q5 := dHide q5; obtain ⟨o5ka, o5kc, o5la, o5lc, rfl, o5l1, o5l2⟩ := formStore q5.now.rd; clear q5; (try obtain ⟨z0, y0⟩ := zz.2 0 _ rfl); (try obtain ⟨z1, y1⟩ := zz.2 1 _ rfl); (try obtain ⟨z2, y2⟩ := zz.2 2 _ rfl)))
      all_goals
        go_wp2_with fail
        go_meet
        case rel => first | exact ⟨_, _, _, _, _, _, _, rfl, rfl, (((zz.put 0 _).put 1 _).put 2 _).bx.sits, (((dUnhide Q5).setFar (.inl (by first | exact hlo | simp)) _).setFar (.inl (by first | exact hlo | simp)) _).setFar (.inl (by first | exact hlo | simp)) _, (.inl (by first | exact hlo | simp)), zz.1, (by have := hb4.size; first | exact this | (simp; omega)), below_three hb5 zz.1 _ _ _⟩ | exact ⟨_, _, _, _, _, _, _, rfl, rfl, Sits.box w5 _ _, (dUnhide Q5).below (ha _ _), .inr (Nat.le_refl _), hb5.size, hb4.size, hb5.alloc hb5.size _⟩
    case rest =>
      obtain ⟨bXG, lob, hib, bka, bkc, bla, blc, rfl, rfl, XG, OG, db, gb, ib, bc⟩ := hcut
      clear kb0 kb1 kb2 kb3 kb4 kb5 kb6 HC hbr
      have sz27 := dHide bc.size
      replace X0 := dHide ((dUnhide X0).below bc)
      replace X1 := dHide ((dUnhide X1).below bc)
      replace XW := dHide ((dUnhide XW).below bc)
      replace OW := dHide ((dUnhide OW).below bc)
      replace TX := dHide ((dUnhide TX).below bc)
      replace XX := dHide ((dUnhide XX).below bc)
      replace B := belowThen B bc
      have sz28 := dHide db
      have sz29 := dHide gb
      have sz30 := dHide ib
      have sz31 := dHide XG.fit
      have sz32 := dHide OG.fit
      replace XG := dHide XG
      replace OG := dHide OG
      clear bc db gb ib
      generalize wc = w33 at *
      have k34 := (dUnhide XG).now 0 _ rfl
      have k35 := (dUnhide XG).now 1 _ rfl
      have k36 := (dUnhide XG).now 2 _ rfl
      have k37 := (dUnhide XW).now 0 _ rfl
      have k38 := (dUnhide XW).now 1 _ rfl
      have k39 := (dUnhide XW).now 2 _ rfl
      go_wp2_with fail
      refine (eqStore_ _ _ _ _ (dUnhide OG).now.rd (dUnhide OW).now.rd).mono ?_
      rintro e w40 ⟨rfl, bq⟩
      clear k34 k35 k36 k37 k38 k39
      have sz41 := dHide bq.size
      replace X0 := dHide ((dUnhide X0).below bq)
      replace X1 := dHide ((dUnhide X1).below bq)
      replace XW := dHide ((dUnhide XW).below bq)
      replace OW := dHide ((dUnhide OW).below bq)
      replace TX := dHide ((dUnhide TX).below bq)
      replace XX := dHide ((dUnhide XX).below bq)
      replace XG := dHide ((dUnhide XG).below bq)
      replace OG := dHide ((dUnhide OG).below bq)
      replace B := belowThen B bq
      clear bq
      have k42 := (dUnhide XX).now 0 _ rfl
      have k43 := (dUnhide XX).now 1 _ rfl
      have k44 := (dUnhide XX).now 2 _ rfl
      have k45 := (dUnhide X0).now 0 _ rfl
      have k46 := (dUnhide X0).now 1 _ rfl
      have k47 := (dUnhide X0).now 2 _ rfl
      have hbr := Below.refl w40.heap.size w40
      go_wp2_with fail
      go_cut [56] (fun sv wx => sv = .bool false ∧ Below w40.heap.size w40 wx)
      case first =>
        go_region_held3 (fun W => W.cell? ⟨bXX, 0, none⟩ = some (.slice uxka m0.kept.length uxkc) ∧ W.cell? ⟨bXX, 1, none⟩ = some (.slice uxla m0.late.length uxlc) ∧ W.cell? ⟨bXX, 2, none⟩ = some (.int .i64 m0.lock) ∧ W.cell? ⟨w.heap.size, 0, none⟩ = some (.slice v0ka m0.kept.length v0kc) ∧ W.cell? ⟨w.heap.size, 1, none⟩ = some (.slice v0la m0.late.length v0lc) ∧ W.cell? ⟨w.heap.size, 2, none⟩ = some (.int .i64 m0.lock)) (go_keep)
          (first
            | (go_at_call 39; refine (toStore_ _ m0 _ hs0 (dUnhide A0 _ (belowThen B hbr.drew))).mono ?_; rintro e w8 ⟨o8, rfl, q8, b8⟩; have hb8 := belowThen hbr.drew b8; have kp0 := ((dUnhide XX).at hb8) 0 _ rfl; have kp1 := ((dUnhide XX).at hb8) 1 _ rfl; have kp2 := ((dUnhide XX).at hb8) 2 _ rfl; have kp3 := ((dUnhide X0).at hb8) 0 _ rfl; have kp4 := ((dUnhide X0).at hb8) 1 _ rfl; have kp5 := ((dUnhide X0).at hb8) 2 _ rfl; have Q8 := dHide q8; obtain ⟨o8ka, o8kc, o8la, o8lc, rfl, o8l1, o8l2⟩ := formStore q8.now.rd; clear q8)
            | (go_at_call 41; refine (eqStore_ _ _ _ _ ((dUnhide TX).at hb8).rd (dUnhide Q8).now.rd).mono ?_; rintro e w9 ⟨rfl, b9⟩; have hb9 := belowThen hb8 b9; have kq0 := ((dUnhide XX).at hb9) 0 _ rfl; have kq1 := ((dUnhide XX).at hb9) 1 _ rfl; have kq2 := ((dUnhide XX).at hb9) 2 _ rfl; have kq3 := ((dUnhide X0).at hb9) 0 _ rfl; have kq4 := ((dUnhide X0).at hb9) 1 _ rfl; have kq5 := ((dUnhide X0).at hb9) 2 _ rfl))
        all_goals
          go_wp2_with fail
          go_meet
          case rel => exact ⟨rfl, hb9⟩
      case rest =>
        obtain ⟨rfl, bc⟩ := hcut
        clear hbr k42 k43 k44 k45 k46 k47
        have sz48 := dHide bc.size
        replace X0 := dHide ((dUnhide X0).below bc)
        replace X1 := dHide ((dUnhide X1).below bc)
        replace XW := dHide ((dUnhide XW).below bc)
        replace OW := dHide ((dUnhide OW).below bc)
        replace TX := dHide ((dUnhide TX).below bc)
        replace XX := dHide ((dUnhide XX).below bc)
        replace XG := dHide ((dUnhide XG).below bc)
        replace OG := dHide ((dUnhide OG).below bc)
        replace B := belowThen B bc
        generalize wc = w49 at *
        clear bc
        have k50 := (dUnhide XX).now 0 _ rfl
        have k51 := (dUnhide XX).now 1 _ rfl
        have k52 := (dUnhide XX).now 2 _ rfl
        go_wp2_with fail
        refine (markStore_ _ _ _ _ 1 _ (by omega) (by omega) (dUnhide TX)).mono ?_
        rintro e w53 ⟨rfl, MX, bm⟩
        clear k50 k51 k52
        replace X0 := dHide ((dUnhide X0).wr bm (by have := dUnhide sz0; have := dUnhide sz1; have := dUnhide sz2; have := dUnhide sz11; have := dUnhide sz12; have := dUnhide sz13; have := dUnhide sz14; have := dUnhide sz15; have := dUnhide sz16; have := dUnhide sz22; have := dUnhide sz23; have := dUnhide sz24; have := dUnhide sz26; have := dUnhide sz27; have := dUnhide sz28; have := dUnhide sz29; have := dUnhide sz30; have := dUnhide sz31; have := dUnhide sz32; have := dUnhide sz41; have := dUnhide sz48; omega))
        replace X1 := dHide ((dUnhide X1).wr bm (by have := dUnhide sz0; have := dUnhide sz1; have := dUnhide sz2; have := dUnhide sz11; have := dUnhide sz12; have := dUnhide sz13; have := dUnhide sz14; have := dUnhide sz15; have := dUnhide sz16; have := dUnhide sz22; have := dUnhide sz23; have := dUnhide sz24; have := dUnhide sz26; have := dUnhide sz27; have := dUnhide sz28; have := dUnhide sz29; have := dUnhide sz30; have := dUnhide sz31; have := dUnhide sz32; have := dUnhide sz41; have := dUnhide sz48; omega))
        replace XW := dHide ((dUnhide XW).wr bm (by have := dUnhide sz0; have := dUnhide sz1; have := dUnhide sz2; have := dUnhide sz11; have := dUnhide sz12; have := dUnhide sz13; have := dUnhide sz14; have := dUnhide sz15; have := dUnhide sz16; have := dUnhide sz22; have := dUnhide sz23; have := dUnhide sz24; have := dUnhide sz26; have := dUnhide sz27; have := dUnhide sz28; have := dUnhide sz29; have := dUnhide sz30; have := dUnhide sz31; have := dUnhide sz32; have := dUnhide sz41; have := dUnhide sz48; omega))
        replace OW := dHide ((dUnhide OW).wr bm (by have := dUnhide sz0; have := dUnhide sz1; have := dUnhide sz2; have := dUnhide sz11; have := dUnhide sz12; have := dUnhide sz13; have := dUnhide sz14; have := dUnhide sz15; have := dUnhide sz16; have := dUnhide sz22; have := dUnhide sz23; have := dUnhide sz24; have := dUnhide sz26; have := dUnhide sz27; have := dUnhide sz28; have := dUnhide sz29; have := dUnhide sz30; have := dUnhide sz31; have := dUnhide sz32; have := dUnhide sz41; have := dUnhide sz48; omega))
        replace XX := dHide ((dUnhide XX).wr bm (by have := dUnhide sz0; have := dUnhide sz1; have := dUnhide sz2; have := dUnhide sz11; have := dUnhide sz12; have := dUnhide sz13; have := dUnhide sz14; have := dUnhide sz15; have := dUnhide sz16; have := dUnhide sz22; have := dUnhide sz23; have := dUnhide sz24; have := dUnhide sz26; have := dUnhide sz27; have := dUnhide sz28; have := dUnhide sz29; have := dUnhide sz30; have := dUnhide sz31; have := dUnhide sz32; have := dUnhide sz41; have := dUnhide sz48; omega))
        replace XG := dHide ((dUnhide XG).wr bm (by have := dUnhide sz0; have := dUnhide sz1; have := dUnhide sz2; have := dUnhide sz11; have := dUnhide sz12; have := dUnhide sz13; have := dUnhide sz14; have := dUnhide sz15; have := dUnhide sz16; have := dUnhide sz22; have := dUnhide sz23; have := dUnhide sz24; have := dUnhide sz26; have := dUnhide sz27; have := dUnhide sz28; have := dUnhide sz29; have := dUnhide sz30; have := dUnhide sz31; have := dUnhide sz32; have := dUnhide sz41; have := dUnhide sz48; omega))
        replace OG := dHide ((dUnhide OG).wr bm (by have := dUnhide sz0; have := dUnhide sz1; have := dUnhide sz2; have := dUnhide sz11; have := dUnhide sz12; have := dUnhide sz13; have := dUnhide sz14; have := dUnhide sz15; have := dUnhide sz16; have := dUnhide sz22; have := dUnhide sz23; have := dUnhide sz24; have := dUnhide sz26; have := dUnhide sz27; have := dUnhide sz28; have := dUnhide sz29; have := dUnhide sz30; have := dUnhide sz31; have := dUnhide sz32; have := dUnhide sz41; have := dUnhide sz48; omega))
        replace B := bm.below B B.size (by have := dUnhide sz0; have := dUnhide sz1; have := dUnhide sz2; have := dUnhide sz11; have := dUnhide sz12; have := dUnhide sz13; have := dUnhide sz14; have := dUnhide sz15; have := dUnhide sz16; have := dUnhide sz22; have := dUnhide sz23; have := dUnhide sz24; have := dUnhide sz26; have := dUnhide sz27; have := dUnhide sz28; have := dUnhide sz29; have := dUnhide sz30; have := dUnhide sz31; have := dUnhide sz32; have := dUnhide sz41; have := dUnhide sz48; omega)
        have sz54 := dHide bm.size
        replace MX := dHide MX
        clear bm TX
        clear MX XX
        have hk : ¬ (((1 + cntStore m0 : Nat) : Int) < 0) := by omega
        have k55 := (dUnhide XG).now 0 _ rfl
        have k56 := (dUnhide XG).now 1 _ rfl
        have k57 := (dUnhide XG).now 2 _ rfl
        have k58 := (dUnhide XW).now 0 _ rfl
        have k59 := (dUnhide XW).now 1 _ rfl
        have k60 := (dUnhide XW).now 2 _ rfl
        go_wp2_with fail
        refine (eqStore_ _ _ _ _ (dUnhide OG).now.rd (dUnhide OW).now.rd).mono ?_
        rintro e w61 ⟨rfl, bq⟩
        clear k55 k56 k57 k58 k59 k60
        have sz62 := dHide bq.size
        replace X0 := dHide ((dUnhide X0).below bq)
        replace X1 := dHide ((dUnhide X1).below bq)
        replace XW := dHide ((dUnhide XW).below bq)
        replace OW := dHide ((dUnhide OW).below bq)
        replace XG := dHide ((dUnhide XG).below bq)
        replace OG := dHide ((dUnhide OG).below bq)
        replace B := belowThen B bq
        clear bq
        have k63 := (dUnhide XG).now 0 _ rfl
        have k64 := (dUnhide XG).now 1 _ rfl
        have k65 := (dUnhide XG).now 2 _ rfl
        go_wp2_with fail
        refine (markStore_ _ _ _ _ 1 _ (by omega) (by omega) (dUnhide OG)).mono ?_
        rintro e w66 ⟨rfl, MG, bm⟩
        clear k63 k64 k65
        replace X0 := dHide ((dUnhide X0).wr bm (by have := dUnhide sz0; have := dUnhide sz1; have := dUnhide sz2; have := dUnhide sz11; have := dUnhide sz12; have := dUnhide sz13; have := dUnhide sz14; have := dUnhide sz15; have := dUnhide sz16; have := dUnhide sz22; have := dUnhide sz23; have := dUnhide sz24; have := dUnhide sz26; have := dUnhide sz27; have := dUnhide sz28; have := dUnhide sz29; have := dUnhide sz30; have := dUnhide sz31; have := dUnhide sz32; have := dUnhide sz41; have := dUnhide sz48; have := dUnhide sz54; have := dUnhide sz62; omega))
        replace X1 := dHide ((dUnhide X1).wr bm (by have := dUnhide sz0; have := dUnhide sz1; have := dUnhide sz2; have := dUnhide sz11; have := dUnhide sz12; have := dUnhide sz13; have := dUnhide sz14; have := dUnhide sz15; have := dUnhide sz16; have := dUnhide sz22; have := dUnhide sz23; have := dUnhide sz24; have := dUnhide sz26; have := dUnhide sz27; have := dUnhide sz28; have := dUnhide sz29; have := dUnhide sz30; have := dUnhide sz31; have := dUnhide sz32; have := dUnhide sz41; have := dUnhide sz48; have := dUnhide sz54; have := dUnhide sz62; omega))
        replace XW := dHide ((dUnhide XW).wr bm (by have := dUnhide sz0; have := dUnhide sz1; have := dUnhide sz2; have := dUnhide sz11; have := dUnhide sz12; have := dUnhide sz13; have := dUnhide sz14; have := dUnhide sz15; have := dUnhide sz16; have := dUnhide sz22; have := dUnhide sz23; have := dUnhide sz24; have := dUnhide sz26; have := dUnhide sz27; have := dUnhide sz28; have := dUnhide sz29; have := dUnhide sz30; have := dUnhide sz31; have := dUnhide sz32; have := dUnhide sz41; have := dUnhide sz48; have := dUnhide sz54; have := dUnhide sz62; omega))
        replace OW := dHide ((dUnhide OW).wr bm (by have := dUnhide sz0; have := dUnhide sz1; have := dUnhide sz2; have := dUnhide sz11; have := dUnhide sz12; have := dUnhide sz13; have := dUnhide sz14; have := dUnhide sz15; have := dUnhide sz16; have := dUnhide sz22; have := dUnhide sz23; have := dUnhide sz24; have := dUnhide sz26; have := dUnhide sz27; have := dUnhide sz28; have := dUnhide sz29; have := dUnhide sz30; have := dUnhide sz31; have := dUnhide sz32; have := dUnhide sz41; have := dUnhide sz48; have := dUnhide sz54; have := dUnhide sz62; omega))
        replace XG := dHide ((dUnhide XG).wr bm (by have := dUnhide sz0; have := dUnhide sz1; have := dUnhide sz2; have := dUnhide sz11; have := dUnhide sz12; have := dUnhide sz13; have := dUnhide sz14; have := dUnhide sz15; have := dUnhide sz16; have := dUnhide sz22; have := dUnhide sz23; have := dUnhide sz24; have := dUnhide sz26; have := dUnhide sz27; have := dUnhide sz28; have := dUnhide sz29; have := dUnhide sz30; have := dUnhide sz31; have := dUnhide sz32; have := dUnhide sz41; have := dUnhide sz48; have := dUnhide sz54; have := dUnhide sz62; omega))
        replace B := bm.below B B.size (by have := dUnhide sz0; have := dUnhide sz1; have := dUnhide sz2; have := dUnhide sz11; have := dUnhide sz12; have := dUnhide sz13; have := dUnhide sz14; have := dUnhide sz15; have := dUnhide sz16; have := dUnhide sz22; have := dUnhide sz23; have := dUnhide sz24; have := dUnhide sz26; have := dUnhide sz27; have := dUnhide sz28; have := dUnhide sz29; have := dUnhide sz30; have := dUnhide sz31; have := dUnhide sz32; have := dUnhide sz41; have := dUnhide sz48; have := dUnhide sz54; have := dUnhide sz62; omega)
        have sz67 := dHide bm.size
        replace MG := dHide MG
        clear bm OG
        have k68 := (dUnhide XG).now 0 _ rfl
        have k69 := (dUnhide XG).now 1 _ rfl
        have k70 := (dUnhide XG).now 2 _ rfl
        go_wp2_with fail
        refine (heldStore_ _ R 1 _ (by omega) (by omega) (dUnhide MG).now.rd).mono ?_
        rintro e w71 ⟨rfl, bh⟩
        clear k68 k69 k70
        have sz72 := dHide bh.size
        replace X0 := dHide ((dUnhide X0).below bh)
        replace X1 := dHide ((dUnhide X1).below bh)
        replace XW := dHide ((dUnhide XW).below bh)
        replace OW := dHide ((dUnhide OW).below bh)
        replace XG := dHide ((dUnhide XG).below bh)
        replace MG := dHide ((dUnhide MG).below bh)
        replace B := belowThen B bh
        clear bh
        have hq : ¬ (((1 + cntStore R : Nat) : Int) < 0) := by omega
        go_wp2_with fail
        have hC : ∀ W, Below w71.heap.size w71 W → W.cell? ⟨w.heap.size, 0, none⟩ = some (.slice v0ka m0.kept.length v0kc) ∧ W.cell? ⟨w.heap.size, 1, none⟩ = some (.slice v0la m0.late.length v0lc) ∧ W.cell? ⟨w.heap.size, 2, none⟩ = some (.int .i64 m0.lock) ∧ W.cell? ⟨w.heap.size + 1, 0, none⟩ = some (.int .i64 ex) ∧ W.cell? ⟨w.heap.size + 1, 1, none⟩ = some (.int .i64 ew) ∧ W.cell? ⟨w.heap.size + 1, 2, none⟩ = some (.bool eh) ∧ W.cell? ⟨w.heap.size + 1, 3, none⟩ = some (.string ed) := fun W hb =>
          ⟨(dUnhide X0).at hb 0 _ rfl, (dUnhide X0).at hb 1 _ rfl, (dUnhide X0).at hb 2 _ rfl, (dUnhide X1).at hb 0 _ rfl, (dUnhide X1).at hb 1 _ rfl, (dUnhide X1).at hb 2 _ rfl, (dUnhide X1).at hb 3 _ rfl⟩
        have HC := dHide hC
        have hbr := Below.refl w71.heap.size w71
        obtain ⟨kc0, kc1, kc2, kc3, kc4, kc5, kc6⟩ := hC w71 hbr
        clear hC
        go_cut [14, 15] (fun sv s7 wx => ∃ (bv lo hi : Nat) (ka : Option Addr) (kc : Nat) (la : Option Addr) (lc : Nat), sv = .pointer (some ⟨bv, 0, none⟩) ∧ s7 = .bool s1 ∧ Sits (Box bv #[.slice ka R.kept.length kc, .slice la R.late.length lc, .int .i64 R.lock]) bv (bv + 1) wx ∧ Sits (OwStore lo hi (.agg #[.slice ka R.kept.length kc, .slice la R.late.length lc, .int .i64 R.lock]) R) lo hi wx ∧ (bv < lo ∨ hi ≤ bv) ∧ w71.heap.size ≤ bv ∧ w71.heap.size ≤ lo ∧ Below w71.heap.size w71 wx)
        case first =>
          go_region_held3 (fun W => W.cell? ⟨w.heap.size, 0, none⟩ = some (.slice v0ka m0.kept.length v0kc) ∧ W.cell? ⟨w.heap.size, 1, none⟩ = some (.slice v0la m0.late.length v0lc) ∧ W.cell? ⟨w.heap.size, 2, none⟩ = some (.int .i64 m0.lock) ∧ W.cell? ⟨w.heap.size + 1, 0, none⟩ = some (.int .i64 ex) ∧ W.cell? ⟨w.heap.size + 1, 1, none⟩ = some (.int .i64 ew) ∧ W.cell? ⟨w.heap.size + 1, 2, none⟩ = some (.bool eh) ∧ W.cell? ⟨w.heap.size + 1, 3, none⟩ = some (.string ed)) (first | exact dUnhide HC _ (below_three hb5 zz.1 _ _ _) | go_keep)
            (first
              | (go_at_call 39; refine (toStore_ _ m0 _ hs0 (dUnhide A0 _ (belowThen B (by first | exact hbr.drew | exact hbr.drew.alloc hbr.size _)))).mono ?_; rintro e w3 ⟨u3, rfl, q3, b3⟩; have hb3 := belowThen (by first | exact hbr.drew | exact hbr.drew.alloc hbr.size _) b3; obtain ⟨kc0, kc1, kc2, kc3, kc4, kc5, kc6⟩ := dUnhide HC w3 hb3; (first | have zz := BxZ.madeD hbr.size b3 | have zz : BxZ w3 w71.heap.size w71.heap.size [_, _, _] := BxZ.made hbr.size b3 | skip); have Q3 := dHide q3; obtain ⟨o3ka, o3kc, o3la, o3lc, rfl, o3l1, o3l2⟩ := formStore q3.now.rd; clear q3; (try obtain ⟨z0, y0⟩ := zz.2 0 _ rfl); (try obtain ⟨z1, y1⟩ := zz.2 1 _ rfl); (try obtain ⟨z2, y2⟩ := zz.2 2 _ rfl))
              | (go_at_call 44; refine (dUnhide CT _).mono ?_; rintro e w4 ⟨rfl, b4⟩; have hb4 := belowThen (by first | exact hb3 | exact hb3.alloc hb3.size _) b4; obtain ⟨kc0, kc1, kc2, kc3, kc4, kc5, kc6⟩ := dUnhide HC w4 hb4; have Q4 := dHide ((dUnhide Q3).at (by first | exact b4 | exact belowThen (ha _ _) b4)); (first | have zz := BxZ.made hb3.size b4 | have zz := BxZ.below zz b4 | skip); (try obtain ⟨z0, y0⟩ := zz.2 0 _ rfl); (try obtain ⟨z1, y1⟩ := zz.2 1 _ rfl); (try obtain ⟨z2, y2⟩ := zz.2 2 _ rfl))
              | (go_at_call 21; refine (dUnhide CI _ _ (by first | exact (dUnhide Q4).rd | exact RdStore.below (dUnhide Q4).rd (ha _ _))).mono ?_; rintro e w5 ⟨u5, rfl, q5, b5⟩; have hb5 := belowThen (by first | exact hb4 | exact hb4.alloc hb4.size _) b5; obtain ⟨kc0, kc1, kc2, kc3, kc4, kc5, kc6⟩ := dUnhide HC w5 hb5; (try have hlo := BxZ.lt zz); (first | have zz := BxZ.made hb4.size b5 | have zz := BxZ.below zz b5 | skip); have Q5 := dHide q5; obtain ⟨o5ka, o5kc, o5la, o5lc, rfl, o5l1, o5l2⟩ := formStore q5.now.rd; clear q5; (try obtain ⟨z0, y0⟩ := zz.2 0 _ rfl); (try obtain ⟨z1, y1⟩ := zz.2 1 _ rfl); (try obtain ⟨z2, y2⟩ := zz.2 2 _ rfl)))
          all_goals
            go_wp2_with fail
            go_meet
            case rel => first | exact ⟨_, _, _, _, _, _, _, rfl, rfl, (((zz.put 0 _).put 1 _).put 2 _).bx.sits, (((dUnhide Q5).setFar (.inl (by first | exact hlo | simp)) _).setFar (.inl (by first | exact hlo | simp)) _).setFar (.inl (by first | exact hlo | simp)) _, (.inl (by first | exact hlo | simp)), zz.1, (by have := hb4.size; first | exact this | (simp; omega)), below_three hb5 zz.1 _ _ _⟩ | exact ⟨_, _, _, _, _, _, _, rfl, rfl, Sits.box w5 _ _, (dUnhide Q5).below (ha _ _), .inr (Nat.le_refl _), hb5.size, hb4.size, hb5.alloc hb5.size _⟩
        case rest =>
          obtain ⟨bXH, loc, hic, cka, ckc, cla, clc, rfl, rfl, XH, OH, dc, gc, ic, bc⟩ := hcut
          clear kc0 kc1 kc2 kc3 kc4 kc5 kc6 HC hbr
          have sz73 := dHide bc.size
          replace X0 := dHide ((dUnhide X0).below bc)
          replace X1 := dHide ((dUnhide X1).below bc)
          replace XW := dHide ((dUnhide XW).below bc)
          replace OW := dHide ((dUnhide OW).below bc)
          replace XG := dHide ((dUnhide XG).below bc)
          replace MG := dHide ((dUnhide MG).below bc)
          replace B := belowThen B bc
          have sz74 := dHide dc
          have sz75 := dHide gc
          have sz76 := dHide ic
          have sz77 := dHide XH.fit
          have sz78 := dHide OH.fit
          replace XH := dHide XH
          replace OH := dHide OH
          clear bc dc gc ic
          generalize wc = w79 at *
          have k80 := (dUnhide XH).now 0 _ rfl
          have k81 := (dUnhide XH).now 1 _ rfl
          have k82 := (dUnhide XH).now 2 _ rfl
          have k83 := (dUnhide XW).now 0 _ rfl
          have k84 := (dUnhide XW).now 1 _ rfl
          have k85 := (dUnhide XW).now 2 _ rfl
          go_wp2_with fail
          refine (eqStore_ _ _ _ _ (dUnhide OH).now.rd (dUnhide OW).now.rd).mono ?_
          rintro e w86 ⟨rfl, bq⟩
          clear k80 k81 k82 k83 k84 k85
          have sz87 := dHide bq.size
          replace X0 := dHide ((dUnhide X0).below bq)
          replace X1 := dHide ((dUnhide X1).below bq)
          replace XW := dHide ((dUnhide XW).below bq)
          replace OW := dHide ((dUnhide OW).below bq)
          replace XG := dHide ((dUnhide XG).below bq)
          replace MG := dHide ((dUnhide MG).below bq)
          replace XH := dHide ((dUnhide XH).below bq)
          replace OH := dHide ((dUnhide OH).below bq)
          replace B := belowThen B bq
          clear bq
          have k88 := (dUnhide XG).now 0 _ rfl
          have k89 := (dUnhide XG).now 1 _ rfl
          have k90 := (dUnhide XG).now 2 _ rfl
          go_wp2_with fail
          refine (heldStore_ _ R 1 _ (by omega) (by omega) (dUnhide MG).now.rd).mono ?_
          rintro e w91 ⟨rfl, bh⟩
          clear k88 k89 k90
          have sz92 := dHide bh.size
          replace X0 := dHide ((dUnhide X0).below bh)
          replace X1 := dHide ((dUnhide X1).below bh)
          replace XW := dHide ((dUnhide XW).below bh)
          replace OW := dHide ((dUnhide OW).below bh)
          replace XG := dHide ((dUnhide XG).below bh)
          replace MG := dHide ((dUnhide MG).below bh)
          replace XH := dHide ((dUnhide XH).below bh)
          replace OH := dHide ((dUnhide OH).below bh)
          replace B := belowThen B bh
          clear bh
          clear X0 X1 XW OW XG MG XH OH
          go_wp2
          go_ret
          exact ⟨rfl, B⟩
end Go.Proofs.Ytenpnnocdjakdaa
