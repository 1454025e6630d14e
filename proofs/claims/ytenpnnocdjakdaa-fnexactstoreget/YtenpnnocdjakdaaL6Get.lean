/- FnExactStoreGet: both answers, and the law's walk (printed by tools/mkl6.py). -/
import Derived.Test.YtenpnnocdjakdaaQ6Get
import Derived.Deep.RegionHeld3
import Derived.Deep.DeepCutAuto
namespace Go.Proofs.Ytenpnnocdjakdaa
open Go.ChangeShapes Go.WideShapes Go.ChangeAt Go.RowKit
set_option linter.unusedVariables false
theorem bothFnExactStoreGet (m0 : St) (m1 : Int) (ok0 : okStore m0) (ok1 : okInt m1) (hs0 : sizStore m0 ≤ 1048576) : ∃ (R : Ent) (s1 : Bool), (∀ W v0, RdStore v0 m0 W → Calls Try.prog 51 #[v0, .int .i64 m1] W fun e w' => e = .returned (.tuple #[R.val, .bool s1]) ∧ Below W.heap.size W w') ∧ (∀ W v0, RdStore v0 m0 W → Calls Try.prog 26 #[v0, .int .i64 m1] W fun e w' => e = .returned (.tuple #[R.val, .bool s1]) ∧ Below W.heap.size W w') := ⟨_, _, specGet_sits m0 m1 ok0 ok1, implGet_sits m0 m1 ok0 ok1⟩
set_option maxHeartbeats 4000000 in
set_option maxRecDepth 100000 in
theorem walkFnExactStoreGet (v0 v1 : Value) (m0 : St) (m1 : Int) (w : World) (i0 : IsStore v0 m0 w) (i1 : IsInt v1 m1 w) :
    Calls Try.prog 11 #[v0, v1] w fun r w' => r = .returned (.bool true) ∧ Below w.heap.size w w' := by
  obtain ⟨rfl, ok1⟩ := i1
  obtain ⟨r0, ok0⟩ := i0
  have ha : ∀ (w : World) o, Below w.heap.size w (w.alloc o) := fun w o => (Below.refl _ _).alloc (Nat.le_refl _) o
  have A0 := dHide fun W (hb : Below w.heap.size w W) => r0.below hb
  obtain ⟨v0ka, v0kc, v0la, v0lc, rfl, v0l1, v0l2⟩ := formStore r0
  by_cases z0 : (1048576 : Int) < (sizStore m0 : Int)
  · have CS := dHide fun W (hb : Below w.heap.size w W) => szStore_ _ m0 1048576 (by omega) (by omega) (txtS_of ok0) W (dUnhide A0 W hb)
    rw [lft_no z0] at CS
    clear z0
    go_enter Try.func11, Try.ntmps11
    go_wp2_with fail
    refine (dUnhide CS _ (ha _ _)).mono ?_
    rintro e w1 ⟨rfl, b1⟩
    have B1 := belowThen (ha w _) b1
    clear b1 ha CS
    go_wp2
    go_ret
    exact ⟨rfl, B1⟩
  have hs0 : sizStore m0 ≤ 1048576 := by omega
  have hc0 := cntStore_le hs0
  obtain ⟨R, s1, p1, p2⟩ := bothFnExactStoreGet m0 m1 ok0 ok1 hs0
  obtain ⟨ep, ew, eh, ed⟩ := R
  simp only [Ent.val] at p1 p2
  have CP := dHide p1
  have CI := dHide p2
  have CS := dHide fun W (hb : Below w.heap.size w W) => szStore_ _ m0 1048576 (by omega) (by omega) (txtS_of ok0) W (dUnhide A0 W hb)
  rw [lft_yes z0] at CS
  have z0' : ¬ ((1048576 : Int) - (sizStore m0 : Int) < 0) := by omega
  clear p1 p2 r0 ok0 ok1
  go_enter Try.func11, Try.ntmps11
  go_wp2_with fail
  have B := ha w (.cells #[.slice v0ka m0.kept.length v0kc, .slice v0la m0.late.length v0lc, .int .i64 m0.lock] 48)
  have X0 := dHide (Sits.box w #[.slice v0ka m0.kept.length v0kc, .slice v0la m0.late.length v0lc, .int .i64 m0.lock] 48)
  have sz0 : Hid (w.heap.size + 1 = (w.alloc (.cells #[.slice v0ka m0.kept.length v0kc, .slice v0la m0.late.length v0lc, .int .i64 m0.lock] 48)).heap.size) := by simp [Hid]
  generalize w.alloc (.cells #[.slice v0ka m0.kept.length v0kc, .slice v0la m0.late.length v0lc, .int .i64 m0.lock] 48) = wb at *
  refine (dUnhide CS _ B).mono ?_
  rintro e ws ⟨rfl, bs⟩
  have sz1 := dHide bs.size
  replace X0 := dHide ((dUnhide X0).below bs)
  replace B := belowThen B bs
  clear bs CS
  have k2 := (dUnhide X0).now 0 _ rfl
  have k3 := (dUnhide X0).now 1 _ rfl
  have k4 := (dUnhide X0).now 2 _ rfl
  go_wp2_with fail
  refine (toStore_ _ m0 _ hs0 (dUnhide A0 _ B)).mono ?_
  rintro e w7 ⟨u6, rfl, T5, b8⟩
  clear k2 k3 k4
  have sz9 := dHide b8.size
  replace X0 := dHide ((dUnhide X0).below b8)
  replace B := belowThen B b8
  replace T5 := dHide T5
  clear b8
  obtain ⟨u6ka, u6kc, u6la, u6lc, rfl, u6l1, u6l2⟩ := formStore (dUnhide T5).now.rd
  go_wp2_with fail
  refine (dUnhide CP _ _ (dUnhide T5).now.rd).mono ?_
  rintro e w3 ⟨rfl, bw⟩
  clear T5
  have sz10 := dHide bw.size
  replace X0 := dHide ((dUnhide X0).below bw)
  replace B := belowThen B bw
  clear bw CP
  have X11 := Sits.box w3 #[.int .i64 ep, .int .i64 ew, .bool eh, .string ed] 35
  have ba := ha w3 (.cells #[.int .i64 ep, .int .i64 ew, .bool eh, .string ed] 35)
  have sz13 := dHide ba.size
  replace X0 := dHide ((dUnhide X0).below ba)
  replace B := belowThen B ba
  have sz14 : Hid (w3.heap.size + 1 = (w3.alloc (.cells #[.int .i64 ep, .int .i64 ew, .bool eh, .string ed] 35)).heap.size) := by simp [Hid]
  replace X11 := dHide X11
  clear ba
  have k15 := (dUnhide X0).now 0 _ rfl
  have k16 := (dUnhide X0).now 1 _ rfl
  have k17 := (dUnhide X0).now 2 _ rfl
  go_wp2_with fail
  generalize hbx12 : w3.heap.size = bx12 at *
  generalize w3.alloc (.cells #[.int .i64 ep, .int .i64 ew, .bool eh, .string ed] 35) = w18 at *
  have sz19 := dHide hbx12
  clear hbx12
  have k20 := (dUnhide X0).now 0 _ rfl
  have k21 := (dUnhide X0).now 1 _ rfl
  have k22 := (dUnhide X0).now 2 _ rfl
  refine (toStore_ _ m0 _ hs0 (dUnhide A0 _ B)).mono ?_
  rintro e w25 ⟨u24, rfl, T23, b26⟩
  clear k20 k21 k22
  clear k15 k16 k17
  have sz27 := dHide b26.size
  replace X0 := dHide ((dUnhide X0).below b26)
  replace X11 := dHide ((dUnhide X11).below b26)
  replace B := belowThen B b26
  replace T23 := dHide T23
  clear b26
  obtain ⟨u24ka, u24kc, u24la, u24lc, rfl, u24l1, u24l2⟩ := formStore (dUnhide T23).now.rd
  go_wp2_with fail
  have X29 := Sits.box w25 #[.slice u24ka m0.kept.length u24kc, .slice u24la m0.late.length u24lc, .int .i64 m0.lock] 26
  have ba := ha w25 (.cells #[.slice u24ka m0.kept.length u24kc, .slice u24la m0.late.length u24lc, .int .i64 m0.lock] 26)
  have sz30 := dHide ba.size
  replace X0 := dHide ((dUnhide X0).below ba)
  replace X11 := dHide ((dUnhide X11).below ba)
  replace T23 := dHide ((dUnhide T23).below ba)
  replace B := belowThen B ba
  have sz31 : Hid (w25.heap.size + 1 = (w25.alloc (.cells #[.slice u24ka m0.kept.length u24kc, .slice u24la m0.late.length u24lc, .int .i64 m0.lock] 26)).heap.size) := by simp [Hid]
  replace X29 := dHide X29
  clear ba
  generalize hbx28 : w25.heap.size = bx28 at *
  generalize w25.alloc (.cells #[.slice u24ka m0.kept.length u24kc, .slice u24la m0.late.length u24lc, .int .i64 m0.lock] 26) = w32 at *
  have sz33 := dHide hbx28
  clear hbx28
  have k34 := (dUnhide X29).now 0 _ rfl
  have k35 := (dUnhide X29).now 1 _ rfl
  have k36 := (dUnhide X29).now 2 _ rfl
  refine (dUnhide CI _ _ (dUnhide T23).now.rd).mono ?_
  rintro e w37 ⟨rfl, b38⟩
  clear k34 k35 k36
  have sz39 := dHide b38.size
  replace X0 := dHide ((dUnhide X0).below b38)
  replace X11 := dHide ((dUnhide X11).below b38)
  replace T23 := dHide ((dUnhide T23).below b38)
  replace X29 := dHide ((dUnhide X29).below b38)
  replace B := belowThen B b38
  clear b38
  have X40 := Sits.box w37 #[.int .i64 ep, .int .i64 ew, .bool eh, .string ed] 35
  have ba := ha w37 (.cells #[.int .i64 ep, .int .i64 ew, .bool eh, .string ed] 35)
  have sz42 := dHide ba.size
  replace X0 := dHide ((dUnhide X0).below ba)
  replace X11 := dHide ((dUnhide X11).below ba)
  replace T23 := dHide ((dUnhide T23).below ba)
  replace X29 := dHide ((dUnhide X29).below ba)
  replace B := belowThen B ba
  have sz43 : Hid (w37.heap.size + 1 = (w37.alloc (.cells #[.int .i64 ep, .int .i64 ew, .bool eh, .string ed] 35)).heap.size) := by simp [Hid]
  replace X40 := dHide X40
  clear ba
  have k44 := (dUnhide X40).now 0 _ rfl
  have k45 := (dUnhide X40).now 1 _ rfl
  have k46 := (dUnhide X40).now 2 _ rfl
  have k47 := (dUnhide X40).now 3 _ rfl
  have k48 := (dUnhide X11).now 0 _ rfl
  have k49 := (dUnhide X11).now 1 _ rfl
  have k50 := (dUnhide X11).now 2 _ rfl
  have k51 := (dUnhide X11).now 3 _ rfl
  go_wp2_with fail
  generalize hbx41 : w37.heap.size = bx41 at *
  generalize w37.alloc (.cells #[.int .i64 ep, .int .i64 ew, .bool eh, .string ed] 35) = w52 at *
  have sz53 := dHide hbx41
  clear hbx41
  refine (eqEntry_same ⟨ep, ew, eh, ed⟩ _).mono ?_
  rintro e w54 ⟨rfl, b55⟩
  clear k44 k45 k46 k47 k48 k49 k50 k51
  have sz56 := dHide b55.size
  replace X0 := dHide ((dUnhide X0).below b55)
  replace X11 := dHide ((dUnhide X11).below b55)
  replace T23 := dHide ((dUnhide T23).below b55)
  replace X29 := dHide ((dUnhide X29).below b55)
  replace X40 := dHide ((dUnhide X40).below b55)
  replace B := belowThen B b55
  clear b55
  have k57 := (dUnhide X29).now 0 _ rfl
  have k58 := (dUnhide X29).now 1 _ rfl
  have k59 := (dUnhide X29).now 2 _ rfl
  have k60 := (dUnhide X0).now 0 _ rfl
  have k61 := (dUnhide X0).now 1 _ rfl
  have k62 := (dUnhide X0).now 2 _ rfl
  have hbr := Below.refl w54.heap.size w54
  go_wp2_with fail
  go_cut [44] (fun sv wx => sv = .bool false ∧ Below w54.heap.size w54 wx)
  case first =>
    go_region_held3 (fun W => W.cell? ⟨bx28, 0, none⟩ = some (.slice u24ka m0.kept.length u24kc) ∧ W.cell? ⟨bx28, 1, none⟩ = some (.slice u24la m0.late.length u24lc) ∧ W.cell? ⟨bx28, 2, none⟩ = some (.int .i64 m0.lock) ∧ W.cell? ⟨w.heap.size, 0, none⟩ = some (.slice v0ka m0.kept.length v0kc) ∧ W.cell? ⟨w.heap.size, 1, none⟩ = some (.slice v0la m0.late.length v0lc) ∧ W.cell? ⟨w.heap.size, 2, none⟩ = some (.int .i64 m0.lock)) (go_keep)
      (first
        | (go_at_call 39; refine (toStore_ _ m0 _ hs0 (dUnhide A0 _ (belowThen B hbr.drew))).mono ?_; rintro e w8 ⟨o8, rfl, q8, b8⟩; have hb8 := belowThen hbr.drew b8; have k63 := ((dUnhide X29).at hb8) 0 _ rfl; have k64 := ((dUnhide X29).at hb8) 1 _ rfl; have k65 := ((dUnhide X29).at hb8) 2 _ rfl; have k66 := ((dUnhide X0).at hb8) 0 _ rfl; have k67 := ((dUnhide X0).at hb8) 1 _ rfl; have k68 := ((dUnhide X0).at hb8) 2 _ rfl; have Q8 := dHide q8; obtain ⟨o8ka, o8kc, o8la, o8lc, rfl, o8l1, o8l2⟩ := formStore q8.now.rd; clear q8)
        | (go_at_call 41; refine (eqStore_ _ _ _ _ ((dUnhide T23).at hb8).rd (dUnhide Q8).now.rd).mono ?_; rintro e w9 ⟨rfl, b9⟩; have hb9 := belowThen hb8 b9; have k69 := ((dUnhide X29).at hb9) 0 _ rfl; have k70 := ((dUnhide X29).at hb9) 1 _ rfl; have k71 := ((dUnhide X29).at hb9) 2 _ rfl; have k72 := ((dUnhide X0).at hb9) 0 _ rfl; have k73 := ((dUnhide X0).at hb9) 1 _ rfl; have k74 := ((dUnhide X0).at hb9) 2 _ rfl))
    all_goals
      go_wp2_with fail
      go_meet
      case rel => exact ⟨rfl, hb9⟩
  case rest =>
    obtain ⟨rfl, bc⟩ := hcut
    clear hbr
    clear k57 k58 k59 k60 k61 k62
    have sz75 := dHide bc.size
    replace X0 := dHide ((dUnhide X0).below bc)
    replace X11 := dHide ((dUnhide X11).below bc)
    replace T23 := dHide ((dUnhide T23).below bc)
    replace X29 := dHide ((dUnhide X29).below bc)
    replace X40 := dHide ((dUnhide X40).below bc)
    replace B := belowThen B bc
    generalize wc = w76 at *
    clear bc
    clear X0 X11 T23 X29 X40
    go_wp2
    go_ret
    exact ⟨rfl, B⟩
end Go.Proofs.Ytenpnnocdjakdaa
