/- FnExactMendNew: both answers, and the law's walk (printed by tools/mkl9.py). -/
import Derived.Test.YtjbfpmackocgnaaQ9N
import Derived.Deep.RegionHeld3
import Derived.Deep.DeepCutAuto
namespace Go.Proofs.Ytjbfpmackocgnaa
open Go.ChangeShapes Go.WideShapes Go.ChangeAt Go.RowKit
set_option linter.unusedVariables false
theorem bothFnExactMendNew (m0 m1 : Int) (ok0 : okInt m0) (ok1 : okInt m1) : ∃ (R : Mn), cntMend R ≤ 8388608 ∧ (∀ W, Calls Try.prog 43 #[.int .i64 m0, .int .i64 m1] W fun e w' => ∃ u, e = .returned u ∧ Sits (OwMend W.heap.size w'.heap.size u R) W.heap.size w'.heap.size w' ∧ Below W.heap.size W w') ∧ (∀ W, Calls Try.prog 25 #[.int .i64 m0, .int .i64 m1] W fun e w' => ∃ u, e = .returned u ∧ Sits (OwMend W.heap.size w'.heap.size u R) W.heap.size w'.heap.size w' ∧ Below W.heap.size W w') := bothMendNew_ m0 m1 ok0 ok1
set_option maxHeartbeats 4000000 in
set_option maxRecDepth 100000 in
theorem walkFnExactMendNew (v0 v1 : Value) (m0 : Int) (m1 : Int) (w : World) (i0 : IsInt v0 m0 w) (i1 : IsInt v1 m1 w) :
    Calls Try.prog 8 #[v0, v1] w fun r w' => r = .returned (.bool true) ∧ Below w.heap.size w w' := by
  obtain ⟨rfl, ok0⟩ := i0
  obtain ⟨rfl, ok1⟩ := i1
  have ha : ∀ (w : World) o, Below w.heap.size w (w.alloc o) := fun w o => (Below.refl _ _).alloc (Nat.le_refl _) o
  obtain ⟨R, hR, p1, p2⟩ := bothFnExactMendNew m0 m1 ok0 ok1 
  have CP := dHide p1
  have CI := dHide p2
  clear p1 p2  ok0 ok1
  go_enter Try.func8, Try.ntmps8
  go_wp2_with fail
  have B := Below.refl w.heap.size w
  refine (dUnhide CP _).mono ?_
  rintro e w3 ⟨uw, rfl, OW, bw⟩
  have sz1 := dHide bw.size
  replace B := belowThen B bw
  replace OW := dHide OW
  clear bw CP
  obtain ⟨uwsa, uwsc, uwea, uwec, uwwa, uwwc, rfl, uwl1, uwl2, uwl3⟩ := formMend (dUnhide OW).now.rd
  have X2 := Sits.box w3 #[.int .i64 R.bye, .int .i64 R.epoch, .slice uwsa R.sealed.length uwsc, .slice uwea R.seen.length uwec, .bool R.planned, .slice uwwa R.wrote.length uwwc] 47
  have ba := ha w3 (.cells #[.int .i64 R.bye, .int .i64 R.epoch, .slice uwsa R.sealed.length uwsc, .slice uwea R.seen.length uwec, .bool R.planned, .slice uwwa R.wrote.length uwwc] 47)
  have sz4 := dHide ba.size
  replace OW := dHide ((dUnhide OW).below ba)
  replace B := belowThen B ba
  have sz5 : Hid (w3.heap.size + 1 = (w3.alloc (.cells #[.int .i64 R.bye, .int .i64 R.epoch, .slice uwsa R.sealed.length uwsc, .slice uwea R.seen.length uwec, .bool R.planned, .slice uwwa R.wrote.length uwwc] 47)).heap.size) := by simp [Hid]
  replace X2 := dHide X2
  clear ba
  go_wp2_with fail
  generalize hbx3 : w3.heap.size = bx3 at *
  generalize w3.alloc (.cells #[.int .i64 R.bye, .int .i64 R.epoch, .slice uwsa R.sealed.length uwsc, .slice uwea R.seen.length uwec, .bool R.planned, .slice uwwa R.wrote.length uwwc] 47) = w6 at *
  have sz7 := dHide hbx3
  clear hbx3
  refine (dUnhide CI _).mono ?_
  rintro e w8 ⟨ug, rfl, OG, b9⟩
  have sz10 := dHide b9.size
  replace OW := dHide ((dUnhide OW).below b9)
  replace X2 := dHide ((dUnhide X2).below b9)
  replace B := belowThen B b9
  replace OG := dHide OG
  clear b9
  obtain ⟨ugsa, ugsc, ugea, ugec, ugwa, ugwc, rfl, ugl1, ugl2, ugl3⟩ := formMend (dUnhide OG).now.rd
  have X11 := Sits.box w8 #[.int .i64 R.bye, .int .i64 R.epoch, .slice ugsa R.sealed.length ugsc, .slice ugea R.seen.length ugec, .bool R.planned, .slice ugwa R.wrote.length ugwc] 47
  have ba := ha w8 (.cells #[.int .i64 R.bye, .int .i64 R.epoch, .slice ugsa R.sealed.length ugsc, .slice ugea R.seen.length ugec, .bool R.planned, .slice ugwa R.wrote.length ugwc] 47)
  have sz13 := dHide ba.size
  replace OW := dHide ((dUnhide OW).below ba)
  replace X2 := dHide ((dUnhide X2).below ba)
  replace OG := dHide ((dUnhide OG).below ba)
  replace B := belowThen B ba
  have sz14 : Hid (w8.heap.size + 1 = (w8.alloc (.cells #[.int .i64 R.bye, .int .i64 R.epoch, .slice ugsa R.sealed.length ugsc, .slice ugea R.seen.length ugec, .bool R.planned, .slice ugwa R.wrote.length ugwc] 47)).heap.size) := by simp [Hid]
  replace X11 := dHide X11
  clear ba
  have k15 := (dUnhide X11).now 0 _ rfl
  have k16 := (dUnhide X11).now 1 _ rfl
  have k17 := (dUnhide X11).now 2 _ rfl
  have k18 := (dUnhide X11).now 3 _ rfl
  have k19 := (dUnhide X11).now 4 _ rfl
  have k20 := (dUnhide X11).now 5 _ rfl
  have k21 := (dUnhide X2).now 0 _ rfl
  have k22 := (dUnhide X2).now 1 _ rfl
  have k23 := (dUnhide X2).now 2 _ rfl
  have k24 := (dUnhide X2).now 3 _ rfl
  have k25 := (dUnhide X2).now 4 _ rfl
  have k26 := (dUnhide X2).now 5 _ rfl
  go_wp2_with fail
  generalize hbx12 : w8.heap.size = bx12 at *
  generalize w8.alloc (.cells #[.int .i64 R.bye, .int .i64 R.epoch, .slice ugsa R.sealed.length ugsc, .slice ugea R.seen.length ugec, .bool R.planned, .slice ugwa R.wrote.length ugwc] 47) = w27 at *
  have sz28 := dHide hbx12
  clear hbx12
  refine (eqMend_ _ _ _ _ (dUnhide OG).now.rd (dUnhide OW).now.rd).mono ?_
  rintro e w29 ⟨rfl, b30⟩
  clear k15 k16 k17 k18 k19 k20 k21 k22 k23 k24 k25 k26
  have sz31 := dHide b30.size
  replace OW := dHide ((dUnhide OW).below b30)
  replace X2 := dHide ((dUnhide X2).below b30)
  replace OG := dHide ((dUnhide OG).below b30)
  replace X11 := dHide ((dUnhide X11).below b30)
  replace B := belowThen B b30
  clear b30
  have k32 := (dUnhide X11).now 0 _ rfl
  have k33 := (dUnhide X11).now 1 _ rfl
  have k34 := (dUnhide X11).now 2 _ rfl
  have k35 := (dUnhide X11).now 3 _ rfl
  have k36 := (dUnhide X11).now 4 _ rfl
  have k37 := (dUnhide X11).now 5 _ rfl
  go_wp2_with fail
  refine (markMend_ _ _ _ _ 1 _ (by omega) (by omega) (dUnhide OG)).mono ?_
  rintro e w38 ⟨rfl, M40, b39⟩
  clear k32 k33 k34 k35 k36 k37
  replace OW := dHide ((dUnhide OW).wr b39 (by have := dUnhide sz1; have := dUnhide sz4; have := dUnhide sz5; have := dUnhide sz7; have := dUnhide sz10; have := dUnhide sz13; have := dUnhide sz14; have := dUnhide sz28; have := dUnhide sz31; omega))
  replace X2 := dHide ((dUnhide X2).wr b39 (by have := dUnhide sz1; have := dUnhide sz4; have := dUnhide sz5; have := dUnhide sz7; have := dUnhide sz10; have := dUnhide sz13; have := dUnhide sz14; have := dUnhide sz28; have := dUnhide sz31; omega))
  replace X11 := dHide ((dUnhide X11).wr b39 (by have := dUnhide sz1; have := dUnhide sz4; have := dUnhide sz5; have := dUnhide sz7; have := dUnhide sz10; have := dUnhide sz13; have := dUnhide sz14; have := dUnhide sz28; have := dUnhide sz31; omega))
  replace B := b39.below B B.size (by have := dUnhide sz1; have := dUnhide sz4; have := dUnhide sz5; have := dUnhide sz7; have := dUnhide sz10; have := dUnhide sz13; have := dUnhide sz14; have := dUnhide sz28; have := dUnhide sz31; omega)
  have sz41 := dHide b39.size
  replace M40 := dHide M40
  clear b39 OG
  have k42 := (dUnhide X11).now 0 _ rfl
  have k43 := (dUnhide X11).now 1 _ rfl
  have k44 := (dUnhide X11).now 2 _ rfl
  have k45 := (dUnhide X11).now 3 _ rfl
  have k46 := (dUnhide X11).now 4 _ rfl
  have k47 := (dUnhide X11).now 5 _ rfl
  go_wp2_with fail
  refine (heldMend_ _ R 1 _ (by omega) (by omega) (dUnhide M40).now.rd).mono ?_
  rintro e w48 ⟨rfl, b49⟩
  clear k42 k43 k44 k45 k46 k47
  have sz50 := dHide b49.size
  replace OW := dHide ((dUnhide OW).below b49)
  replace X2 := dHide ((dUnhide X2).below b49)
  replace X11 := dHide ((dUnhide X11).below b49)
  replace M40 := dHide ((dUnhide M40).below b49)
  replace B := belowThen B b49
  clear b49
  have hq : ¬ (((1 + cntMend R : Nat) : Int) < 0) := by omega
  go_wp2_with fail
  refine (dUnhide CI _).mono ?_
  rintro e w51 ⟨uh, rfl, OH, b52⟩
  have sz53 := dHide b52.size
  replace OW := dHide ((dUnhide OW).below b52)
  replace X2 := dHide ((dUnhide X2).below b52)
  replace X11 := dHide ((dUnhide X11).below b52)
  replace M40 := dHide ((dUnhide M40).below b52)
  replace B := belowThen B b52
  replace OH := dHide OH
  clear b52
  obtain ⟨uhsa, uhsc, uhea, uhec, uhwa, uhwc, rfl, uhl1, uhl2, uhl3⟩ := formMend (dUnhide OH).now.rd
  have X54 := Sits.box w51 #[.int .i64 R.bye, .int .i64 R.epoch, .slice uhsa R.sealed.length uhsc, .slice uhea R.seen.length uhec, .bool R.planned, .slice uhwa R.wrote.length uhwc] 47
  have ba := ha w51 (.cells #[.int .i64 R.bye, .int .i64 R.epoch, .slice uhsa R.sealed.length uhsc, .slice uhea R.seen.length uhec, .bool R.planned, .slice uhwa R.wrote.length uhwc] 47)
  have sz56 := dHide ba.size
  replace OW := dHide ((dUnhide OW).below ba)
  replace X2 := dHide ((dUnhide X2).below ba)
  replace X11 := dHide ((dUnhide X11).below ba)
  replace M40 := dHide ((dUnhide M40).below ba)
  replace OH := dHide ((dUnhide OH).below ba)
  replace B := belowThen B ba
  have sz57 : Hid (w51.heap.size + 1 = (w51.alloc (.cells #[.int .i64 R.bye, .int .i64 R.epoch, .slice uhsa R.sealed.length uhsc, .slice uhea R.seen.length uhec, .bool R.planned, .slice uhwa R.wrote.length uhwc] 47)).heap.size) := by simp [Hid]
  replace X54 := dHide X54
  clear ba
  have k58 := (dUnhide X54).now 0 _ rfl
  have k59 := (dUnhide X54).now 1 _ rfl
  have k60 := (dUnhide X54).now 2 _ rfl
  have k61 := (dUnhide X54).now 3 _ rfl
  have k62 := (dUnhide X54).now 4 _ rfl
  have k63 := (dUnhide X54).now 5 _ rfl
  have k64 := (dUnhide X2).now 0 _ rfl
  have k65 := (dUnhide X2).now 1 _ rfl
  have k66 := (dUnhide X2).now 2 _ rfl
  have k67 := (dUnhide X2).now 3 _ rfl
  have k68 := (dUnhide X2).now 4 _ rfl
  have k69 := (dUnhide X2).now 5 _ rfl
  go_wp2_with fail
  generalize hbx55 : w51.heap.size = bx55 at *
  generalize w51.alloc (.cells #[.int .i64 R.bye, .int .i64 R.epoch, .slice uhsa R.sealed.length uhsc, .slice uhea R.seen.length uhec, .bool R.planned, .slice uhwa R.wrote.length uhwc] 47) = w70 at *
  have sz71 := dHide hbx55
  clear hbx55
  refine (eqMend_ _ _ _ _ (dUnhide OH).now.rd (dUnhide OW).now.rd).mono ?_
  rintro e w72 ⟨rfl, b73⟩
  clear k58 k59 k60 k61 k62 k63 k64 k65 k66 k67 k68 k69
  have sz74 := dHide b73.size
  replace OW := dHide ((dUnhide OW).below b73)
  replace X2 := dHide ((dUnhide X2).below b73)
  replace X11 := dHide ((dUnhide X11).below b73)
  replace M40 := dHide ((dUnhide M40).below b73)
  replace OH := dHide ((dUnhide OH).below b73)
  replace X54 := dHide ((dUnhide X54).below b73)
  replace B := belowThen B b73
  clear b73
  have k75 := (dUnhide X11).now 0 _ rfl
  have k76 := (dUnhide X11).now 1 _ rfl
  have k77 := (dUnhide X11).now 2 _ rfl
  have k78 := (dUnhide X11).now 3 _ rfl
  have k79 := (dUnhide X11).now 4 _ rfl
  have k80 := (dUnhide X11).now 5 _ rfl
  go_wp2_with fail
  refine (heldMend_ _ R 1 _ (by omega) (by omega) (dUnhide M40).now.rd).mono ?_
  rintro e w81 ⟨rfl, b82⟩
  clear k75 k76 k77 k78 k79 k80
  have sz83 := dHide b82.size
  replace OW := dHide ((dUnhide OW).below b82)
  replace X2 := dHide ((dUnhide X2).below b82)
  replace X11 := dHide ((dUnhide X11).below b82)
  replace M40 := dHide ((dUnhide M40).below b82)
  replace OH := dHide ((dUnhide OH).below b82)
  replace X54 := dHide ((dUnhide X54).below b82)
  replace B := belowThen B b82
  clear b82
  clear OW X2 X11 M40 OH X54
  go_wp2
  go_ret
  exact ⟨rfl, B⟩
end Go.Proofs.Ytjbfpmackocgnaa
