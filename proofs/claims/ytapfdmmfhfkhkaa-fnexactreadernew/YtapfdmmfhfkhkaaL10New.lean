/- FnExactReaderNew: both answers, and the law's walk (printed by tools/mkl10.py). -/
import Derived.Test.YtapfdmmfhfkhkaaRdO
import Derived.Deep.RegionHeld3
import Derived.Deep.DeepCutAuto
namespace Go.Proofs.Ytapfdmmfhfkhkaa
open Go.ChangeShapes Go.WideShapes Go.ChangeAt Go.RowKit
set_option linter.unusedVariables false
theorem bothFnExactReaderNew  : ∃ (R : Rr), cntReader R ≤ 8388608 ∧ (∀ W, Calls Try.prog 20 #[] W fun e w' => ∃ u, e = .returned u ∧ Sits (OwReader W.heap.size w'.heap.size u R) W.heap.size w'.heap.size w' ∧ Below W.heap.size W w') ∧ (∀ W, Calls Try.prog 21 #[] W fun e w' => ∃ u, e = .returned u ∧ Sits (OwReader W.heap.size w'.heap.size u R) W.heap.size w'.heap.size w' ∧ Below W.heap.size W w') := bothReaderNew_ 
set_option maxHeartbeats 4000000 in
set_option maxRecDepth 100000 in
theorem walkFnExactReaderNew  (w : World)  :
    Calls Try.prog 5 #[] w fun r w' => r = .returned (.bool true) ∧ Below w.heap.size w w' := by
  have ha : ∀ (w : World) o, Below w.heap.size w (w.alloc o) := fun w o => (Below.refl _ _).alloc (Nat.le_refl _) o
  obtain ⟨R, hR, p1, p2⟩ := bothFnExactReaderNew   
  have CP := dHide p1
  have CI := dHide p2
  clear p1 p2  
  go_enter Try.func5, Try.ntmps5
  go_wp2_with fail
  have B := Below.refl w.heap.size w
  refine (dUnhide CP _).mono ?_
  rintro e w3 ⟨uw, rfl, OW, bw⟩
  have sz1 := dHide bw.size
  replace B := belowThen B bw
  replace OW := dHide OW
  clear bw CP
  obtain ⟨uwa, uwc, rfl, uwl⟩ := formReader (dUnhide OW).now.rd
  have X2 := Sits.box w3 #[.int .i64 R.epoch, .int .i64 R.off, .slice uwa R.out.length uwc] 45
  have ba := ha w3 (.cells #[.int .i64 R.epoch, .int .i64 R.off, .slice uwa R.out.length uwc] 45)
  have sz4 := dHide ba.size
  replace OW := dHide ((dUnhide OW).below ba)
  replace B := belowThen B ba
  have sz5 : Hid (w3.heap.size + 1 = (w3.alloc (.cells #[.int .i64 R.epoch, .int .i64 R.off, .slice uwa R.out.length uwc] 45)).heap.size) := by simp [Hid]
  replace X2 := dHide X2
  clear ba
  go_wp2_with fail
  generalize hbx3 : w3.heap.size = bx3 at *
  generalize w3.alloc (.cells #[.int .i64 R.epoch, .int .i64 R.off, .slice uwa R.out.length uwc] 45) = w6 at *
  have sz7 := dHide hbx3
  clear hbx3
  refine (dUnhide CI _).mono ?_
  rintro e w8 ⟨ug, rfl, OG, b9⟩
  have sz10 := dHide b9.size
  replace OW := dHide ((dUnhide OW).below b9)
  replace X2 := dHide ((dUnhide X2).below b9)
  replace B := belowThen B b9
  replace OG := dHide OG
  clear b9
  obtain ⟨uga, ugc, rfl, ugl⟩ := formReader (dUnhide OG).now.rd
  have X11 := Sits.box w8 #[.int .i64 R.epoch, .int .i64 R.off, .slice uga R.out.length ugc] 45
  have ba := ha w8 (.cells #[.int .i64 R.epoch, .int .i64 R.off, .slice uga R.out.length ugc] 45)
  have sz13 := dHide ba.size
  replace OW := dHide ((dUnhide OW).below ba)
  replace X2 := dHide ((dUnhide X2).below ba)
  replace OG := dHide ((dUnhide OG).below ba)
  replace B := belowThen B ba
  have sz14 : Hid (w8.heap.size + 1 = (w8.alloc (.cells #[.int .i64 R.epoch, .int .i64 R.off, .slice uga R.out.length ugc] 45)).heap.size) := by simp [Hid]
  replace X11 := dHide X11
  clear ba
  have k15 := (dUnhide X11).now 0 _ rfl
  have k16 := (dUnhide X11).now 1 _ rfl
  have k17 := (dUnhide X11).now 2 _ rfl
  have k18 := (dUnhide X2).now 0 _ rfl
  have k19 := (dUnhide X2).now 1 _ rfl
  have k20 := (dUnhide X2).now 2 _ rfl
  go_wp2_with fail
  generalize hbx12 : w8.heap.size = bx12 at *
  generalize w8.alloc (.cells #[.int .i64 R.epoch, .int .i64 R.off, .slice uga R.out.length ugc] 45) = w21 at *
  have sz22 := dHide hbx12
  clear hbx12
  refine (eqReader_ _ _ _ _ (dUnhide OG).now.rd (dUnhide OW).now.rd).mono ?_
  rintro e w23 ⟨rfl, b24⟩
  clear k15 k16 k17 k18 k19 k20
  have sz25 := dHide b24.size
  replace OW := dHide ((dUnhide OW).below b24)
  replace X2 := dHide ((dUnhide X2).below b24)
  replace OG := dHide ((dUnhide OG).below b24)
  replace X11 := dHide ((dUnhide X11).below b24)
  replace B := belowThen B b24
  clear b24
  have k26 := (dUnhide X11).now 0 _ rfl
  have k27 := (dUnhide X11).now 1 _ rfl
  have k28 := (dUnhide X11).now 2 _ rfl
  go_wp2_with fail
  refine (markReader_ _ _ _ _ 1 _ (by omega) (by omega) (dUnhide OG)).mono ?_
  rintro e w29 ⟨rfl, M31, b30⟩
  clear k26 k27 k28
  replace OW := dHide ((dUnhide OW).wr b30 (by have := dUnhide sz1; have := dUnhide sz4; have := dUnhide sz5; have := dUnhide sz7; have := dUnhide sz10; have := dUnhide sz13; have := dUnhide sz14; have := dUnhide sz22; have := dUnhide sz25; omega))
  replace X2 := dHide ((dUnhide X2).wr b30 (by have := dUnhide sz1; have := dUnhide sz4; have := dUnhide sz5; have := dUnhide sz7; have := dUnhide sz10; have := dUnhide sz13; have := dUnhide sz14; have := dUnhide sz22; have := dUnhide sz25; omega))
  replace X11 := dHide ((dUnhide X11).wr b30 (by have := dUnhide sz1; have := dUnhide sz4; have := dUnhide sz5; have := dUnhide sz7; have := dUnhide sz10; have := dUnhide sz13; have := dUnhide sz14; have := dUnhide sz22; have := dUnhide sz25; omega))
  replace B := b30.below B B.size (by have := dUnhide sz1; have := dUnhide sz4; have := dUnhide sz5; have := dUnhide sz7; have := dUnhide sz10; have := dUnhide sz13; have := dUnhide sz14; have := dUnhide sz22; have := dUnhide sz25; omega)
  have sz32 := dHide b30.size
  replace M31 := dHide M31
  clear b30 OG
  have k33 := (dUnhide X11).now 0 _ rfl
  have k34 := (dUnhide X11).now 1 _ rfl
  have k35 := (dUnhide X11).now 2 _ rfl
  go_wp2_with fail
  refine (heldReader_ _ R 1 _ (by omega) (by omega) (dUnhide M31).now.rd).mono ?_
  rintro e w36 ⟨rfl, b37⟩
  clear k33 k34 k35
  have sz38 := dHide b37.size
  replace OW := dHide ((dUnhide OW).below b37)
  replace X2 := dHide ((dUnhide X2).below b37)
  replace X11 := dHide ((dUnhide X11).below b37)
  replace M31 := dHide ((dUnhide M31).below b37)
  replace B := belowThen B b37
  clear b37
  have hq : ¬ (((1 + cntReader R : Nat) : Int) < 0) := by omega
  go_wp2_with fail
  refine (dUnhide CI _).mono ?_
  rintro e w39 ⟨uh, rfl, OH, b40⟩
  have sz41 := dHide b40.size
  replace OW := dHide ((dUnhide OW).below b40)
  replace X2 := dHide ((dUnhide X2).below b40)
  replace X11 := dHide ((dUnhide X11).below b40)
  replace M31 := dHide ((dUnhide M31).below b40)
  replace B := belowThen B b40
  replace OH := dHide OH
  clear b40
  obtain ⟨uha, uhc, rfl, uhl⟩ := formReader (dUnhide OH).now.rd
  have X42 := Sits.box w39 #[.int .i64 R.epoch, .int .i64 R.off, .slice uha R.out.length uhc] 45
  have ba := ha w39 (.cells #[.int .i64 R.epoch, .int .i64 R.off, .slice uha R.out.length uhc] 45)
  have sz44 := dHide ba.size
  replace OW := dHide ((dUnhide OW).below ba)
  replace X2 := dHide ((dUnhide X2).below ba)
  replace X11 := dHide ((dUnhide X11).below ba)
  replace M31 := dHide ((dUnhide M31).below ba)
  replace OH := dHide ((dUnhide OH).below ba)
  replace B := belowThen B ba
  have sz45 : Hid (w39.heap.size + 1 = (w39.alloc (.cells #[.int .i64 R.epoch, .int .i64 R.off, .slice uha R.out.length uhc] 45)).heap.size) := by simp [Hid]
  replace X42 := dHide X42
  clear ba
  have k46 := (dUnhide X42).now 0 _ rfl
  have k47 := (dUnhide X42).now 1 _ rfl
  have k48 := (dUnhide X42).now 2 _ rfl
  have k49 := (dUnhide X2).now 0 _ rfl
  have k50 := (dUnhide X2).now 1 _ rfl
  have k51 := (dUnhide X2).now 2 _ rfl
  go_wp2_with fail
  generalize hbx43 : w39.heap.size = bx43 at *
  generalize w39.alloc (.cells #[.int .i64 R.epoch, .int .i64 R.off, .slice uha R.out.length uhc] 45) = w52 at *
  have sz53 := dHide hbx43
  clear hbx43
  refine (eqReader_ _ _ _ _ (dUnhide OH).now.rd (dUnhide OW).now.rd).mono ?_
  rintro e w54 ⟨rfl, b55⟩
  clear k46 k47 k48 k49 k50 k51
  have sz56 := dHide b55.size
  replace OW := dHide ((dUnhide OW).below b55)
  replace X2 := dHide ((dUnhide X2).below b55)
  replace X11 := dHide ((dUnhide X11).below b55)
  replace M31 := dHide ((dUnhide M31).below b55)
  replace OH := dHide ((dUnhide OH).below b55)
  replace X42 := dHide ((dUnhide X42).below b55)
  replace B := belowThen B b55
  clear b55
  have k57 := (dUnhide X11).now 0 _ rfl
  have k58 := (dUnhide X11).now 1 _ rfl
  have k59 := (dUnhide X11).now 2 _ rfl
  go_wp2_with fail
  refine (heldReader_ _ R 1 _ (by omega) (by omega) (dUnhide M31).now.rd).mono ?_
  rintro e w60 ⟨rfl, b61⟩
  clear k57 k58 k59
  have sz62 := dHide b61.size
  replace OW := dHide ((dUnhide OW).below b61)
  replace X2 := dHide ((dUnhide X2).below b61)
  replace X11 := dHide ((dUnhide X11).below b61)
  replace M31 := dHide ((dUnhide M31).below b61)
  replace OH := dHide ((dUnhide OH).below b61)
  replace X42 := dHide ((dUnhide X42).below b61)
  replace B := belowThen B b61
  clear b61
  clear OW X2 X11 M31 OH X42
  go_wp2
  go_ret
  exact ⟨rfl, B⟩
end Go.Proofs.Ytapfdmmfhfkhkaa
