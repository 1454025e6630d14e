/- FnExactReaderRead: both answers, and the law's walk (printed by tools/mkl17.py). -/
import Derived.Test.YtioocibgfhgkhaaDoorHr3
import Derived.Deep.RegionHeld3
import Derived.Deep.DeepCutAuto
namespace Go.Proofs.YtioocibgfhgkhaaDoor
open Go.ChangeShapes Go.WideShapes Go.ChangeAt Go.RowKit
set_option linter.unusedVariables false
theorem bothFnExactReaderRead (m0 : List UInt8) (ok0 : okByteS m0) (hs0 : sizByteS m0 ≤ 1048576) (w : World) (hS : Hnd w) : ∃ (R : Rr) (s1 : Bool), cntReader R ≤ 16777216 ∧ (∀ W v0, RdByteS v0 m0 W → Calls Tryd.prog 13 #[v0] W fun e w' => ∃ u, e = .returned (.tuple #[u, .bool s1]) ∧ Sits (OwReader W.heap.size w'.heap.size u R) W.heap.size w'.heap.size w' ∧ Below W.heap.size W w') ∧ (∀ W, Below w.heap.size w W → ∀ v0, RdByteS v0 m0 W → Calls Tryd.prog 14 #[v0] W fun e w' => ∃ u, e = .returned (.tuple #[u, .bool s1]) ∧ Sits (OwReader W.heap.size w'.heap.size u R) W.heap.size w'.heap.size w' ∧ Below W.heap.size W w') := bothReaderRead_ m0 ok0 hs0 w hS
set_option maxHeartbeats 4000000 in
set_option maxRecDepth 100000 in
theorem walkFnExactReaderRead (v0 : Value) (m0 : List UInt8) (w : World) (i0 : RdByteS v0 m0 w) (hS : Hnd w) :
    Calls Tryd.prog 4 #[v0] w fun r w' => r = .returned (.bool true) ∧ Below w.heap.size w w' := by
  have r0 : RdByteS v0 m0 w := i0
  have ok0 : okByteS m0 := trivial
  have ha : ∀ (w : World) o, Below w.heap.size w (w.alloc o) := fun w o => (Below.refl _ _).alloc (Nat.le_refl _) o
  have A0 := dHide fun W (hb : Below w.heap.size w W) => r0.below hb
  obtain ⟨v0a, v0c, rfl, v0l⟩ := formByteS r0
  by_cases g0 : (1048576 : Int) < (m0.length : Int)
  · go_enter Tryd.func4, Tryd.ntmps4
    go_wp2
    go_ret
    exact ⟨rfl, Below.refl _ _⟩
  have hs0 : sizByteS m0 ≤ 1048576 := by unfold sizByteS; omega
  have hc0 := cntByteS_le hs0
  obtain ⟨R, s1, hR, p1, p2⟩ := bothFnExactReaderRead m0 ok0 hs0 w hS
  have CP := dHide p1
  have CI := dHide p2
  clear p1 p2 hS r0 ok0 
  go_enter Tryd.func4, Tryd.ntmps4
  go_wp2_with fail
  have B := Below.refl w.heap.size w
  refine (toByteS_ _ m0 _ hs0 (dUnhide A0 _ B)).mono ?_
  rintro e w3 ⟨u2, rfl, T1, b4⟩
  have sz5 := dHide b4.size
  replace B := belowThen B b4
  replace T1 := dHide T1
  clear b4
  obtain ⟨u2a, u2c, rfl, u2l⟩ := formByteS (dUnhide T1).now.rd
  go_wp2_with fail
  refine (dUnhide CP _ _ (dUnhide T1).now.rd).mono ?_
  rintro e w3 ⟨uw, rfl, OW, bw⟩
  clear T1
  have sz6 := dHide bw.size
  replace B := belowThen B bw
  replace OW := dHide OW
  clear bw CP
  obtain ⟨uwa, uwc, rfl, uwl⟩ := formReader (dUnhide OW).now.rd
  have X7 := Sits.box w3 #[.int .i64 R.epoch, .int .i64 R.off, .slice uwa R.out.length uwc] 36
  have ba := ha w3 (.cells #[.int .i64 R.epoch, .int .i64 R.off, .slice uwa R.out.length uwc] 36)
  have sz9 := dHide ba.size
  replace OW := dHide ((dUnhide OW).below ba)
  replace B := belowThen B ba
  have sz10 : Hid (w3.heap.size + 1 = (w3.alloc (.cells #[.int .i64 R.epoch, .int .i64 R.off, .slice uwa R.out.length uwc] 36)).heap.size) := by simp [Hid]
  replace X7 := dHide X7
  clear ba
  go_wp2_with fail
  generalize hbx8 : w3.heap.size = bx8 at *
  generalize w3.alloc (.cells #[.int .i64 R.epoch, .int .i64 R.off, .slice uwa R.out.length uwc] 36) = w11 at *
  have sz12 := dHide hbx8
  clear hbx8
  refine (toByteS_ _ m0 _ hs0 (dUnhide A0 _ B)).mono ?_
  rintro e w15 ⟨u14, rfl, T13, b16⟩
  have sz17 := dHide b16.size
  replace OW := dHide ((dUnhide OW).below b16)
  replace X7 := dHide ((dUnhide X7).below b16)
  replace B := belowThen B b16
  replace T13 := dHide T13
  clear b16
  obtain ⟨u14a, u14c, rfl, u14l⟩ := formByteS (dUnhide T13).now.rd
  go_wp2_with fail
  refine (dUnhide CI _ B _ (dUnhide T13).now.rd).mono ?_
  rintro e w18 ⟨ug, rfl, OG, b19⟩
  have sz20 := dHide b19.size
  replace OW := dHide ((dUnhide OW).below b19)
  replace X7 := dHide ((dUnhide X7).below b19)
  replace T13 := dHide ((dUnhide T13).below b19)
  replace B := belowThen B b19
  replace OG := dHide OG
  clear b19
  obtain ⟨uga, ugc, rfl, ugl⟩ := formReader (dUnhide OG).now.rd
  have X21 := Sits.box w18 #[.int .i64 R.epoch, .int .i64 R.off, .slice uga R.out.length ugc] 36
  have ba := ha w18 (.cells #[.int .i64 R.epoch, .int .i64 R.off, .slice uga R.out.length ugc] 36)
  have sz23 := dHide ba.size
  replace OW := dHide ((dUnhide OW).below ba)
  replace X7 := dHide ((dUnhide X7).below ba)
  replace T13 := dHide ((dUnhide T13).below ba)
  replace OG := dHide ((dUnhide OG).below ba)
  replace B := belowThen B ba
  have sz24 : Hid (w18.heap.size + 1 = (w18.alloc (.cells #[.int .i64 R.epoch, .int .i64 R.off, .slice uga R.out.length ugc] 36)).heap.size) := by simp [Hid]
  replace X21 := dHide X21
  clear ba
  have k25 := (dUnhide X21).now 0 _ rfl
  have k26 := (dUnhide X21).now 1 _ rfl
  have k27 := (dUnhide X21).now 2 _ rfl
  have k28 := (dUnhide X7).now 0 _ rfl
  have k29 := (dUnhide X7).now 1 _ rfl
  have k30 := (dUnhide X7).now 2 _ rfl
  go_wp2_with fail
  generalize hbx22 : w18.heap.size = bx22 at *
  generalize w18.alloc (.cells #[.int .i64 R.epoch, .int .i64 R.off, .slice uga R.out.length ugc] 36) = w31 at *
  have sz32 := dHide hbx22
  clear hbx22
  refine (eqReader_ _ _ _ _ (dUnhide OG).now.rd (dUnhide OW).now.rd).mono ?_
  rintro e w33 ⟨rfl, b34⟩
  clear k25 k26 k27 k28 k29 k30
  have sz35 := dHide b34.size
  replace OW := dHide ((dUnhide OW).below b34)
  replace X7 := dHide ((dUnhide X7).below b34)
  replace T13 := dHide ((dUnhide T13).below b34)
  replace OG := dHide ((dUnhide OG).below b34)
  replace X21 := dHide ((dUnhide X21).below b34)
  replace B := belowThen B b34
  clear b34
  go_wp2_with fail
  refine (toByteS_ _ m0 _ hs0 (dUnhide A0 _ B)).mono ?_
  rintro e w38 ⟨u37, rfl, T36, b39⟩
  have sz40 := dHide b39.size
  replace OW := dHide ((dUnhide OW).below b39)
  replace X7 := dHide ((dUnhide X7).below b39)
  replace T13 := dHide ((dUnhide T13).below b39)
  replace OG := dHide ((dUnhide OG).below b39)
  replace X21 := dHide ((dUnhide X21).below b39)
  replace B := belowThen B b39
  replace T36 := dHide T36
  clear b39
  obtain ⟨u37a, u37c, rfl, u37l⟩ := formByteS (dUnhide T36).now.rd
  go_wp2_with fail
  refine (eqByteS_ _ _ _ _ (dUnhide T13).now.rd (dUnhide T36).now.rd).mono ?_
  rintro e w41 ⟨rfl, b42⟩
  clear T36
  have sz43 := dHide b42.size
  replace OW := dHide ((dUnhide OW).below b42)
  replace X7 := dHide ((dUnhide X7).below b42)
  replace T13 := dHide ((dUnhide T13).below b42)
  replace OG := dHide ((dUnhide OG).below b42)
  replace X21 := dHide ((dUnhide X21).below b42)
  replace B := belowThen B b42
  clear b42
  go_wp2_with fail
  refine (markByteS_ _ _ _ _ 1 _ (by omega) (by omega) (dUnhide T13)).mono ?_
  rintro e w44 ⟨rfl, M46, b45⟩
  replace OW := dHide ((dUnhide OW).wr b45 (by have := dUnhide sz5; have := dUnhide sz6; have := dUnhide sz9; have := dUnhide sz10; have := dUnhide sz12; have := dUnhide sz17; have := dUnhide sz20; have := dUnhide sz23; have := dUnhide sz24; have := dUnhide sz32; have := dUnhide sz35; have := dUnhide sz40; have := dUnhide sz43; omega))
  replace X7 := dHide ((dUnhide X7).wr b45 (by have := dUnhide sz5; have := dUnhide sz6; have := dUnhide sz9; have := dUnhide sz10; have := dUnhide sz12; have := dUnhide sz17; have := dUnhide sz20; have := dUnhide sz23; have := dUnhide sz24; have := dUnhide sz32; have := dUnhide sz35; have := dUnhide sz40; have := dUnhide sz43; omega))
  replace OG := dHide ((dUnhide OG).wr b45 (by have := dUnhide sz5; have := dUnhide sz6; have := dUnhide sz9; have := dUnhide sz10; have := dUnhide sz12; have := dUnhide sz17; have := dUnhide sz20; have := dUnhide sz23; have := dUnhide sz24; have := dUnhide sz32; have := dUnhide sz35; have := dUnhide sz40; have := dUnhide sz43; omega))
  replace X21 := dHide ((dUnhide X21).wr b45 (by have := dUnhide sz5; have := dUnhide sz6; have := dUnhide sz9; have := dUnhide sz10; have := dUnhide sz12; have := dUnhide sz17; have := dUnhide sz20; have := dUnhide sz23; have := dUnhide sz24; have := dUnhide sz32; have := dUnhide sz35; have := dUnhide sz40; have := dUnhide sz43; omega))
  replace B := b45.below B B.size (by have := dUnhide sz5; have := dUnhide sz6; have := dUnhide sz9; have := dUnhide sz10; have := dUnhide sz12; have := dUnhide sz17; have := dUnhide sz20; have := dUnhide sz23; have := dUnhide sz24; have := dUnhide sz32; have := dUnhide sz35; have := dUnhide sz40; have := dUnhide sz43; omega)
  have sz47 := dHide b45.size
  replace M46 := dHide M46
  clear b45 T13
  clear M46
  have hk : ¬ (((1 + cntByteS m0 : Nat) : Int) < 0) := by omega
  have k48 := (dUnhide X21).now 0 _ rfl
  have k49 := (dUnhide X21).now 1 _ rfl
  have k50 := (dUnhide X21).now 2 _ rfl
  have k51 := (dUnhide X7).now 0 _ rfl
  have k52 := (dUnhide X7).now 1 _ rfl
  have k53 := (dUnhide X7).now 2 _ rfl
  go_wp2_with fail
  refine (eqReader_ _ _ _ _ (dUnhide OG).now.rd (dUnhide OW).now.rd).mono ?_
  rintro e w54 ⟨rfl, b55⟩
  clear k48 k49 k50 k51 k52 k53
  have sz56 := dHide b55.size
  replace OW := dHide ((dUnhide OW).below b55)
  replace X7 := dHide ((dUnhide X7).below b55)
  replace OG := dHide ((dUnhide OG).below b55)
  replace X21 := dHide ((dUnhide X21).below b55)
  replace B := belowThen B b55
  clear b55
  have k57 := (dUnhide X21).now 0 _ rfl
  have k58 := (dUnhide X21).now 1 _ rfl
  have k59 := (dUnhide X21).now 2 _ rfl
  go_wp2_with fail
  refine (markReader_ _ _ _ _ 1 _ (by omega) (by omega) (dUnhide OG)).mono ?_
  rintro e w60 ⟨rfl, M62, b61⟩
  clear k57 k58 k59
  replace OW := dHide ((dUnhide OW).wr b61 (by have := dUnhide sz5; have := dUnhide sz6; have := dUnhide sz9; have := dUnhide sz10; have := dUnhide sz12; have := dUnhide sz17; have := dUnhide sz20; have := dUnhide sz23; have := dUnhide sz24; have := dUnhide sz32; have := dUnhide sz35; have := dUnhide sz40; have := dUnhide sz43; have := dUnhide sz47; have := dUnhide sz56; omega))
  replace X7 := dHide ((dUnhide X7).wr b61 (by have := dUnhide sz5; have := dUnhide sz6; have := dUnhide sz9; have := dUnhide sz10; have := dUnhide sz12; have := dUnhide sz17; have := dUnhide sz20; have := dUnhide sz23; have := dUnhide sz24; have := dUnhide sz32; have := dUnhide sz35; have := dUnhide sz40; have := dUnhide sz43; have := dUnhide sz47; have := dUnhide sz56; omega))
  replace X21 := dHide ((dUnhide X21).wr b61 (by have := dUnhide sz5; have := dUnhide sz6; have := dUnhide sz9; have := dUnhide sz10; have := dUnhide sz12; have := dUnhide sz17; have := dUnhide sz20; have := dUnhide sz23; have := dUnhide sz24; have := dUnhide sz32; have := dUnhide sz35; have := dUnhide sz40; have := dUnhide sz43; have := dUnhide sz47; have := dUnhide sz56; omega))
  replace B := b61.below B B.size (by have := dUnhide sz5; have := dUnhide sz6; have := dUnhide sz9; have := dUnhide sz10; have := dUnhide sz12; have := dUnhide sz17; have := dUnhide sz20; have := dUnhide sz23; have := dUnhide sz24; have := dUnhide sz32; have := dUnhide sz35; have := dUnhide sz40; have := dUnhide sz43; have := dUnhide sz47; have := dUnhide sz56; omega)
  have sz63 := dHide b61.size
  replace M62 := dHide M62
  clear b61 OG
  have k64 := (dUnhide X21).now 0 _ rfl
  have k65 := (dUnhide X21).now 1 _ rfl
  have k66 := (dUnhide X21).now 2 _ rfl
  go_wp2_with fail
  refine (heldReader_ _ R 1 _ (by omega) (by omega) (dUnhide M62).now.rd).mono ?_
  rintro e w67 ⟨rfl, b68⟩
  clear k64 k65 k66
  have sz69 := dHide b68.size
  replace OW := dHide ((dUnhide OW).below b68)
  replace X7 := dHide ((dUnhide X7).below b68)
  replace X21 := dHide ((dUnhide X21).below b68)
  replace M62 := dHide ((dUnhide M62).below b68)
  replace B := belowThen B b68
  clear b68
  have hq : ¬ (((1 + cntReader R : Nat) : Int) < 0) := by omega
  go_wp2_with fail
  refine (toByteS_ _ m0 _ hs0 (dUnhide A0 _ B)).mono ?_
  rintro e w72 ⟨u71, rfl, T70, b73⟩
  have sz74 := dHide b73.size
  replace OW := dHide ((dUnhide OW).below b73)
  replace X7 := dHide ((dUnhide X7).below b73)
  replace X21 := dHide ((dUnhide X21).below b73)
  replace M62 := dHide ((dUnhide M62).below b73)
  replace B := belowThen B b73
  replace T70 := dHide T70
  clear b73
  obtain ⟨u71a, u71c, rfl, u71l⟩ := formByteS (dUnhide T70).now.rd
  go_wp2_with fail
  refine (dUnhide CI _ B _ (dUnhide T70).now.rd).mono ?_
  rintro e w75 ⟨uh, rfl, OH, b76⟩
  clear T70
  have sz77 := dHide b76.size
  replace OW := dHide ((dUnhide OW).below b76)
  replace X7 := dHide ((dUnhide X7).below b76)
  replace X21 := dHide ((dUnhide X21).below b76)
  replace M62 := dHide ((dUnhide M62).below b76)
  replace B := belowThen B b76
  replace OH := dHide OH
  clear b76
  obtain ⟨uha, uhc, rfl, uhl⟩ := formReader (dUnhide OH).now.rd
  have X78 := Sits.box w75 #[.int .i64 R.epoch, .int .i64 R.off, .slice uha R.out.length uhc] 36
  have ba := ha w75 (.cells #[.int .i64 R.epoch, .int .i64 R.off, .slice uha R.out.length uhc] 36)
  have sz80 := dHide ba.size
  replace OW := dHide ((dUnhide OW).below ba)
  replace X7 := dHide ((dUnhide X7).below ba)
  replace X21 := dHide ((dUnhide X21).below ba)
  replace M62 := dHide ((dUnhide M62).below ba)
  replace OH := dHide ((dUnhide OH).below ba)
  replace B := belowThen B ba
  have sz81 : Hid (w75.heap.size + 1 = (w75.alloc (.cells #[.int .i64 R.epoch, .int .i64 R.off, .slice uha R.out.length uhc] 36)).heap.size) := by simp [Hid]
  replace X78 := dHide X78
  clear ba
  have k82 := (dUnhide X78).now 0 _ rfl
  have k83 := (dUnhide X78).now 1 _ rfl
  have k84 := (dUnhide X78).now 2 _ rfl
  have k85 := (dUnhide X7).now 0 _ rfl
  have k86 := (dUnhide X7).now 1 _ rfl
  have k87 := (dUnhide X7).now 2 _ rfl
  go_wp2_with fail
  generalize hbx79 : w75.heap.size = bx79 at *
  generalize w75.alloc (.cells #[.int .i64 R.epoch, .int .i64 R.off, .slice uha R.out.length uhc] 36) = w88 at *
  have sz89 := dHide hbx79
  clear hbx79
  refine (eqReader_ _ _ _ _ (dUnhide OH).now.rd (dUnhide OW).now.rd).mono ?_
  rintro e w90 ⟨rfl, b91⟩
  clear k82 k83 k84 k85 k86 k87
  have sz92 := dHide b91.size
  replace OW := dHide ((dUnhide OW).below b91)
  replace X7 := dHide ((dUnhide X7).below b91)
  replace X21 := dHide ((dUnhide X21).below b91)
  replace M62 := dHide ((dUnhide M62).below b91)
  replace OH := dHide ((dUnhide OH).below b91)
  replace X78 := dHide ((dUnhide X78).below b91)
  replace B := belowThen B b91
  clear b91
  have k93 := (dUnhide X21).now 0 _ rfl
  have k94 := (dUnhide X21).now 1 _ rfl
  have k95 := (dUnhide X21).now 2 _ rfl
  go_wp2_with fail
  refine (heldReader_ _ R 1 _ (by omega) (by omega) (dUnhide M62).now.rd).mono ?_
  rintro e w96 ⟨rfl, b97⟩
  clear k93 k94 k95
  have sz98 := dHide b97.size
  replace OW := dHide ((dUnhide OW).below b97)
  replace X7 := dHide ((dUnhide X7).below b97)
  replace X21 := dHide ((dUnhide X21).below b97)
  replace M62 := dHide ((dUnhide M62).below b97)
  replace OH := dHide ((dUnhide OH).below b97)
  replace X78 := dHide ((dUnhide X78).below b97)
  replace B := belowThen B b97
  clear b97
  clear OW X7 X21 M62 OH X78
  go_wp2
  go_ret
  exact ⟨rfl, B⟩
end Go.Proofs.YtioocibgfhgkhaaDoor
