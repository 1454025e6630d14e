/- FnExactMendEntry: both answers, and the law's walk (printed by tools/mkl9.py). -/
import Derived.Test.YtjbfpmackocgnaaQ9E
import Derived.Test.YtjbfpmackocgnaaMnSd
import Derived.Test.YtjbfpmackocgnaaGbE
import Derived.Deep.RegionHeld3
import Derived.Deep.DeepCutAuto
namespace Go.Proofs.Ytjbfpmackocgnaa
open Go.ChangeShapes Go.WideShapes Go.ChangeAt Go.RowKit
set_option linter.unusedVariables false
theorem bothFnExactMendEntry (m0 : Mn) (m1 : Int) (ok0 : okMend m0) (ok1 : okInt m1) (hs0 : sizMend m0 ≤ 1048576) : ∃ (R : Ent) (s1 : Bool), (∀ W v0, RdMend v0 m0 W → Calls Try.prog 28 #[v0, .int .i64 m1] W fun e w' => e = .returned (.tuple #[R.val, .bool s1]) ∧ Below W.heap.size W w') ∧ (∀ W v0, RdMend v0 m0 W → Calls Try.prog 27 #[v0, .int .i64 m1] W fun e w' => e = .returned (.tuple #[R.val, .bool s1]) ∧ Below W.heap.size W w') := bothMendEntry_ m0 m1 ok0 ok1 hs0
set_option maxHeartbeats 4000000 in
set_option maxRecDepth 100000 in
theorem walkFnExactMendEntry (v0 v1 : Value) (m0 : Mn) (m1 : Int) (w : World) (i0 : IsMend v0 m0 w) (i1 : IsInt v1 m1 w) :
    Calls Try.prog 9 #[v0, v1] w fun r w' => r = .returned (.bool true) ∧ Below w.heap.size w w' := by
  obtain ⟨rfl, ok1⟩ := i1
  obtain ⟨r0, ok0⟩ := i0
  have ha : ∀ (w : World) o, Below w.heap.size w (w.alloc o) := fun w o => (Below.refl _ _).alloc (Nat.le_refl _) o
  have A0 := dHide fun W (hb : Below w.heap.size w W) => r0.below hb
  obtain ⟨v0sa, v0sc, v0ea, v0ec, v0wa, v0wc, rfl, v0l1, v0l2, v0l3⟩ := formMend r0
  by_cases z0 : (1048576 : Int) < (sizMend m0 : Int)
  · have CS0 := dHide fun W (hb : Below w.heap.size w W) => szMend_ _ m0 (1048576 : Int) (by omega) (by omega) (txtM_of ok0) W (dUnhide A0 W hb)
    rw [lft_no z0] at CS0
    clear z0
    go_enter Try.func9, Try.ntmps9
    go_wp2_with fail
    have B := ha w (.cells #[.int .i64 m0.bye, .int .i64 m0.epoch, .slice v0sa m0.sealed.length v0sc, .slice v0ea m0.seen.length v0ec, .bool m0.planned, .slice v0wa m0.wrote.length v0wc] 64)
    have X0 := dHide (Sits.box w #[.int .i64 m0.bye, .int .i64 m0.epoch, .slice v0sa m0.sealed.length v0sc, .slice v0ea m0.seen.length v0ec, .bool m0.planned, .slice v0wa m0.wrote.length v0wc] 64)
    have sz0 : Hid (w.heap.size + 1 = (w.alloc (.cells #[.int .i64 m0.bye, .int .i64 m0.epoch, .slice v0sa m0.sealed.length v0sc, .slice v0ea m0.seen.length v0ec, .bool m0.planned, .slice v0wa m0.wrote.length v0wc] 64)).heap.size) := by simp [Hid]
    generalize w.alloc (.cells #[.int .i64 m0.bye, .int .i64 m0.epoch, .slice v0sa m0.sealed.length v0sc, .slice v0ea m0.seen.length v0ec, .bool m0.planned, .slice v0wa m0.wrote.length v0wc] 64) = wb at *
    refine (dUnhide CS0 _ B).mono ?_
    rintro e ws0 ⟨rfl, bs⟩
    have sz1 := dHide bs.size
    replace X0 := dHide ((dUnhide X0).below bs)
    replace B := belowThen B bs
    clear bs CS0
    clear X0
    go_wp2
    go_ret
    exact ⟨rfl, B⟩
  have hs0 : sizMend m0 ≤ 1048576 := by omega
  have hc0 := cntMend_le hs0
  obtain ⟨R, s1, p1, p2⟩ := bothFnExactMendEntry m0 m1 ok0 ok1 hs0
  obtain ⟨ep, ew, eh, ed⟩ := R
  simp only [Ent.val] at p1 p2
  have CP := dHide p1
  have CI := dHide p2
  have CS0 := dHide fun W (hb : Below w.heap.size w W) => szMend_ _ m0 (1048576 : Int) (by omega) (by omega) (txtM_of ok0) W (dUnhide A0 W hb)
  rw [lft_yes z0] at CS0
  have z0' : ¬ ((1048576 : Int) - (sizMend m0 : Int) < 0) := by omega
  clear p1 p2 r0 ok0 ok1
  go_enter Try.func9, Try.ntmps9
  go_wp2_with fail
  have B := ha w (.cells #[.int .i64 m0.bye, .int .i64 m0.epoch, .slice v0sa m0.sealed.length v0sc, .slice v0ea m0.seen.length v0ec, .bool m0.planned, .slice v0wa m0.wrote.length v0wc] 64)
  have X0 := dHide (Sits.box w #[.int .i64 m0.bye, .int .i64 m0.epoch, .slice v0sa m0.sealed.length v0sc, .slice v0ea m0.seen.length v0ec, .bool m0.planned, .slice v0wa m0.wrote.length v0wc] 64)
  have sz0 : Hid (w.heap.size + 1 = (w.alloc (.cells #[.int .i64 m0.bye, .int .i64 m0.epoch, .slice v0sa m0.sealed.length v0sc, .slice v0ea m0.seen.length v0ec, .bool m0.planned, .slice v0wa m0.wrote.length v0wc] 64)).heap.size) := by simp [Hid]
  generalize w.alloc (.cells #[.int .i64 m0.bye, .int .i64 m0.epoch, .slice v0sa m0.sealed.length v0sc, .slice v0ea m0.seen.length v0ec, .bool m0.planned, .slice v0wa m0.wrote.length v0wc] 64) = wb at *
  refine (dUnhide CS0 _ B).mono ?_
  rintro e ws0 ⟨rfl, bs⟩
  have sz1 := dHide bs.size
  replace X0 := dHide ((dUnhide X0).below bs)
  replace B := belowThen B bs
  clear bs CS0
  have k2 := (dUnhide X0).now 0 _ rfl
  have k3 := (dUnhide X0).now 1 _ rfl
  have k4 := (dUnhide X0).now 2 _ rfl
  have k5 := (dUnhide X0).now 3 _ rfl
  have k6 := (dUnhide X0).now 4 _ rfl
  have k7 := (dUnhide X0).now 5 _ rfl
  go_wp2_with fail
  refine (toMend_ _ m0 _ hs0 (dUnhide A0 _ B)).mono ?_
  rintro e w10 ⟨u9, rfl, T8, b11⟩
  clear k2 k3 k4 k5 k6 k7
  have sz12 := dHide b11.size
  replace X0 := dHide ((dUnhide X0).below b11)
  replace B := belowThen B b11
  replace T8 := dHide T8
  clear b11
  obtain ⟨u9sa, u9sc, u9ea, u9ec, u9wa, u9wc, rfl, u9l1, u9l2, u9l3⟩ := formMend (dUnhide T8).now.rd
  go_wp2_with fail
  refine (dUnhide CP _ _ (dUnhide T8).now.rd).mono ?_
  rintro e w3 ⟨rfl, bw⟩
  clear T8
  have sz13 := dHide bw.size
  replace X0 := dHide ((dUnhide X0).below bw)
  replace B := belowThen B bw
  clear bw CP
  have X14 := Sits.box w3 #[.int .i64 ep, .int .i64 ew, .bool eh, .string ed] 52
  have ba := ha w3 (.cells #[.int .i64 ep, .int .i64 ew, .bool eh, .string ed] 52)
  have sz16 := dHide ba.size
  replace X0 := dHide ((dUnhide X0).below ba)
  replace B := belowThen B ba
  have sz17 : Hid (w3.heap.size + 1 = (w3.alloc (.cells #[.int .i64 ep, .int .i64 ew, .bool eh, .string ed] 52)).heap.size) := by simp [Hid]
  replace X14 := dHide X14
  clear ba
  have k18 := (dUnhide X0).now 0 _ rfl
  have k19 := (dUnhide X0).now 1 _ rfl
  have k20 := (dUnhide X0).now 2 _ rfl
  have k21 := (dUnhide X0).now 3 _ rfl
  have k22 := (dUnhide X0).now 4 _ rfl
  have k23 := (dUnhide X0).now 5 _ rfl
  go_wp2_with fail
  generalize hbx15 : w3.heap.size = bx15 at *
  generalize w3.alloc (.cells #[.int .i64 ep, .int .i64 ew, .bool eh, .string ed] 52) = w24 at *
  have sz25 := dHide hbx15
  clear hbx15
  have k26 := (dUnhide X0).now 0 _ rfl
  have k27 := (dUnhide X0).now 1 _ rfl
  have k28 := (dUnhide X0).now 2 _ rfl
  have k29 := (dUnhide X0).now 3 _ rfl
  have k30 := (dUnhide X0).now 4 _ rfl
  have k31 := (dUnhide X0).now 5 _ rfl
  refine (toMend_ _ m0 _ hs0 (dUnhide A0 _ B)).mono ?_
  rintro e w34 ⟨u33, rfl, T32, b35⟩
  clear k26 k27 k28 k29 k30 k31
  clear k18 k19 k20 k21 k22 k23
  have sz36 := dHide b35.size
  replace X0 := dHide ((dUnhide X0).below b35)
  replace X14 := dHide ((dUnhide X14).below b35)
  replace B := belowThen B b35
  replace T32 := dHide T32
  clear b35
  obtain ⟨u33sa, u33sc, u33ea, u33ec, u33wa, u33wc, rfl, u33l1, u33l2, u33l3⟩ := formMend (dUnhide T32).now.rd
  have X37 := Sits.box w34 #[.int .i64 m0.bye, .int .i64 m0.epoch, .slice u33sa m0.sealed.length u33sc, .slice u33ea m0.seen.length u33ec, .bool m0.planned, .slice u33wa m0.wrote.length u33wc] 47
  have ba := ha w34 (.cells #[.int .i64 m0.bye, .int .i64 m0.epoch, .slice u33sa m0.sealed.length u33sc, .slice u33ea m0.seen.length u33ec, .bool m0.planned, .slice u33wa m0.wrote.length u33wc] 47)
  have sz39 := dHide ba.size
  replace X0 := dHide ((dUnhide X0).below ba)
  replace X14 := dHide ((dUnhide X14).below ba)
  replace T32 := dHide ((dUnhide T32).below ba)
  replace B := belowThen B ba
  have sz40 : Hid (w34.heap.size + 1 = (w34.alloc (.cells #[.int .i64 m0.bye, .int .i64 m0.epoch, .slice u33sa m0.sealed.length u33sc, .slice u33ea m0.seen.length u33ec, .bool m0.planned, .slice u33wa m0.wrote.length u33wc] 47)).heap.size) := by simp [Hid]
  replace X37 := dHide X37
  clear ba
  go_wp2_with fail
  generalize hbx38 : w34.heap.size = bx38 at *
  generalize w34.alloc (.cells #[.int .i64 m0.bye, .int .i64 m0.epoch, .slice u33sa m0.sealed.length u33sc, .slice u33ea m0.seen.length u33ec, .bool m0.planned, .slice u33wa m0.wrote.length u33wc] 47) = w41 at *
  have sz42 := dHide hbx38
  clear hbx38
  have k43 := (dUnhide X37).now 0 _ rfl
  have k44 := (dUnhide X37).now 1 _ rfl
  have k45 := (dUnhide X37).now 2 _ rfl
  have k46 := (dUnhide X37).now 3 _ rfl
  have k47 := (dUnhide X37).now 4 _ rfl
  have k48 := (dUnhide X37).now 5 _ rfl
  refine (dUnhide CI _ _ (dUnhide T32).now.rd).mono ?_
  rintro e w49 ⟨rfl, b50⟩
  clear k43 k44 k45 k46 k47 k48
  have sz51 := dHide b50.size
  replace X0 := dHide ((dUnhide X0).below b50)
  replace X14 := dHide ((dUnhide X14).below b50)
  replace T32 := dHide ((dUnhide T32).below b50)
  replace X37 := dHide ((dUnhide X37).below b50)
  replace B := belowThen B b50
  clear b50
  have X52 := Sits.box w49 #[.int .i64 ep, .int .i64 ew, .bool eh, .string ed] 52
  have ba := ha w49 (.cells #[.int .i64 ep, .int .i64 ew, .bool eh, .string ed] 52)
  have sz54 := dHide ba.size
  replace X0 := dHide ((dUnhide X0).below ba)
  replace X14 := dHide ((dUnhide X14).below ba)
  replace T32 := dHide ((dUnhide T32).below ba)
  replace X37 := dHide ((dUnhide X37).below ba)
  replace B := belowThen B ba
  have sz55 : Hid (w49.heap.size + 1 = (w49.alloc (.cells #[.int .i64 ep, .int .i64 ew, .bool eh, .string ed] 52)).heap.size) := by simp [Hid]
  replace X52 := dHide X52
  clear ba
  have k56 := (dUnhide X52).now 0 _ rfl
  have k57 := (dUnhide X52).now 1 _ rfl
  have k58 := (dUnhide X52).now 2 _ rfl
  have k59 := (dUnhide X52).now 3 _ rfl
  have k60 := (dUnhide X14).now 0 _ rfl
  have k61 := (dUnhide X14).now 1 _ rfl
  have k62 := (dUnhide X14).now 2 _ rfl
  have k63 := (dUnhide X14).now 3 _ rfl
  go_wp2_with fail
  generalize hbx53 : w49.heap.size = bx53 at *
  generalize w49.alloc (.cells #[.int .i64 ep, .int .i64 ew, .bool eh, .string ed] 52) = w64 at *
  have sz65 := dHide hbx53
  clear hbx53
  refine (eqEntry_same ⟨ep, ew, eh, ed⟩ _).mono ?_
  rintro e w66 ⟨rfl, b67⟩
  clear k56 k57 k58 k59 k60 k61 k62 k63
  have sz68 := dHide b67.size
  replace X0 := dHide ((dUnhide X0).below b67)
  replace X14 := dHide ((dUnhide X14).below b67)
  replace T32 := dHide ((dUnhide T32).below b67)
  replace X37 := dHide ((dUnhide X37).below b67)
  replace X52 := dHide ((dUnhide X52).below b67)
  replace B := belowThen B b67
  clear b67
  have k69 := (dUnhide X37).now 0 _ rfl
  have k70 := (dUnhide X37).now 1 _ rfl
  have k71 := (dUnhide X37).now 2 _ rfl
  have k72 := (dUnhide X37).now 3 _ rfl
  have k73 := (dUnhide X37).now 4 _ rfl
  have k74 := (dUnhide X37).now 5 _ rfl
  have k75 := (dUnhide X0).now 0 _ rfl
  have k76 := (dUnhide X0).now 1 _ rfl
  have k77 := (dUnhide X0).now 2 _ rfl
  have k78 := (dUnhide X0).now 3 _ rfl
  have k79 := (dUnhide X0).now 4 _ rfl
  have k80 := (dUnhide X0).now 5 _ rfl
  have hbr := Below.refl w66.heap.size w66
  go_wp2_with fail
  go_cut [44] (fun sv wx => sv = .bool false ∧ Below w66.heap.size w66 wx)
  case first =>
    go_region_held3 (fun W => W.cell? ⟨bx38, 0, none⟩ = some (.int .i64 m0.bye) ∧ W.cell? ⟨bx38, 1, none⟩ = some (.int .i64 m0.epoch) ∧ W.cell? ⟨bx38, 2, none⟩ = some (.slice u33sa m0.sealed.length u33sc) ∧ W.cell? ⟨bx38, 3, none⟩ = some (.slice u33ea m0.seen.length u33ec) ∧ W.cell? ⟨bx38, 4, none⟩ = some (.bool m0.planned) ∧ W.cell? ⟨bx38, 5, none⟩ = some (.slice u33wa m0.wrote.length u33wc) ∧ W.cell? ⟨w.heap.size, 0, none⟩ = some (.int .i64 m0.bye) ∧ W.cell? ⟨w.heap.size, 1, none⟩ = some (.int .i64 m0.epoch) ∧ W.cell? ⟨w.heap.size, 2, none⟩ = some (.slice v0sa m0.sealed.length v0sc) ∧ W.cell? ⟨w.heap.size, 3, none⟩ = some (.slice v0ea m0.seen.length v0ec) ∧ W.cell? ⟨w.heap.size, 4, none⟩ = some (.bool m0.planned) ∧ W.cell? ⟨w.heap.size, 5, none⟩ = some (.slice v0wa m0.wrote.length v0wc)) (go_keep)
      (first
        | (go_at_call 40; refine (toMend_ _ m0 _ hs0 (dUnhide A0 _ (belowThen B hbr.drew))).mono ?_; rintro e w8 ⟨o8, rfl, q8, b8⟩; have hb8 := belowThen hbr.drew b8; have k81 := ((dUnhide X37).at hb8) 0 _ rfl; have k82 := ((dUnhide X37).at hb8) 1 _ rfl; have k83 := ((dUnhide X37).at hb8) 2 _ rfl; have k84 := ((dUnhide X37).at hb8) 3 _ rfl; have k85 := ((dUnhide X37).at hb8) 4 _ rfl; have k86 := ((dUnhide X37).at hb8) 5 _ rfl; have k87 := ((dUnhide X0).at hb8) 0 _ rfl; have k88 := ((dUnhide X0).at hb8) 1 _ rfl; have k89 := ((dUnhide X0).at hb8) 2 _ rfl; have k90 := ((dUnhide X0).at hb8) 3 _ rfl; have k91 := ((dUnhide X0).at hb8) 4 _ rfl; have k92 := ((dUnhide X0).at hb8) 5 _ rfl; have Q8 := dHide q8; obtain ⟨o8sa, o8sc, o8ea, o8ec, o8wa, o8wc, rfl, o8l1, o8l2, o8l3⟩ := formMend q8.now.rd; clear q8)
        | (go_at_call 42; refine (eqMend_ _ _ _ _ ((dUnhide T32).at hb8).rd (dUnhide Q8).now.rd).mono ?_; rintro e w9 ⟨rfl, b9⟩; have hb9 := belowThen hb8 b9; have k93 := ((dUnhide X37).at hb9) 0 _ rfl; have k94 := ((dUnhide X37).at hb9) 1 _ rfl; have k95 := ((dUnhide X37).at hb9) 2 _ rfl; have k96 := ((dUnhide X37).at hb9) 3 _ rfl; have k97 := ((dUnhide X37).at hb9) 4 _ rfl; have k98 := ((dUnhide X37).at hb9) 5 _ rfl; have k99 := ((dUnhide X0).at hb9) 0 _ rfl; have k100 := ((dUnhide X0).at hb9) 1 _ rfl; have k101 := ((dUnhide X0).at hb9) 2 _ rfl; have k102 := ((dUnhide X0).at hb9) 3 _ rfl; have k103 := ((dUnhide X0).at hb9) 4 _ rfl; have k104 := ((dUnhide X0).at hb9) 5 _ rfl))
    all_goals
      go_wp2_with fail
      go_meet
      case rel => exact ⟨rfl, hb9⟩
  case rest =>
    obtain ⟨rfl, bc⟩ := hcut
    clear hbr
    clear k69 k70 k71 k72 k73 k74 k75 k76 k77 k78 k79 k80
    have sz105 := dHide bc.size
    replace X0 := dHide ((dUnhide X0).below bc)
    replace X14 := dHide ((dUnhide X14).below bc)
    replace T32 := dHide ((dUnhide T32).below bc)
    replace X37 := dHide ((dUnhide X37).below bc)
    replace X52 := dHide ((dUnhide X52).below bc)
    replace B := belowThen B bc
    generalize wc = w106 at *
    clear bc
    clear X0 X14 T32 X37 X52
    go_wp2
    go_ret
    exact ⟨rfl, B⟩
end Go.Proofs.Ytjbfpmackocgnaa
