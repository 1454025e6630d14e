/- FnExactWorldNew: both answers, and the law's walk (printed by tools/mkl12.py). -/
import Derived.Test.YtaamipmlalplbaaQ12N
import Derived.Test.YtaamipmlalplbaaWoB
import Derived.Test.YtaamipmlalplbaaWoC
import Derived.Test.YtaamipmlalplbaaWoN
import Derived.Test.YtaamipmlalplbaaGaD
import Derived.Deep.RegionHeld3
import Derived.Deep.DeepCutAuto
namespace Go.Proofs.Ytaamipmlalplbaa
open Go.ChangeShapes Go.WideShapes Go.ChangeAt Go.RowKit
set_option linter.unusedVariables false
theorem bothFnExactWorldNew (m0 : List Int × Int) (ok0 : okConfig m0) (hs0 : sizConfig m0 ≤ 1048576) : ∃ (R : Wo) (s1 : Bool), (bareW R ∧ R.readers.length ≤ 1048576 ∧ cntBare R ≤ 8388608) ∧ (∀ W v0, RdConfig v0 m0 W → Calls Try.prog 5 #[v0] W fun e w' => ∃ u, e = .returned (.tuple #[u, .bool s1]) ∧ Sits (OwWorld W.heap.size w'.heap.size u R) W.heap.size w'.heap.size w' ∧ Below W.heap.size W w') ∧ (∀ W v0, RdConfig v0 m0 W → Calls Try.prog 7 #[v0] W fun e w' => ∃ u, e = .returned (.tuple #[u, .bool s1]) ∧ Sits (OwWorld W.heap.size w'.heap.size u R) W.heap.size w'.heap.size w' ∧ Below W.heap.size W w') := bothWorldNew_ m0 ok0 hs0
set_option maxHeartbeats 4000000 in
set_option maxRecDepth 100000 in
theorem walkFnExactWorldNew (v0 : Value) (m0 : List Int × Int) (w : World) (i0 : IsConfig v0 m0 w) :
    Calls Try.prog 3 #[v0] w fun r w' => r = .returned (.bool true) ∧ Below w.heap.size w w' := by
  obtain ⟨r0, ok0⟩ := i0
  have ha : ∀ (w : World) o, Below w.heap.size w (w.alloc o) := fun w o => (Below.refl _ _).alloc (Nat.le_refl _) o
  have A0 := dHide fun W (hb : Below w.heap.size w W) => r0.below hb
  obtain ⟨v0a, v0c, rfl, v0l⟩ := formConfig r0
  by_cases z0 : (1048576 : Int) < (sizConfig m0 : Int)
  · have CS0 := dHide fun W (hb : Below w.heap.size w W) => szConfig_ _ m0 (1048576 : Int) (by omega) (by omega) W (dUnhide A0 W hb)
    rw [lft_no z0] at CS0
    clear z0
    go_enter Try.func3, Try.ntmps3
    go_wp2_with fail
    have B := ha w (.cells #[.slice v0a m0.1.length v0c, .int .i64 m0.2] 24)
    have X0 := dHide (Sits.box w #[.slice v0a m0.1.length v0c, .int .i64 m0.2] 24)
    have sz0 : Hid (w.heap.size + 1 = (w.alloc (.cells #[.slice v0a m0.1.length v0c, .int .i64 m0.2] 24)).heap.size) := by simp [Hid]
    generalize w.alloc (.cells #[.slice v0a m0.1.length v0c, .int .i64 m0.2] 24) = wb at *
    refine (dUnhide CS0 _ B).mono ?_
    rintro e ws0 ⟨rfl, bs⟩
    have sz1 := dHide bs.size
    replace X0 := dHide ((dUnhide X0).below bs)
    replace B := belowThen B bs
    clear bs CS0
    clear X0
    go_wp2
    go_ret
    exact ⟨rfl, B⟩
  have hs0 : sizConfig m0 ≤ 1048576 := by omega
  have hc0 := cntConfig_le hs0
  obtain ⟨R, s1, ⟨hRb0, hRl, hR⟩, p1, p2⟩ := bothFnExactWorldNew m0 ok0 hs0
  have hRb := dHide hRb0
  clear hRb0
  have CP := dHide p1
  have CI := dHide p2
  have CS0 := dHide fun W (hb : Below w.heap.size w W) => szConfig_ _ m0 (1048576 : Int) (by omega) (by omega) W (dUnhide A0 W hb)
  rw [lft_yes z0] at CS0
  have z0' : ¬ ((1048576 : Int) - (sizConfig m0 : Int) < 0) := by omega
  clear p1 p2 r0 ok0 
  go_enter Try.func3, Try.ntmps3
  go_wp2_with fail
  have B := ha w (.cells #[.slice v0a m0.1.length v0c, .int .i64 m0.2] 24)
  have X0 := dHide (Sits.box w #[.slice v0a m0.1.length v0c, .int .i64 m0.2] 24)
  have sz0 : Hid (w.heap.size + 1 = (w.alloc (.cells #[.slice v0a m0.1.length v0c, .int .i64 m0.2] 24)).heap.size) := by simp [Hid]
  generalize w.alloc (.cells #[.slice v0a m0.1.length v0c, .int .i64 m0.2] 24) = wb at *
  refine (dUnhide CS0 _ B).mono ?_
  rintro e ws0 ⟨rfl, bs⟩
  have sz1 := dHide bs.size
  replace X0 := dHide ((dUnhide X0).below bs)
  replace B := belowThen B bs
  clear bs CS0
  have k2 := (dUnhide X0).now 0 _ rfl
  have k3 := (dUnhide X0).now 1 _ rfl
  go_wp2_with fail
  refine (toConfig_ _ m0 _ hs0 (dUnhide A0 _ B)).mono ?_
  rintro e w6 ⟨u5, rfl, T4, b7⟩
  clear k2 k3
  have sz8 := dHide b7.size
  replace X0 := dHide ((dUnhide X0).below b7)
  replace B := belowThen B b7
  replace T4 := dHide T4
  clear b7
  obtain ⟨u5a, u5c, rfl, u5l⟩ := formConfig (dUnhide T4).now.rd
  go_wp2_with fail
  refine (dUnhide CP _ _ (dUnhide T4).now.rd).mono ?_
  rintro e w3 ⟨uw, rfl, OW, bw⟩
  clear T4
  have sz9 := dHide bw.size
  replace X0 := dHide ((dUnhide X0).below bw)
  replace B := belowThen B bw
  replace OW := dHide OW
  clear bw CP
  obtain ⟨uwda, uwdc, uwsa, uwsc, uwla, uwlc, uwea, uwec, uwwa, uwwc, uwna, uwnc, uwra, uwrc, uwta, uwtc, rfl, uwl0, uwl1, uwl2, uwl3, uwl4, uwl5, uwl6, uwl7⟩ := formWorld (dUnhide OW).now.rd
  have X10 := Sits.box w3 #[.slice uwda R.cfg.1.length uwdc, .int .i64 R.cfg.2, .slice uwsa R.stores.length uwsc, .slice uwla R.lost.length uwlc, .slice uwea R.reg.eras.length uwec, .int .i64 R.reg.trim, .slice uwwa R.writers.length uwwc, .slice uwna R.mends.length uwnc, .slice uwra R.readers.length uwrc, .slice uwta R.sent.length uwtc, .bool R.torn] 36
  have ba := ha w3 (.cells #[.slice uwda R.cfg.1.length uwdc, .int .i64 R.cfg.2, .slice uwsa R.stores.length uwsc, .slice uwla R.lost.length uwlc, .slice uwea R.reg.eras.length uwec, .int .i64 R.reg.trim, .slice uwwa R.writers.length uwwc, .slice uwna R.mends.length uwnc, .slice uwra R.readers.length uwrc, .slice uwta R.sent.length uwtc, .bool R.torn] 36)
  have sz12 := dHide ba.size
  replace X0 := dHide ((dUnhide X0).below ba)
  replace OW := dHide ((dUnhide OW).below ba)
  replace B := belowThen B ba
  have sz13 : Hid (w3.heap.size + 1 = (w3.alloc (.cells #[.slice uwda R.cfg.1.length uwdc, .int .i64 R.cfg.2, .slice uwsa R.stores.length uwsc, .slice uwla R.lost.length uwlc, .slice uwea R.reg.eras.length uwec, .int .i64 R.reg.trim, .slice uwwa R.writers.length uwwc, .slice uwna R.mends.length uwnc, .slice uwra R.readers.length uwrc, .slice uwta R.sent.length uwtc, .bool R.torn] 36)).heap.size) := by simp [Hid]
  replace X10 := dHide X10
  clear ba
  have k14 := (dUnhide X0).now 0 _ rfl
  have k15 := (dUnhide X0).now 1 _ rfl
  go_wp2_with fail
  generalize hbx11 : w3.heap.size = bx11 at *
  generalize w3.alloc (.cells #[.slice uwda R.cfg.1.length uwdc, .int .i64 R.cfg.2, .slice uwsa R.stores.length uwsc, .slice uwla R.lost.length uwlc, .slice uwea R.reg.eras.length uwec, .int .i64 R.reg.trim, .slice uwwa R.writers.length uwwc, .slice uwna R.mends.length uwnc, .slice uwra R.readers.length uwrc, .slice uwta R.sent.length uwtc, .bool R.torn] 36) = w16 at *
  have sz17 := dHide hbx11
  clear hbx11
  have k18 := (dUnhide X0).now 0 _ rfl
  have k19 := (dUnhide X0).now 1 _ rfl
  refine (toConfig_ _ m0 _ hs0 (dUnhide A0 _ B)).mono ?_
  rintro e w22 ⟨u21, rfl, T20, b23⟩
  clear k18 k19
  clear k14 k15
  have sz24 := dHide b23.size
  replace X0 := dHide ((dUnhide X0).below b23)
  replace OW := dHide ((dUnhide OW).below b23)
  replace X10 := dHide ((dUnhide X10).below b23)
  replace B := belowThen B b23
  replace T20 := dHide T20
  clear b23
  obtain ⟨u21a, u21c, rfl, u21l⟩ := formConfig (dUnhide T20).now.rd
  have X25 := Sits.box w22 #[.slice u21a m0.1.length u21c, .int .i64 m0.2] 26
  have ba := ha w22 (.cells #[.slice u21a m0.1.length u21c, .int .i64 m0.2] 26)
  have sz27 := dHide ba.size
  replace X0 := dHide ((dUnhide X0).below ba)
  replace OW := dHide ((dUnhide OW).below ba)
  replace X10 := dHide ((dUnhide X10).below ba)
  replace T20 := dHide ((dUnhide T20).below ba)
  replace B := belowThen B ba
  have sz28 : Hid (w22.heap.size + 1 = (w22.alloc (.cells #[.slice u21a m0.1.length u21c, .int .i64 m0.2] 26)).heap.size) := by simp [Hid]
  replace X25 := dHide X25
  clear ba
  go_wp2_with fail
  generalize hbx26 : w22.heap.size = bx26 at *
  generalize w22.alloc (.cells #[.slice u21a m0.1.length u21c, .int .i64 m0.2] 26) = w29 at *
  have sz30 := dHide hbx26
  clear hbx26
  have k31 := (dUnhide X25).now 0 _ rfl
  have k32 := (dUnhide X25).now 1 _ rfl
  refine (dUnhide CI _ _ (dUnhide T20).now.rd).mono ?_
  rintro e w33 ⟨ug, rfl, OG, b34⟩
  clear k31 k32
  have sz35 := dHide b34.size
  replace X0 := dHide ((dUnhide X0).below b34)
  replace OW := dHide ((dUnhide OW).below b34)
  replace X10 := dHide ((dUnhide X10).below b34)
  replace T20 := dHide ((dUnhide T20).below b34)
  replace X25 := dHide ((dUnhide X25).below b34)
  replace B := belowThen B b34
  replace OG := dHide OG
  clear b34
  obtain ⟨ugda, ugdc, ugsa, ugsc, ugla, uglc, ugea, ugec, ugwa, ugwc, ugna, ugnc, ugra, ugrc, ugta, ugtc, rfl, ugl0, ugl1, ugl2, ugl3, ugl4, ugl5, ugl6, ugl7⟩ := formWorld (dUnhide OG).now.rd
  have X36 := Sits.box w33 #[.slice ugda R.cfg.1.length ugdc, .int .i64 R.cfg.2, .slice ugsa R.stores.length ugsc, .slice ugla R.lost.length uglc, .slice ugea R.reg.eras.length ugec, .int .i64 R.reg.trim, .slice ugwa R.writers.length ugwc, .slice ugna R.mends.length ugnc, .slice ugra R.readers.length ugrc, .slice ugta R.sent.length ugtc, .bool R.torn] 36
  have ba := ha w33 (.cells #[.slice ugda R.cfg.1.length ugdc, .int .i64 R.cfg.2, .slice ugsa R.stores.length ugsc, .slice ugla R.lost.length uglc, .slice ugea R.reg.eras.length ugec, .int .i64 R.reg.trim, .slice ugwa R.writers.length ugwc, .slice ugna R.mends.length ugnc, .slice ugra R.readers.length ugrc, .slice ugta R.sent.length ugtc, .bool R.torn] 36)
  have sz38 := dHide ba.size
  replace X0 := dHide ((dUnhide X0).below ba)
  replace OW := dHide ((dUnhide OW).below ba)
  replace X10 := dHide ((dUnhide X10).below ba)
  replace T20 := dHide ((dUnhide T20).below ba)
  replace X25 := dHide ((dUnhide X25).below ba)
  replace OG := dHide ((dUnhide OG).below ba)
  replace B := belowThen B ba
  have sz39 : Hid (w33.heap.size + 1 = (w33.alloc (.cells #[.slice ugda R.cfg.1.length ugdc, .int .i64 R.cfg.2, .slice ugsa R.stores.length ugsc, .slice ugla R.lost.length uglc, .slice ugea R.reg.eras.length ugec, .int .i64 R.reg.trim, .slice ugwa R.writers.length ugwc, .slice ugna R.mends.length ugnc, .slice ugra R.readers.length ugrc, .slice ugta R.sent.length ugtc, .bool R.torn] 36)).heap.size) := by simp [Hid]
  replace X36 := dHide X36
  clear ba
  have k40 := (dUnhide X36).now 0 _ rfl
  have k41 := (dUnhide X36).now 1 _ rfl
  have k42 := (dUnhide X36).now 2 _ rfl
  have k43 := (dUnhide X36).now 3 _ rfl
  have k44 := (dUnhide X36).now 4 _ rfl
  have k45 := (dUnhide X36).now 5 _ rfl
  have k46 := (dUnhide X36).now 6 _ rfl
  have k47 := (dUnhide X36).now 7 _ rfl
  have k48 := (dUnhide X36).now 8 _ rfl
  have k49 := (dUnhide X36).now 9 _ rfl
  have k50 := (dUnhide X36).now 10 _ rfl
  have k51 := (dUnhide X10).now 0 _ rfl
  have k52 := (dUnhide X10).now 1 _ rfl
  have k53 := (dUnhide X10).now 2 _ rfl
  have k54 := (dUnhide X10).now 3 _ rfl
  have k55 := (dUnhide X10).now 4 _ rfl
  have k56 := (dUnhide X10).now 5 _ rfl
  have k57 := (dUnhide X10).now 6 _ rfl
  have k58 := (dUnhide X10).now 7 _ rfl
  have k59 := (dUnhide X10).now 8 _ rfl
  have k60 := (dUnhide X10).now 9 _ rfl
  have k61 := (dUnhide X10).now 10 _ rfl
  go_wp2_with fail
  generalize hbx37 : w33.heap.size = bx37 at *
  generalize w33.alloc (.cells #[.slice ugda R.cfg.1.length ugdc, .int .i64 R.cfg.2, .slice ugsa R.stores.length ugsc, .slice ugla R.lost.length uglc, .slice ugea R.reg.eras.length ugec, .int .i64 R.reg.trim, .slice ugwa R.writers.length ugwc, .slice ugna R.mends.length ugnc, .slice ugra R.readers.length ugrc, .slice ugta R.sent.length ugtc, .bool R.torn] 36) = w62 at *
  have sz63 := dHide hbx37
  clear hbx37
  refine (eqWorld_ _ _ _ _ (dUnhide OG).now.rd (dUnhide OW).now.rd).mono ?_
  rintro e w64 ⟨rfl, b65⟩
  clear k40 k41 k42 k43 k44 k45 k46 k47 k48 k49 k50 k51 k52 k53 k54 k55 k56 k57 k58 k59 k60 k61
  have sz66 := dHide b65.size
  replace X0 := dHide ((dUnhide X0).below b65)
  replace OW := dHide ((dUnhide OW).below b65)
  replace X10 := dHide ((dUnhide X10).below b65)
  replace T20 := dHide ((dUnhide T20).below b65)
  replace X25 := dHide ((dUnhide X25).below b65)
  replace OG := dHide ((dUnhide OG).below b65)
  replace X36 := dHide ((dUnhide X36).below b65)
  replace B := belowThen B b65
  clear b65
  have k67 := (dUnhide X25).now 0 _ rfl
  have k68 := (dUnhide X25).now 1 _ rfl
  have k69 := (dUnhide X0).now 0 _ rfl
  have k70 := (dUnhide X0).now 1 _ rfl
  have hbr := Below.refl w64.heap.size w64
  go_wp2_with fail
  go_cut [45] (fun sv wx => sv = .bool false ∧ Below w64.heap.size w64 wx)
  case first =>
    go_region_held3 (fun W => W.cell? ⟨bx26, 0, none⟩ = some (.slice u21a m0.1.length u21c) ∧ W.cell? ⟨bx26, 1, none⟩ = some (.int .i64 m0.2) ∧ W.cell? ⟨w.heap.size, 0, none⟩ = some (.slice v0a m0.1.length v0c) ∧ W.cell? ⟨w.heap.size, 1, none⟩ = some (.int .i64 m0.2)) (go_keep)
      (first
        | (go_at_call 6; refine (toConfig_ _ m0 _ hs0 (dUnhide A0 _ (belowThen B hbr.drew))).mono ?_; rintro e w8 ⟨o8, rfl, q8, b8⟩; have hb8 := belowThen hbr.drew b8; have k71 := ((dUnhide X25).at hb8) 0 _ rfl; have k72 := ((dUnhide X25).at hb8) 1 _ rfl; have k73 := ((dUnhide X0).at hb8) 0 _ rfl; have k74 := ((dUnhide X0).at hb8) 1 _ rfl; have Q8 := dHide q8; obtain ⟨o8a, o8c, rfl, o8l⟩ := formConfig q8.now.rd; clear q8)
        | (go_at_call 9; refine (eqConfig_ _ _ _ _ ((dUnhide T20).at hb8).rd (dUnhide Q8).now.rd).mono ?_; rintro e w9 ⟨rfl, b9⟩; have hb9 := belowThen hb8 b9; have k75 := ((dUnhide X25).at hb9) 0 _ rfl; have k76 := ((dUnhide X25).at hb9) 1 _ rfl; have k77 := ((dUnhide X0).at hb9) 0 _ rfl; have k78 := ((dUnhide X0).at hb9) 1 _ rfl))
    all_goals
      go_wp2_with fail
      go_meet
      case rel => exact ⟨rfl, hb9⟩
  case rest =>
    obtain ⟨rfl, bc⟩ := hcut
    clear hbr
    clear k67 k68 k69 k70
    have sz79 := dHide bc.size
    replace X0 := dHide ((dUnhide X0).below bc)
    replace OW := dHide ((dUnhide OW).below bc)
    replace X10 := dHide ((dUnhide X10).below bc)
    replace T20 := dHide ((dUnhide T20).below bc)
    replace X25 := dHide ((dUnhide X25).below bc)
    replace OG := dHide ((dUnhide OG).below bc)
    replace X36 := dHide ((dUnhide X36).below bc)
    replace B := belowThen B bc
    generalize wc = w80 at *
    clear bc
    have k81 := (dUnhide X25).now 0 _ rfl
    have k82 := (dUnhide X25).now 1 _ rfl
    go_wp2_with fail
    refine (markConfig_ _ _ _ _ 1 _ (by omega) (by omega) (dUnhide T20)).mono ?_
    rintro e w83 ⟨rfl, M85, b84⟩
    clear k81 k82
    replace X0 := dHide ((dUnhide X0).wr b84 (by have := dUnhide sz0; have := dUnhide sz1; have := dUnhide sz8; have := dUnhide sz9; have := dUnhide sz12; have := dUnhide sz13; have := dUnhide sz17; have := dUnhide sz24; have := dUnhide sz27; have := dUnhide sz28; have := dUnhide sz30; have := dUnhide sz35; have := dUnhide sz38; have := dUnhide sz39; have := dUnhide sz63; have := dUnhide sz66; have := dUnhide sz79; omega))
    replace OW := dHide ((dUnhide OW).wr b84 (by have := dUnhide sz0; have := dUnhide sz1; have := dUnhide sz8; have := dUnhide sz9; have := dUnhide sz12; have := dUnhide sz13; have := dUnhide sz17; have := dUnhide sz24; have := dUnhide sz27; have := dUnhide sz28; have := dUnhide sz30; have := dUnhide sz35; have := dUnhide sz38; have := dUnhide sz39; have := dUnhide sz63; have := dUnhide sz66; have := dUnhide sz79; omega))
    replace X10 := dHide ((dUnhide X10).wr b84 (by have := dUnhide sz0; have := dUnhide sz1; have := dUnhide sz8; have := dUnhide sz9; have := dUnhide sz12; have := dUnhide sz13; have := dUnhide sz17; have := dUnhide sz24; have := dUnhide sz27; have := dUnhide sz28; have := dUnhide sz30; have := dUnhide sz35; have := dUnhide sz38; have := dUnhide sz39; have := dUnhide sz63; have := dUnhide sz66; have := dUnhide sz79; omega))
    replace X25 := dHide ((dUnhide X25).wr b84 (by have := dUnhide sz0; have := dUnhide sz1; have := dUnhide sz8; have := dUnhide sz9; have := dUnhide sz12; have := dUnhide sz13; have := dUnhide sz17; have := dUnhide sz24; have := dUnhide sz27; have := dUnhide sz28; have := dUnhide sz30; have := dUnhide sz35; have := dUnhide sz38; have := dUnhide sz39; have := dUnhide sz63; have := dUnhide sz66; have := dUnhide sz79; omega))
    replace OG := dHide ((dUnhide OG).wr b84 (by have := dUnhide sz0; have := dUnhide sz1; have := dUnhide sz8; have := dUnhide sz9; have := dUnhide sz12; have := dUnhide sz13; have := dUnhide sz17; have := dUnhide sz24; have := dUnhide sz27; have := dUnhide sz28; have := dUnhide sz30; have := dUnhide sz35; have := dUnhide sz38; have := dUnhide sz39; have := dUnhide sz63; have := dUnhide sz66; have := dUnhide sz79; omega))
    replace X36 := dHide ((dUnhide X36).wr b84 (by have := dUnhide sz0; have := dUnhide sz1; have := dUnhide sz8; have := dUnhide sz9; have := dUnhide sz12; have := dUnhide sz13; have := dUnhide sz17; have := dUnhide sz24; have := dUnhide sz27; have := dUnhide sz28; have := dUnhide sz30; have := dUnhide sz35; have := dUnhide sz38; have := dUnhide sz39; have := dUnhide sz63; have := dUnhide sz66; have := dUnhide sz79; omega))
    replace B := b84.below B B.size (by have := dUnhide sz0; have := dUnhide sz1; have := dUnhide sz8; have := dUnhide sz9; have := dUnhide sz12; have := dUnhide sz13; have := dUnhide sz17; have := dUnhide sz24; have := dUnhide sz27; have := dUnhide sz28; have := dUnhide sz30; have := dUnhide sz35; have := dUnhide sz38; have := dUnhide sz39; have := dUnhide sz63; have := dUnhide sz66; have := dUnhide sz79; omega)
    have sz86 := dHide b84.size
    replace M85 := dHide M85
    clear b84 T20
    clear M85 X25
    have hk : ¬ (((1 + cntConfig m0 : Nat) : Int) < 0) := by omega
    have k87 := (dUnhide X36).now 0 _ rfl
    have k88 := (dUnhide X36).now 1 _ rfl
    have k89 := (dUnhide X36).now 2 _ rfl
    have k90 := (dUnhide X36).now 3 _ rfl
    have k91 := (dUnhide X36).now 4 _ rfl
    have k92 := (dUnhide X36).now 5 _ rfl
    have k93 := (dUnhide X36).now 6 _ rfl
    have k94 := (dUnhide X36).now 7 _ rfl
    have k95 := (dUnhide X36).now 8 _ rfl
    have k96 := (dUnhide X36).now 9 _ rfl
    have k97 := (dUnhide X36).now 10 _ rfl
    have k98 := (dUnhide X10).now 0 _ rfl
    have k99 := (dUnhide X10).now 1 _ rfl
    have k100 := (dUnhide X10).now 2 _ rfl
    have k101 := (dUnhide X10).now 3 _ rfl
    have k102 := (dUnhide X10).now 4 _ rfl
    have k103 := (dUnhide X10).now 5 _ rfl
    have k104 := (dUnhide X10).now 6 _ rfl
    have k105 := (dUnhide X10).now 7 _ rfl
    have k106 := (dUnhide X10).now 8 _ rfl
    have k107 := (dUnhide X10).now 9 _ rfl
    have k108 := (dUnhide X10).now 10 _ rfl
    go_wp2_with fail
    refine (eqWorld_ _ _ _ _ (dUnhide OG).now.rd (dUnhide OW).now.rd).mono ?_
    rintro e w109 ⟨rfl, b110⟩
    clear k87 k88 k89 k90 k91 k92 k93 k94 k95 k96 k97 k98 k99 k100 k101 k102 k103 k104 k105 k106 k107 k108
    have sz111 := dHide b110.size
    replace X0 := dHide ((dUnhide X0).below b110)
    replace OW := dHide ((dUnhide OW).below b110)
    replace X10 := dHide ((dUnhide X10).below b110)
    replace OG := dHide ((dUnhide OG).below b110)
    replace X36 := dHide ((dUnhide X36).below b110)
    replace B := belowThen B b110
    clear b110
    have k112 := (dUnhide X36).now 0 _ rfl
    have k113 := (dUnhide X36).now 1 _ rfl
    have k114 := (dUnhide X36).now 2 _ rfl
    have k115 := (dUnhide X36).now 3 _ rfl
    have k116 := (dUnhide X36).now 4 _ rfl
    have k117 := (dUnhide X36).now 5 _ rfl
    have k118 := (dUnhide X36).now 6 _ rfl
    have k119 := (dUnhide X36).now 7 _ rfl
    have k120 := (dUnhide X36).now 8 _ rfl
    have k121 := (dUnhide X36).now 9 _ rfl
    have k122 := (dUnhide X36).now 10 _ rfl
    go_wp2_with fail
    refine (markWorldB_ _ _ _ R 1 _ (by omega) (by omega) hRl (dUnhide hRb) (dUnhide OG)).mono ?_
    rintro e w123 ⟨rfl, M125, b124⟩
    clear k112 k113 k114 k115 k116 k117 k118 k119 k120 k121 k122
    replace X0 := dHide ((dUnhide X0).wr b124 (by have := dUnhide sz0; have := dUnhide sz1; have := dUnhide sz8; have := dUnhide sz9; have := dUnhide sz12; have := dUnhide sz13; have := dUnhide sz17; have := dUnhide sz24; have := dUnhide sz27; have := dUnhide sz28; have := dUnhide sz30; have := dUnhide sz35; have := dUnhide sz38; have := dUnhide sz39; have := dUnhide sz63; have := dUnhide sz66; have := dUnhide sz79; have := dUnhide sz86; have := dUnhide sz111; omega))
    replace OW := dHide ((dUnhide OW).wr b124 (by have := dUnhide sz0; have := dUnhide sz1; have := dUnhide sz8; have := dUnhide sz9; have := dUnhide sz12; have := dUnhide sz13; have := dUnhide sz17; have := dUnhide sz24; have := dUnhide sz27; have := dUnhide sz28; have := dUnhide sz30; have := dUnhide sz35; have := dUnhide sz38; have := dUnhide sz39; have := dUnhide sz63; have := dUnhide sz66; have := dUnhide sz79; have := dUnhide sz86; have := dUnhide sz111; omega))
    replace X10 := dHide ((dUnhide X10).wr b124 (by have := dUnhide sz0; have := dUnhide sz1; have := dUnhide sz8; have := dUnhide sz9; have := dUnhide sz12; have := dUnhide sz13; have := dUnhide sz17; have := dUnhide sz24; have := dUnhide sz27; have := dUnhide sz28; have := dUnhide sz30; have := dUnhide sz35; have := dUnhide sz38; have := dUnhide sz39; have := dUnhide sz63; have := dUnhide sz66; have := dUnhide sz79; have := dUnhide sz86; have := dUnhide sz111; omega))
    replace X36 := dHide ((dUnhide X36).wr b124 (by have := dUnhide sz0; have := dUnhide sz1; have := dUnhide sz8; have := dUnhide sz9; have := dUnhide sz12; have := dUnhide sz13; have := dUnhide sz17; have := dUnhide sz24; have := dUnhide sz27; have := dUnhide sz28; have := dUnhide sz30; have := dUnhide sz35; have := dUnhide sz38; have := dUnhide sz39; have := dUnhide sz63; have := dUnhide sz66; have := dUnhide sz79; have := dUnhide sz86; have := dUnhide sz111; omega))
    replace B := b124.below B B.size (by have := dUnhide sz0; have := dUnhide sz1; have := dUnhide sz8; have := dUnhide sz9; have := dUnhide sz12; have := dUnhide sz13; have := dUnhide sz17; have := dUnhide sz24; have := dUnhide sz27; have := dUnhide sz28; have := dUnhide sz30; have := dUnhide sz35; have := dUnhide sz38; have := dUnhide sz39; have := dUnhide sz63; have := dUnhide sz66; have := dUnhide sz79; have := dUnhide sz86; have := dUnhide sz111; omega)
    have sz126 := dHide b124.size
    replace M125 := dHide M125
    clear b124 OG
    have k127 := (dUnhide X36).now 0 _ rfl
    have k128 := (dUnhide X36).now 1 _ rfl
    have k129 := (dUnhide X36).now 2 _ rfl
    have k130 := (dUnhide X36).now 3 _ rfl
    have k131 := (dUnhide X36).now 4 _ rfl
    have k132 := (dUnhide X36).now 5 _ rfl
    have k133 := (dUnhide X36).now 6 _ rfl
    have k134 := (dUnhide X36).now 7 _ rfl
    have k135 := (dUnhide X36).now 8 _ rfl
    have k136 := (dUnhide X36).now 9 _ rfl
    have k137 := (dUnhide X36).now 10 _ rfl
    go_wp2_with fail
    refine (heldWorldB_ _ R 1 _ (by omega) (by omega) hRl (dUnhide M125).now.rd).mono ?_
    rintro e w138 ⟨rfl, b139⟩
    clear k127 k128 k129 k130 k131 k132 k133 k134 k135 k136 k137
    have sz140 := dHide b139.size
    replace X0 := dHide ((dUnhide X0).below b139)
    replace OW := dHide ((dUnhide OW).below b139)
    replace X10 := dHide ((dUnhide X10).below b139)
    replace X36 := dHide ((dUnhide X36).below b139)
    replace M125 := dHide ((dUnhide M125).below b139)
    replace B := belowThen B b139
    clear b139
    have hq : ¬ (((1 + cntBare R : Nat) : Int) < 0) := by omega
    have k141 := (dUnhide X0).now 0 _ rfl
    have k142 := (dUnhide X0).now 1 _ rfl
    go_wp2_with fail
    refine (toConfig_ _ m0 _ hs0 (dUnhide A0 _ B)).mono ?_
    rintro e w145 ⟨u144, rfl, T143, b146⟩
    clear k141 k142
    have sz147 := dHide b146.size
    replace X0 := dHide ((dUnhide X0).below b146)
    replace OW := dHide ((dUnhide OW).below b146)
    replace X10 := dHide ((dUnhide X10).below b146)
    replace X36 := dHide ((dUnhide X36).below b146)
    replace M125 := dHide ((dUnhide M125).below b146)
    replace B := belowThen B b146
    replace T143 := dHide T143
    clear b146
    obtain ⟨u144a, u144c, rfl, u144l⟩ := formConfig (dUnhide T143).now.rd
    go_wp2_with fail
    refine (dUnhide CI _ _ (dUnhide T143).now.rd).mono ?_
    rintro e w148 ⟨uh, rfl, OH, b149⟩
    clear T143
    have sz150 := dHide b149.size
    replace X0 := dHide ((dUnhide X0).below b149)
    replace OW := dHide ((dUnhide OW).below b149)
    replace X10 := dHide ((dUnhide X10).below b149)
    replace X36 := dHide ((dUnhide X36).below b149)
    replace M125 := dHide ((dUnhide M125).below b149)
    replace B := belowThen B b149
    replace OH := dHide OH
    clear b149
    obtain ⟨uhda, uhdc, uhsa, uhsc, uhla, uhlc, uhea, uhec, uhwa, uhwc, uhna, uhnc, uhra, uhrc, uhta, uhtc, rfl, uhl0, uhl1, uhl2, uhl3, uhl4, uhl5, uhl6, uhl7⟩ := formWorld (dUnhide OH).now.rd
    have X151 := Sits.box w148 #[.slice uhda R.cfg.1.length uhdc, .int .i64 R.cfg.2, .slice uhsa R.stores.length uhsc, .slice uhla R.lost.length uhlc, .slice uhea R.reg.eras.length uhec, .int .i64 R.reg.trim, .slice uhwa R.writers.length uhwc, .slice uhna R.mends.length uhnc, .slice uhra R.readers.length uhrc, .slice uhta R.sent.length uhtc, .bool R.torn] 36
    have ba := ha w148 (.cells #[.slice uhda R.cfg.1.length uhdc, .int .i64 R.cfg.2, .slice uhsa R.stores.length uhsc, .slice uhla R.lost.length uhlc, .slice uhea R.reg.eras.length uhec, .int .i64 R.reg.trim, .slice uhwa R.writers.length uhwc, .slice uhna R.mends.length uhnc, .slice uhra R.readers.length uhrc, .slice uhta R.sent.length uhtc, .bool R.torn] 36)
    have sz153 := dHide ba.size
    replace X0 := dHide ((dUnhide X0).below ba)
    replace OW := dHide ((dUnhide OW).below ba)
    replace X10 := dHide ((dUnhide X10).below ba)
    replace X36 := dHide ((dUnhide X36).below ba)
    replace M125 := dHide ((dUnhide M125).below ba)
    replace OH := dHide ((dUnhide OH).below ba)
    replace B := belowThen B ba
    have sz154 : Hid (w148.heap.size + 1 = (w148.alloc (.cells #[.slice uhda R.cfg.1.length uhdc, .int .i64 R.cfg.2, .slice uhsa R.stores.length uhsc, .slice uhla R.lost.length uhlc, .slice uhea R.reg.eras.length uhec, .int .i64 R.reg.trim, .slice uhwa R.writers.length uhwc, .slice uhna R.mends.length uhnc, .slice uhra R.readers.length uhrc, .slice uhta R.sent.length uhtc, .bool R.torn] 36)).heap.size) := by simp [Hid]
    replace X151 := dHide X151
    clear ba
    have k155 := (dUnhide X151).now 0 _ rfl
    have k156 := (dUnhide X151).now 1 _ rfl
    have k157 := (dUnhide X151).now 2 _ rfl
    have k158 := (dUnhide X151).now 3 _ rfl
    have k159 := (dUnhide X151).now 4 _ rfl
    have k160 := (dUnhide X151).now 5 _ rfl
    have k161 := (dUnhide X151).now 6 _ rfl
    have k162 := (dUnhide X151).now 7 _ rfl
    have k163 := (dUnhide X151).now 8 _ rfl
    have k164 := (dUnhide X151).now 9 _ rfl
    have k165 := (dUnhide X151).now 10 _ rfl
    have k166 := (dUnhide X10).now 0 _ rfl
    have k167 := (dUnhide X10).now 1 _ rfl
    have k168 := (dUnhide X10).now 2 _ rfl
    have k169 := (dUnhide X10).now 3 _ rfl
    have k170 := (dUnhide X10).now 4 _ rfl
    have k171 := (dUnhide X10).now 5 _ rfl
    have k172 := (dUnhide X10).now 6 _ rfl
    have k173 := (dUnhide X10).now 7 _ rfl
    have k174 := (dUnhide X10).now 8 _ rfl
    have k175 := (dUnhide X10).now 9 _ rfl
    have k176 := (dUnhide X10).now 10 _ rfl
    go_wp2_with fail
    generalize hbx152 : w148.heap.size = bx152 at *
    generalize w148.alloc (.cells #[.slice uhda R.cfg.1.length uhdc, .int .i64 R.cfg.2, .slice uhsa R.stores.length uhsc, .slice uhla R.lost.length uhlc, .slice uhea R.reg.eras.length uhec, .int .i64 R.reg.trim, .slice uhwa R.writers.length uhwc, .slice uhna R.mends.length uhnc, .slice uhra R.readers.length uhrc, .slice uhta R.sent.length uhtc, .bool R.torn] 36) = w177 at *
    have sz178 := dHide hbx152
    clear hbx152
    refine (eqWorld_ _ _ _ _ (dUnhide OH).now.rd (dUnhide OW).now.rd).mono ?_
    rintro e w179 ⟨rfl, b180⟩
    clear k155 k156 k157 k158 k159 k160 k161 k162 k163 k164 k165 k166 k167 k168 k169 k170 k171 k172 k173 k174 k175 k176
    have sz181 := dHide b180.size
    replace X0 := dHide ((dUnhide X0).below b180)
    replace OW := dHide ((dUnhide OW).below b180)
    replace X10 := dHide ((dUnhide X10).below b180)
    replace X36 := dHide ((dUnhide X36).below b180)
    replace M125 := dHide ((dUnhide M125).below b180)
    replace OH := dHide ((dUnhide OH).below b180)
    replace X151 := dHide ((dUnhide X151).below b180)
    replace B := belowThen B b180
    clear b180
    have k182 := (dUnhide X36).now 0 _ rfl
    have k183 := (dUnhide X36).now 1 _ rfl
    have k184 := (dUnhide X36).now 2 _ rfl
    have k185 := (dUnhide X36).now 3 _ rfl
    have k186 := (dUnhide X36).now 4 _ rfl
    have k187 := (dUnhide X36).now 5 _ rfl
    have k188 := (dUnhide X36).now 6 _ rfl
    have k189 := (dUnhide X36).now 7 _ rfl
    have k190 := (dUnhide X36).now 8 _ rfl
    have k191 := (dUnhide X36).now 9 _ rfl
    have k192 := (dUnhide X36).now 10 _ rfl
    go_wp2_with fail
    refine (heldWorldB_ _ R 1 _ (by omega) (by omega) hRl (dUnhide M125).now.rd).mono ?_
    rintro e w193 ⟨rfl, b194⟩
    clear k182 k183 k184 k185 k186 k187 k188 k189 k190 k191 k192
    have sz195 := dHide b194.size
    replace X0 := dHide ((dUnhide X0).below b194)
    replace OW := dHide ((dUnhide OW).below b194)
    replace X10 := dHide ((dUnhide X10).below b194)
    replace X36 := dHide ((dUnhide X36).below b194)
    replace M125 := dHide ((dUnhide M125).below b194)
    replace OH := dHide ((dUnhide OH).below b194)
    replace X151 := dHide ((dUnhide X151).below b194)
    replace B := belowThen B b194
    clear b194
    clear X0 OW X10 X36 M125 OH X151
    go_wp2
    go_ret
    exact ⟨rfl, B⟩
end Go.Proofs.Ytaamipmlalplbaa
