/- FnExactReaderPack: both answers, and the law's walk (printed by tools/mkl17.py). -/
import Derived.Test.YtioocibgfhgkhaaQ17R
import Derived.Deep.RegionHeld3
import Derived.Deep.DeepCutAuto
namespace Go.Proofs.Ytioocibgfhgkhaa
open Go.ChangeShapes Go.WideShapes Go.ChangeAt Go.RowKit
set_option linter.unusedVariables false
theorem bothFnExactReaderPack (m0 : Rr) (ok0 : okReader m0) (hs0 : sizReader m0 ≤ 1048576) : ∃ (R : List UInt8) (s1 : Bool), cntByteS R ≤ 16777216 ∧ (∀ W v0, RdReader v0 m0 W → Calls Try.prog 29 #[v0] W fun e w' => ∃ u, e = .returned (.tuple #[u, .bool s1]) ∧ Sits (OwByteS W.heap.size w'.heap.size u R) W.heap.size w'.heap.size w' ∧ Below W.heap.size W w') ∧ (∀ W v0, RdReader v0 m0 W → Calls Try.prog 31 #[v0] W fun e w' => ∃ u, e = .returned (.tuple #[u, .bool s1]) ∧ Sits (OwByteS W.heap.size w'.heap.size u R) W.heap.size w'.heap.size w' ∧ Below W.heap.size W w') := bothReaderPack_ m0 ok0 hs0
set_option maxHeartbeats 4000000 in
set_option maxRecDepth 100000 in
theorem walkFnExactReaderPack (v0 : Value) (m0 : Rr) (w : World) (i0 : IsReader v0 m0 w) :
    Calls Try.prog 6 #[v0] w fun r w' => r = .returned (.bool true) ∧ Below w.heap.size w w' := by
  obtain ⟨r0, ok0⟩ := i0
  have ha : ∀ (w : World) o, Below w.heap.size w (w.alloc o) := fun w o => (Below.refl _ _).alloc (Nat.le_refl _) o
  have A0 := dHide fun W (hb : Below w.heap.size w W) => r0.below hb
  obtain ⟨v0a, v0c, rfl, v0l⟩ := formReader r0
  by_cases z0 : (1048576 : Int) < (sizReader m0 : Int)
  · have CS0 := dHide fun W (hb : Below w.heap.size w W) => szReader_ _ m0 (1048576 : Int) (by omega) (by omega) (txtR_of ok0) W (dUnhide A0 W hb)
    rw [lft_no z0] at CS0
    clear z0
    go_enter Try.func6, Try.ntmps6
    go_wp2_with fail
    have B := ha w (.cells #[.int .i64 m0.epoch, .int .i64 m0.off, .slice v0a m0.out.length v0c] 62)
    have X0 := dHide (Sits.box w #[.int .i64 m0.epoch, .int .i64 m0.off, .slice v0a m0.out.length v0c] 62)
    have sz0 : Hid (w.heap.size + 1 = (w.alloc (.cells #[.int .i64 m0.epoch, .int .i64 m0.off, .slice v0a m0.out.length v0c] 62)).heap.size) := by simp [Hid]
    generalize w.alloc (.cells #[.int .i64 m0.epoch, .int .i64 m0.off, .slice v0a m0.out.length v0c] 62) = wb at *
    refine (dUnhide CS0 _ B).mono ?_
    rintro e ws0 ⟨rfl, bs⟩
    have sz1 := dHide bs.size
    replace X0 := dHide ((dUnhide X0).below bs)
    replace B := belowThen B bs
    clear bs CS0
    clear X0
    go_wp2
    go_ret
    exact ⟨rfl, B⟩
  have hs0 : sizReader m0 ≤ 1048576 := by omega
  have hc0 := cntReader_le hs0
  obtain ⟨R, s1, hR, p1, p2⟩ := bothFnExactReaderPack m0 ok0 hs0
  have CP := dHide p1
  have CI := dHide p2
  have CS0 := dHide fun W (hb : Below w.heap.size w W) => szReader_ _ m0 (1048576 : Int) (by omega) (by omega) (txtR_of ok0) W (dUnhide A0 W hb)
  rw [lft_yes z0] at CS0
  have z0' : ¬ ((1048576 : Int) - (sizReader m0 : Int) < 0) := by omega
  clear p1 p2 r0 ok0 
  go_enter Try.func6, Try.ntmps6
  go_wp2_with fail
  have B := ha w (.cells #[.int .i64 m0.epoch, .int .i64 m0.off, .slice v0a m0.out.length v0c] 62)
  have X0 := dHide (Sits.box w #[.int .i64 m0.epoch, .int .i64 m0.off, .slice v0a m0.out.length v0c] 62)
  have sz0 : Hid (w.heap.size + 1 = (w.alloc (.cells #[.int .i64 m0.epoch, .int .i64 m0.off, .slice v0a m0.out.length v0c] 62)).heap.size) := by simp [Hid]
  generalize w.alloc (.cells #[.int .i64 m0.epoch, .int .i64 m0.off, .slice v0a m0.out.length v0c] 62) = wb at *
  refine (dUnhide CS0 _ B).mono ?_
  rintro e ws0 ⟨rfl, bs⟩
  have sz1 := dHide bs.size
  replace X0 := dHide ((dUnhide X0).below bs)
  replace B := belowThen B bs
  clear bs CS0
  have k2 := (dUnhide X0).now 0 _ rfl
  have k3 := (dUnhide X0).now 1 _ rfl
  have k4 := (dUnhide X0).now 2 _ rfl
  go_wp2_with fail
  refine (toReader_ _ m0 _ hs0 (dUnhide A0 _ B)).mono ?_
  rintro e w7 ⟨u6, rfl, T5, b8⟩
  clear k2 k3 k4
  have sz9 := dHide b8.size
  replace X0 := dHide ((dUnhide X0).below b8)
  replace B := belowThen B b8
  replace T5 := dHide T5
  clear b8
  obtain ⟨u6a, u6c, rfl, u6l⟩ := formReader (dUnhide T5).now.rd
  go_wp2_with fail
  refine (dUnhide CP _ _ (dUnhide T5).now.rd).mono ?_
  rintro e w3 ⟨uw, rfl, OW, bw⟩
  clear T5
  have sz10 := dHide bw.size
  replace X0 := dHide ((dUnhide X0).below bw)
  replace B := belowThen B bw
  replace OW := dHide OW
  clear bw CP
  obtain ⟨uwa, uwc, rfl, uwl⟩ := formByteS (dUnhide OW).now.rd
  have k11 := (dUnhide X0).now 0 _ rfl
  have k12 := (dUnhide X0).now 1 _ rfl
  have k13 := (dUnhide X0).now 2 _ rfl
  go_wp2_with fail
  refine (toReader_ _ m0 _ hs0 (dUnhide A0 _ B)).mono ?_
  rintro e w16 ⟨u15, rfl, T14, b17⟩
  clear k11 k12 k13
  have sz18 := dHide b17.size
  replace X0 := dHide ((dUnhide X0).below b17)
  replace OW := dHide ((dUnhide OW).below b17)
  replace B := belowThen B b17
  replace T14 := dHide T14
  clear b17
  obtain ⟨u15a, u15c, rfl, u15l⟩ := formReader (dUnhide T14).now.rd
  have X19 := Sits.box w16 #[.int .i64 m0.epoch, .int .i64 m0.off, .slice u15a m0.out.length u15c] 67
  have ba := ha w16 (.cells #[.int .i64 m0.epoch, .int .i64 m0.off, .slice u15a m0.out.length u15c] 67)
  have sz21 := dHide ba.size
  replace X0 := dHide ((dUnhide X0).below ba)
  replace OW := dHide ((dUnhide OW).below ba)
  replace T14 := dHide ((dUnhide T14).below ba)
  replace B := belowThen B ba
  have sz22 : Hid (w16.heap.size + 1 = (w16.alloc (.cells #[.int .i64 m0.epoch, .int .i64 m0.off, .slice u15a m0.out.length u15c] 67)).heap.size) := by simp [Hid]
  replace X19 := dHide X19
  clear ba
  go_wp2_with fail
  generalize hbx20 : w16.heap.size = bx20 at *
  generalize w16.alloc (.cells #[.int .i64 m0.epoch, .int .i64 m0.off, .slice u15a m0.out.length u15c] 67) = w23 at *
  have sz24 := dHide hbx20
  clear hbx20
  have k25 := (dUnhide X19).now 0 _ rfl
  have k26 := (dUnhide X19).now 1 _ rfl
  have k27 := (dUnhide X19).now 2 _ rfl
  refine (dUnhide CI _ _ (dUnhide T14).now.rd).mono ?_
  rintro e w28 ⟨ug, rfl, OG, b29⟩
  clear k25 k26 k27
  have sz30 := dHide b29.size
  replace X0 := dHide ((dUnhide X0).below b29)
  replace OW := dHide ((dUnhide OW).below b29)
  replace T14 := dHide ((dUnhide T14).below b29)
  replace X19 := dHide ((dUnhide X19).below b29)
  replace B := belowThen B b29
  replace OG := dHide OG
  clear b29
  obtain ⟨uga, ugc, rfl, ugl⟩ := formByteS (dUnhide OG).now.rd
  go_wp2_with fail
  refine (eqByteS_ _ _ _ _ (dUnhide OG).now.rd (dUnhide OW).now.rd).mono ?_
  rintro e w31 ⟨rfl, b32⟩
  have sz33 := dHide b32.size
  replace X0 := dHide ((dUnhide X0).below b32)
  replace OW := dHide ((dUnhide OW).below b32)
  replace T14 := dHide ((dUnhide T14).below b32)
  replace X19 := dHide ((dUnhide X19).below b32)
  replace OG := dHide ((dUnhide OG).below b32)
  replace B := belowThen B b32
  clear b32
  have k34 := (dUnhide X19).now 0 _ rfl
  have k35 := (dUnhide X19).now 1 _ rfl
  have k36 := (dUnhide X19).now 2 _ rfl
  have k37 := (dUnhide X0).now 0 _ rfl
  have k38 := (dUnhide X0).now 1 _ rfl
  have k39 := (dUnhide X0).now 2 _ rfl
  have hbr := Below.refl w31.heap.size w31
  go_wp2_with fail
  go_cut [45] (fun sv wx => sv = .bool false ∧ Below w31.heap.size w31 wx)
  case first =>
    go_region_held3 (fun W => W.cell? ⟨bx20, 0, none⟩ = some (.int .i64 m0.epoch) ∧ W.cell? ⟨bx20, 1, none⟩ = some (.int .i64 m0.off) ∧ W.cell? ⟨bx20, 2, none⟩ = some (.slice u15a m0.out.length u15c) ∧ W.cell? ⟨w.heap.size, 0, none⟩ = some (.int .i64 m0.epoch) ∧ W.cell? ⟨w.heap.size, 1, none⟩ = some (.int .i64 m0.off) ∧ W.cell? ⟨w.heap.size, 2, none⟩ = some (.slice v0a m0.out.length v0c)) (go_keep)
      (first
        | (go_at_call 30; refine (toReader_ _ m0 _ hs0 (dUnhide A0 _ (belowThen B hbr.drew))).mono ?_; rintro e w8 ⟨o8, rfl, q8, b8⟩; have hb8 := belowThen hbr.drew b8; have k40 := ((dUnhide X19).at hb8) 0 _ rfl; have k41 := ((dUnhide X19).at hb8) 1 _ rfl; have k42 := ((dUnhide X19).at hb8) 2 _ rfl; have k43 := ((dUnhide X0).at hb8) 0 _ rfl; have k44 := ((dUnhide X0).at hb8) 1 _ rfl; have k45 := ((dUnhide X0).at hb8) 2 _ rfl; have Q8 := dHide q8; obtain ⟨o8a, o8c, rfl, o8l⟩ := formReader q8.now.rd; clear q8)
        | (go_at_call 32; refine (eqReader_ _ _ _ _ ((dUnhide T14).at hb8).rd (dUnhide Q8).now.rd).mono ?_; rintro e w9 ⟨rfl, b9⟩; have hb9 := belowThen hb8 b9; have k46 := ((dUnhide X19).at hb9) 0 _ rfl; have k47 := ((dUnhide X19).at hb9) 1 _ rfl; have k48 := ((dUnhide X19).at hb9) 2 _ rfl; have k49 := ((dUnhide X0).at hb9) 0 _ rfl; have k50 := ((dUnhide X0).at hb9) 1 _ rfl; have k51 := ((dUnhide X0).at hb9) 2 _ rfl))
    all_goals
      go_wp2_with fail
      go_meet
      case rel => exact ⟨rfl, hb9⟩
  case rest =>
    obtain ⟨rfl, bc⟩ := hcut
    clear hbr
    clear k34 k35 k36 k37 k38 k39
    have sz52 := dHide bc.size
    replace X0 := dHide ((dUnhide X0).below bc)
    replace OW := dHide ((dUnhide OW).below bc)
    replace T14 := dHide ((dUnhide T14).below bc)
    replace X19 := dHide ((dUnhide X19).below bc)
    replace OG := dHide ((dUnhide OG).below bc)
    replace B := belowThen B bc
    generalize wc = w53 at *
    clear bc
    have k54 := (dUnhide X19).now 0 _ rfl
    have k55 := (dUnhide X19).now 1 _ rfl
    have k56 := (dUnhide X19).now 2 _ rfl
    go_wp2_with fail
    refine (markReader_ _ _ _ _ 1 _ (by omega) (by omega) (dUnhide T14)).mono ?_
    rintro e w57 ⟨rfl, M59, b58⟩
    clear k54 k55 k56
    replace X0 := dHide ((dUnhide X0).wr b58 (by have := dUnhide sz0; have := dUnhide sz1; have := dUnhide sz9; have := dUnhide sz10; have := dUnhide sz18; have := dUnhide sz21; have := dUnhide sz22; have := dUnhide sz24; have := dUnhide sz30; have := dUnhide sz33; have := dUnhide sz52; omega))
    replace OW := dHide ((dUnhide OW).wr b58 (by have := dUnhide sz0; have := dUnhide sz1; have := dUnhide sz9; have := dUnhide sz10; have := dUnhide sz18; have := dUnhide sz21; have := dUnhide sz22; have := dUnhide sz24; have := dUnhide sz30; have := dUnhide sz33; have := dUnhide sz52; omega))
    replace X19 := dHide ((dUnhide X19).wr b58 (by have := dUnhide sz0; have := dUnhide sz1; have := dUnhide sz9; have := dUnhide sz10; have := dUnhide sz18; have := dUnhide sz21; have := dUnhide sz22; have := dUnhide sz24; have := dUnhide sz30; have := dUnhide sz33; have := dUnhide sz52; omega))
    replace OG := dHide ((dUnhide OG).wr b58 (by have := dUnhide sz0; have := dUnhide sz1; have := dUnhide sz9; have := dUnhide sz10; have := dUnhide sz18; have := dUnhide sz21; have := dUnhide sz22; have := dUnhide sz24; have := dUnhide sz30; have := dUnhide sz33; have := dUnhide sz52; omega))
    replace B := b58.below B B.size (by have := dUnhide sz0; have := dUnhide sz1; have := dUnhide sz9; have := dUnhide sz10; have := dUnhide sz18; have := dUnhide sz21; have := dUnhide sz22; have := dUnhide sz24; have := dUnhide sz30; have := dUnhide sz33; have := dUnhide sz52; omega)
    have sz60 := dHide b58.size
    replace M59 := dHide M59
    clear b58 T14
    clear M59 X19
    have hk : ¬ (((1 + cntReader m0 : Nat) : Int) < 0) := by omega
    go_wp2_with fail
    refine (eqByteS_ _ _ _ _ (dUnhide OG).now.rd (dUnhide OW).now.rd).mono ?_
    rintro e w61 ⟨rfl, b62⟩
    have sz63 := dHide b62.size
    replace X0 := dHide ((dUnhide X0).below b62)
    replace OW := dHide ((dUnhide OW).below b62)
    replace OG := dHide ((dUnhide OG).below b62)
    replace B := belowThen B b62
    clear b62
    go_wp2_with fail
    refine (markByteS_ _ _ _ _ 1 _ (by omega) (by omega) (dUnhide OG)).mono ?_
    rintro e w64 ⟨rfl, M66, b65⟩
    replace X0 := dHide ((dUnhide X0).wr b65 (by have := dUnhide sz0; have := dUnhide sz1; have := dUnhide sz9; have := dUnhide sz10; have := dUnhide sz18; have := dUnhide sz21; have := dUnhide sz22; have := dUnhide sz24; have := dUnhide sz30; have := dUnhide sz33; have := dUnhide sz52; have := dUnhide sz60; have := dUnhide sz63; omega))
    replace OW := dHide ((dUnhide OW).wr b65 (by have := dUnhide sz0; have := dUnhide sz1; have := dUnhide sz9; have := dUnhide sz10; have := dUnhide sz18; have := dUnhide sz21; have := dUnhide sz22; have := dUnhide sz24; have := dUnhide sz30; have := dUnhide sz33; have := dUnhide sz52; have := dUnhide sz60; have := dUnhide sz63; omega))
    replace B := b65.below B B.size (by have := dUnhide sz0; have := dUnhide sz1; have := dUnhide sz9; have := dUnhide sz10; have := dUnhide sz18; have := dUnhide sz21; have := dUnhide sz22; have := dUnhide sz24; have := dUnhide sz30; have := dUnhide sz33; have := dUnhide sz52; have := dUnhide sz60; have := dUnhide sz63; omega)
    have sz67 := dHide b65.size
    replace M66 := dHide M66
    clear b65 OG
    go_wp2_with fail
    refine (heldByteS_ _ R 1 _ (by omega) (by omega) (dUnhide M66).now.rd).mono ?_
    rintro e w68 ⟨rfl, b69⟩
    have sz70 := dHide b69.size
    replace X0 := dHide ((dUnhide X0).below b69)
    replace OW := dHide ((dUnhide OW).below b69)
    replace M66 := dHide ((dUnhide M66).below b69)
    replace B := belowThen B b69
    clear b69
    have hq : ¬ (((1 + cntByteS R : Nat) : Int) < 0) := by omega
    have k71 := (dUnhide X0).now 0 _ rfl
    have k72 := (dUnhide X0).now 1 _ rfl
    have k73 := (dUnhide X0).now 2 _ rfl
    go_wp2_with fail
    refine (toReader_ _ m0 _ hs0 (dUnhide A0 _ B)).mono ?_
    rintro e w76 ⟨u75, rfl, T74, b77⟩
    clear k71 k72 k73
    have sz78 := dHide b77.size
    replace X0 := dHide ((dUnhide X0).below b77)
    replace OW := dHide ((dUnhide OW).below b77)
    replace M66 := dHide ((dUnhide M66).below b77)
    replace B := belowThen B b77
    replace T74 := dHide T74
    clear b77
    obtain ⟨u75a, u75c, rfl, u75l⟩ := formReader (dUnhide T74).now.rd
    go_wp2_with fail
    refine (dUnhide CI _ _ (dUnhide T74).now.rd).mono ?_
    rintro e w79 ⟨uh, rfl, OH, b80⟩
    clear T74
    have sz81 := dHide b80.size
    replace X0 := dHide ((dUnhide X0).below b80)
    replace OW := dHide ((dUnhide OW).below b80)
    replace M66 := dHide ((dUnhide M66).below b80)
    replace B := belowThen B b80
    replace OH := dHide OH
    clear b80
    obtain ⟨uha, uhc, rfl, uhl⟩ := formByteS (dUnhide OH).now.rd
    go_wp2_with fail
    refine (eqByteS_ _ _ _ _ (dUnhide OH).now.rd (dUnhide OW).now.rd).mono ?_
    rintro e w82 ⟨rfl, b83⟩
    have sz84 := dHide b83.size
    replace X0 := dHide ((dUnhide X0).below b83)
    replace OW := dHide ((dUnhide OW).below b83)
    replace M66 := dHide ((dUnhide M66).below b83)
    replace OH := dHide ((dUnhide OH).below b83)
    replace B := belowThen B b83
    clear b83
    go_wp2_with fail
    refine (heldByteS_ _ R 1 _ (by omega) (by omega) (dUnhide M66).now.rd).mono ?_
    rintro e w85 ⟨rfl, b86⟩
    have sz87 := dHide b86.size
    replace X0 := dHide ((dUnhide X0).below b86)
    replace OW := dHide ((dUnhide OW).below b86)
    replace M66 := dHide ((dUnhide M66).below b86)
    replace OH := dHide ((dUnhide OH).below b86)
    replace B := belowThen B b86
    clear b86
    clear X0 OW M66 OH
    go_wp2
    go_ret
    exact ⟨rfl, B⟩
end Go.Proofs.Ytioocibgfhgkhaa
