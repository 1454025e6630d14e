/- Several texts in one: PvH, Q17H, L17GR. -/
import Derived.Test.YtioocibgfhgkhaaGreatDoorHp2
import Derived.Test.YtioocibgfhgkhaaGreatDoorHg1
import Derived.Test.YtioocibgfhgkhaaGreatDoorHk1
import Derived.Test.YtioocibgfhgkhaaGreatDoorOpenR
import Derived.Test.YtioocibgfhgkhaaGreatDoorHy1
import Derived.Test.YtioocibgfhgkhaaGreatDoorSitU
import Derived.Deep.RegionHeld3
import Derived.Deep.DeepCutAuto
namespace Go.Proofs.YtioocibgfhgkhaaGreatDoor
open Go.ChangeShapes Go.WideShapes Go.ChangeAt Go.RowKit
set_option linter.unusedVariables false
set_option linter.unusedSimpArgs false
set_option maxRecDepth 100000

/-- A register that is read, in new memory. -/
def OReg (b : Nat) (m : Rg) (u : Value) (W : World) : Prop := ∃ (ua : Option Addr) (c : Nat), u = .agg #[.slice ua m.eras.length c, .int .i64 m.trim] ∧ NAp W b (.slice ua m.eras.length c) m.eras
theorem OReg.far (b : Nat) (m : Rg) (u : Value) : FarO b (OReg b m u) := fun W W' ⟨ua, c, h1, h2⟩ hs hk => ⟨ua, c, h1, NAp.farO _ _ _ W W' h2 hs hk⟩
theorem OReg.mono (b b' : Nat) (m : Rg) (u : Value) (W : World) (h : b ≤ b') : OReg b' m u W → OReg b m u W := fun ⟨ua, c, h1, h2⟩ => ⟨ua, c, h1, NAp.mono h2 h⟩
theorem rdG_reg (ds : List Int) (cop : Int) (bs : List UInt8) : RdG (rgRd bs).2.2 (rgRd bs).2.1 bs.length (regP ds cop (rgRm bs)) ↔ (endB bs (rgRd bs).2.1 (rgRd bs).2.2 = true ∧ regP ds cop (rgRm bs)) := by
  unfold RdG endB
  generalize (rgRd bs).2.2 = ok
  generalize (rgRd bs).2.1 = q
  cases ok <;> simp <;> omega
set_option maxHeartbeats 4000000 in
theorem implRegRead_any (cv v : Value) (c : List Int × Int) (bs : List UInt8) (w : World) (hH : Hnd w) (hcv : RdConfig cv c w) (okc : okConfig c) (hsc : sizConfig c ≤ 1048576) (hv : Bs w v bs) (hl : bs.length ≤ 1048576) :
    Calls Tryz.prog 9 #[cv, v] w fun e w' => (∃ (a : Option Addr) (cc : Nat), e = .returned (.tuple #[.agg #[.slice a (rgR c.1 c.2 bs).1.eras.length cc, .int .i64 (rgR c.1 c.2 bs).1.trim], .bool (rgR c.1 c.2 bs).2]) ∧ NAp w' w.heap.size (.slice a (rgR c.1 c.2 bs).1.eras.length cc) (rgR c.1 c.2 bs).1.eras) ∧ Below w.heap.size w w' := by
  have ba : ∀ (w : World) o, Below w.heap.size w (w.alloc o) := fun w o => (Below.refl _ _).alloc (Nat.le_refl _) o
  have HV := dHide fun W (hb : Below w.heap.size w W) => hv.below hb
  have HCV := dHide fun W (hb : Below w.heap.size w W) => hcv.below hb
  have HH := dHide fun W (hb : Below w.heap.size w W) => hH.below hb (Nat.le_refl _)
  have hlt : ∀ W, Below w.heap.size w W → ∀ ab, w.heap.size ≤ ab → bs = [] ∨ blockOf v ≠ ab := fun W hb ab hab => by
    by_cases h : bs = []
    · exact .inl h
    · exact .inr (by have := hv.lt h; omega)
  obtain ⟨ca, cc, rfl, -⟩ := formConfig hcv
  have CF := dHide fun W => registerForm_any ca c.1.length cc c.2 W
  have hq4 := rgRd_le bs
  have CU : Hid (∀ W cb, Below w.heap.size w W → Bx W cb [.slice ca c.1.length cc, .int .i64 c.2] → Calls Tryz.prog 29 #[.agg (registerFormL cb).toArray, v] W fun e w' => ∃ (ua : Option Addr) (n c' : Nat) (x : Int) (b : Bool), e = .returned (.tuple #[.agg #[.slice ua n c', .int .i64 x], .bool b]) ∧ UnPost (OReg W.heap.size) (RdG (rgRd bs).2.2 (rgRd bs).2.1 bs.length (regP c.1 c.2 (rgRm bs))) (rgRm bs) (.agg #[.slice none 0 0, .int .i64 0]) W (.agg #[.slice ua n c', .int .i64 x]) b w') := fun W cb hb hX => by
    have hvv : ∃ (va : Option Addr) (vn vcp : Nat), v = .slice va vn vcp := by
      obtain ⟨-, va, vcp, e, -⟩ := hv
      exact ⟨va, _, vcp, e⟩
    obtain ⟨va, vn, vcp, hvv⟩ := hvv
    refine unpackRegister cb v OReg OReg.far OReg.mono _ _ W (dUnhide HH W hb) (fun W1 hb1 => ?_) va vn vcp hvv
    refine recordInRegister cb v bs OReg OReg.far OReg.mono (rgRm bs) (regP c.1 c.2) (rgRd bs).2.1 (rgRd bs).2.2 W1 (dUnhide HV W1 (belowThen hb hb1)) hl (fun _ => hq4) (fun W2 ab hb2 hab hc => ?_) (fun W2 ua n c' x hb2 hok ho => ?_)
    · refine (register_any ab v bs W2 hc (fun W3 hw3 => dUnhide HV W3 (hw3.below (belowThen (belowThen hb hb1) hb2) (by have := (belowThen (belowThen hb hb1) hb2).size; omega) (by have := (belowThen hb hb1).size; omega))) hl (hlt W2 (belowThen (belowThen hb hb1) hb2) ab (by have := (belowThen hb hb1).size; omega))).mono ?_
      rintro e w' ⟨ua, n, c', x, m, rfl, ⟨rfl, rfl, h1⟩, h4, h5, h6⟩
      exact ⟨ua, _, c', _, m, rfl, ⟨ua, c', rfl, h1⟩, h4, h5, h6⟩
    · obtain ⟨ua', c'', e, h1⟩ := ho
      rw [e]
      exact registerForm1_any c ca cc _ ua' c'' cb W2 (dUnhide HCV W2 (belowThen (belowThen hb hb1) hb2)) ⟨_, rfl, (NAp.ow h1).rd⟩ okc (rgRm_ok bs) hsc (Nat.le_trans (rgRm_siz bs hok) hl) ((hX.below hb1).below hb2)
  have EY : Hid (_ → _) := rgR_yes c.1 c.2 bs
  have EN : Hid (_ → _) := rgR_no c.1 c.2 bs
  have EG := dHide (rdG_reg c.1 c.2 bs)
  rw [← dUnhide EG] at EY EN
  generalize RdG (rgRd bs).2.2 (rgRd bs).2.1 bs.length (regP c.1 c.2 (rgRm bs)) = G at *
  generalize rgR c.1 c.2 bs = CR at *
  generalize rgRm bs = MM at *
  have i1 : (w.alloc (.cells #[.slice ca c.1.length cc, .int .i64 c.2] 32)).heap.size = w.heap.size + 1 := by simp
  have G0 := (Bx.new w [.slice ca c.1.length cc, .int .i64 c.2] 32).below (ba _ (.cells #[.slice none 0 0, .int .i64 0] 29))
  have Z0 := BxZ.new (w.alloc (.cells #[.slice ca c.1.length cc, .int .i64 c.2] 32)) [.slice none 0 0, .int .i64 0] 29 (B := w.heap.size) (by omega)
  rw [i1] at Z0
  have B0 := belowThen (ba w (.cells #[.slice ca c.1.length cc, .int .i64 c.2] 32)) (ba _ (.cells #[.slice none 0 0, .int .i64 0] 29))
  have hs0 : ((w.alloc (.cells #[.slice ca c.1.length cc, .int .i64 c.2] 32)).alloc (.cells #[.slice none 0 0, .int .i64 0] 29)).heap.size = w.heap.size + 2 := by simp
  clear HV HCV HH hlt hq4 hv hH ba EG hcv okc hsc i1
  go_enter Tryz.func9, Tryz.ntmps9
  go_upto_region 1 with fail
  generalize (w.alloc (.cells #[.slice ca c.1.length cc, .int .i64 c.2] 32)).alloc (.cells #[.slice none 0 0, .int .i64 0] 29) = w0 at *
  have g0 := G0 0 _ rfl
  have g1 := G0 1 _ rfl
  go_wp2_with fail
  refine (dUnhide CF _).mono ?_
  rintro e w1 ⟨cb, rfl, hX1, b1⟩
  have B1 := belowThen B0 b1
  have Z1 := Z0.below b1
  have hs1 := b1.size
  have C1 := dHide (dUnhide CU w1 cb B1 hX1)
  clear CF CU Z0 B0 b1 g0 g1 G0 hX1
  unfold registerFormL at *
  go_wp2_with fail
  refine (dUnhide C1).mono ?_
  rintro e w2 ⟨ua, n, c', x, b, rfl, hy, hn, b2⟩
  have B2 := belowThen B1 b2
  have Z2 := Z1.below b2
  obtain ⟨z0, y0⟩ := Z2.2 0 _ rfl
  obtain ⟨z1, y1⟩ := Z2.2 1 _ rfl
  have FZ := dHide (And.intro ((Z2.put 0 (.slice ua n c')).put 1 (.int .i64 x)) (Below.setCell (p := ⟨w.heap.size + 1, 1, none⟩) (Below.setCell (p := ⟨w.heap.size + 1, 0, none⟩) B2 (by simp only; omega) (.slice ua n c')) (by simp only; omega) (.int .i64 x)))
  have HY := dHide hy
  have HN := dHide hn
  clear C1 Z1 Z2 B1 B2 b2 hy hn
  go_wp2
  have fin := dUnhide FZ
  have HO : ∀ xs, NAp w2 w1.heap.size (.slice ua n c') xs → NAp ((w2.setCell ⟨w.heap.size + 1, 0, none⟩ (.slice ua n c')).setCell ⟨w.heap.size + 1, 1, none⟩ (.int .i64 x)) w.heap.size (.slice ua n c') xs := fun xs h => NAp.mono (NAp.far (NAp.far h (b := w.heap.size + 1) (o := 0) (by omega) _) (b := w.heap.size + 1) (o := 1) (by omega) _) (by omega)
  generalize (w2.setCell ⟨w.heap.size + 1, 0, none⟩ (.slice ua n c')).setCell ⟨w.heap.size + 1, 1, none⟩ (.int .i64 x) = V at *
  obtain ⟨r, bb⟩ := fin
  have q0 := (r.2 0 _ rfl).1
  have q1 := (r.2 1 _ rfl).1
  refine bodyPost_ret (v := .tuple #[.agg #[.slice ua n c', .int .i64 x], .bool b]) (by simp [results, Tryz.results9, go_sem, q0, q1]) rfl ?_
  by_cases hG : G
  · obtain ⟨rfl, ua', c'', e, h1⟩ := dUnhide HY hG
    have eC := dUnhide EY hG
    subst eC
    simp only [Value.agg.injEq, Array.mk.injEq, List.cons.injEq, Value.slice.injEq, Value.int.injEq, true_and, and_true] at e
    obtain ⟨⟨rfl, rfl, rfl⟩, rfl⟩ := e
    exact ⟨⟨_, _, rfl, HO _ h1⟩, bb⟩
  · obtain ⟨rfl, e⟩ := dUnhide HN hG
    have eC := dUnhide EN hG
    subst eC
    simp only [Value.agg.injEq, Array.mk.injEq, List.cons.injEq, Value.slice.injEq, Value.int.injEq, true_and, and_true] at e
    obtain ⟨⟨rfl, rfl, rfl⟩, rfl⟩ := e
    exact ⟨⟨_, _, rfl, NAp.nil _ _ _⟩, bb⟩
end Go.Proofs.YtioocibgfhgkhaaGreatDoor
namespace Go.Proofs.YtioocibgfhgkhaaGreatDoor
open Go.ChangeShapes Go.WideShapes Go.ChangeAt Go.RowKit
set_option linter.unusedVariables false
set_option linter.unusedSimpArgs false

theorem NAp.sitsG {w : World} {base : Nat} {a : Option Addr} {c : Nat} {m : Rg} (h : NAp w base (.slice a m.eras.length c) m.eras) : Sits (OwRegister base w.heap.size (.agg #[.slice a m.eras.length c, .int .i64 m.trim]) m) base w.heap.size w := (OwK.sits h.ow (Nat.le_refl _)).imp fun W hW => ⟨_, rfl, hW⟩
theorem rgR_cnt (ds : List Int) (cop : Int) (bs : List UInt8) (hl : bs.length ≤ 1048576) : cntRegister (rgR ds cop bs).1 ≤ 16777216 := by
  by_cases h : endB bs (rgRd bs).2.1 (rgRd bs).2.2 = true ∧ regP ds cop (rgRm bs)
  · rw [rgR_yes ds cop bs h]
    have h1 : (rgRd bs).2.2 = true := by
      have := h.1
      unfold endB at this
      rw [Bool.and_eq_true] at this
      exact this.1
    have h2 := rgRm_siz bs h1
    unfold sizRegister sizEraS at h2
    show cntRegister (rgRm bs) ≤ 16777216
    unfold cntRegister cntEraS
    omega
  · rw [rgR_no ds cop bs h]
    simp [cntRegister, cntEraS, sumN]
theorem bothRegRead_ (m0 : List Int × Int) (m1 : List UInt8) (ok0 : okConfig m0) (ok1 : okByteS m1) (hs0 : sizConfig m0 ≤ 1048576) (hs1 : sizByteS m1 ≤ 1048576) (w : World) (hS : Hnd w) : ∃ (R : Rg) (s1 : Bool), cntRegister R ≤ 16777216 ∧ (∀ W v0 v1, RdConfig v0 m0 W → RdByteS v1 m1 W → Calls Tryz.prog 6 #[v0, v1] W fun e w' => ∃ u, e = .returned (.tuple #[u, .bool s1]) ∧ Sits (OwRegister W.heap.size w'.heap.size u R) W.heap.size w'.heap.size w' ∧ Below W.heap.size W w') ∧ (∀ W, Below w.heap.size w W → ∀ v0 v1, RdConfig v0 m0 W → RdByteS v1 m1 W → Calls Tryz.prog 9 #[v0, v1] W fun e w' => ∃ u, e = .returned (.tuple #[u, .bool s1]) ∧ Sits (OwRegister W.heap.size w'.heap.size u R) W.heap.size w'.heap.size w' ∧ Below W.heap.size W w') := by
  refine ⟨(rgR m0.1 m0.2 m1).1, (rgR m0.1 m0.2 m1).2, rgR_cnt _ _ _ hs1, fun W v0 v1 h0 h1 => ?_, fun W hW v0 v1 h0 h1 => ?_⟩
  · refine (specRegRead_any v0 v1 m0 m1 W h0 h1 hs1).mono ?_
    rintro e w' ⟨⟨a, c, rfl, hO⟩, hB⟩
    exact ⟨_, rfl, hO.sitsG, hB⟩
  · refine (implRegRead_any v0 v1 m0 m1 W (hS.below hW (Nat.le_refl _)) h0 ok0 hs0 h1 hs1).mono ?_
    rintro e w' ⟨⟨a, c, rfl, hO⟩, hB⟩
    exact ⟨_, rfl, hO.sitsG, hB⟩
end Go.Proofs.YtioocibgfhgkhaaGreatDoor
namespace Go.Proofs.YtioocibgfhgkhaaGreatDoor
open Go.ChangeShapes Go.WideShapes Go.ChangeAt Go.RowKit
set_option linter.unusedVariables false
theorem bothFnExactRegRead (m0 : List Int × Int) (m1 : List UInt8) (ok0 : okConfig m0) (ok1 : okByteS m1) (hs0 : sizConfig m0 ≤ 1048576) (hs1 : sizByteS m1 ≤ 1048576) (w : World) (hS : Hnd w) : ∃ (R : Rg) (s1 : Bool), cntRegister R ≤ 16777216 ∧ (∀ W v0 v1, RdConfig v0 m0 W → RdByteS v1 m1 W → Calls Tryz.prog 6 #[v0, v1] W fun e w' => ∃ u, e = .returned (.tuple #[u, .bool s1]) ∧ Sits (OwRegister W.heap.size w'.heap.size u R) W.heap.size w'.heap.size w' ∧ Below W.heap.size W w') ∧ (∀ W, Below w.heap.size w W → ∀ v0 v1, RdConfig v0 m0 W → RdByteS v1 m1 W → Calls Tryz.prog 9 #[v0, v1] W fun e w' => ∃ u, e = .returned (.tuple #[u, .bool s1]) ∧ Sits (OwRegister W.heap.size w'.heap.size u R) W.heap.size w'.heap.size w' ∧ Below W.heap.size W w') := bothRegRead_ m0 m1 ok0 ok1 hs0 hs1 w hS
set_option maxHeartbeats 4000000 in
set_option maxRecDepth 100000 in
theorem walkFnExactRegRead (v0 v1 : Value) (m0 : List Int × Int) (m1 : List UInt8) (w : World) (i0 : IsConfig v0 m0 w) (i1 : RdByteS v1 m1 w) (hS : Hnd w) :
    Calls Tryz.prog 3 #[v0, v1] w fun r w' => r = .returned (.bool true) ∧ Below w.heap.size w w' := by
  obtain ⟨r0, ok0⟩ := i0
  have r1 : RdByteS v1 m1 w := i1
  have ok1 : okByteS m1 := trivial
  have ha : ∀ (w : World) o, Below w.heap.size w (w.alloc o) := fun w o => (Below.refl _ _).alloc (Nat.le_refl _) o
  have A0 := dHide fun W (hb : Below w.heap.size w W) => r0.below hb
  have A1 := dHide fun W (hb : Below w.heap.size w W) => r1.below hb
  obtain ⟨v0a, v0c, rfl, v0l⟩ := formConfig r0
  obtain ⟨v1a, v1c, rfl, v1l⟩ := formByteS r1
  by_cases g1 : (1048576 : Int) < (m1.length : Int)
  · go_enter Tryz.func3, Tryz.ntmps3
    go_wp2
    go_ret
    exact ⟨rfl, ha w _⟩
  by_cases z0 : (1048576 : Int) < (sizConfig m0 : Int)
  · have CS0 := dHide fun W (hb : Below w.heap.size w W) => szConfig_ _ m0 (1048576 : Int) (by omega) (by omega) W (dUnhide A0 W hb)
    rw [lft_no z0] at CS0
    clear z0
    go_enter Tryz.func3, Tryz.ntmps3
    go_wp2_with fail
    have B := ha w (.cells #[.slice v0a m0.1.length v0c, .int .i64 m0.2] 24)
    have X0 := dHide (Sits.box w #[.slice v0a m0.1.length v0c, .int .i64 m0.2] 24)
    have sz0 : Hid (w.heap.size + 1 = (w.alloc (.cells #[.slice v0a m0.1.length v0c, .int .i64 m0.2] 24)).heap.size) := by simp [Hid]
    generalize w.alloc (.cells #[.slice v0a m0.1.length v0c, .int .i64 m0.2] 24) = wb at *
    refine (dUnhide CS0 _ B).mono ?_
    rintro e ws0 ⟨rfl, bs⟩
    have sz1 := dHide bs.size
    replace X0 := dHide ((dUnhide X0).below bs)
    replace B := belowThen B bs
    clear bs CS0
    clear X0
    go_wp2
    go_ret
    exact ⟨rfl, B⟩
  have hs0 : sizConfig m0 ≤ 1048576 := by omega
  have hs1 : sizByteS m1 ≤ 1048576 := by unfold sizByteS; omega
  have hc0 := cntConfig_le hs0
  have hc1 := cntByteS_le hs1
  obtain ⟨R, s1, hR, p1, p2⟩ := bothFnExactRegRead m0 m1 ok0 ok1 hs0 hs1 w hS
  have CP := dHide p1
  have CI := dHide p2
  have CS0 := dHide fun W (hb : Below w.heap.size w W) => szConfig_ _ m0 (1048576 : Int) (by omega) (by omega) W (dUnhide A0 W hb)
  rw [lft_yes z0] at CS0
  have z0' : ¬ ((1048576 : Int) - (sizConfig m0 : Int) < 0) := by omega
  clear p1 p2 hS r0 ok0 r1 ok1 
  go_enter Tryz.func3, Tryz.ntmps3
  go_wp2_with fail
  have B := ha w (.cells #[.slice v0a m0.1.length v0c, .int .i64 m0.2] 24)
  have X0 := dHide (Sits.box w #[.slice v0a m0.1.length v0c, .int .i64 m0.2] 24)
  have sz0 : Hid (w.heap.size + 1 = (w.alloc (.cells #[.slice v0a m0.1.length v0c, .int .i64 m0.2] 24)).heap.size) := by simp [Hid]
  generalize w.alloc (.cells #[.slice v0a m0.1.length v0c, .int .i64 m0.2] 24) = wb at *
  refine (dUnhide CS0 _ B).mono ?_
  rintro e ws0 ⟨rfl, bs⟩
  have sz1 := dHide bs.size
  replace X0 := dHide ((dUnhide X0).below bs)
  replace B := belowThen B bs
  clear bs CS0
  have k2 := (dUnhide X0).now 0 _ rfl
  have k3 := (dUnhide X0).now 1 _ rfl
  go_wp2_with fail
  refine (toConfig_ _ m0 _ hs0 (dUnhide A0 _ B)).mono ?_
  rintro e w6 ⟨u5, rfl, T4, b7⟩
  clear k2 k3
  have sz8 := dHide b7.size
  replace X0 := dHide ((dUnhide X0).below b7)
  replace B := belowThen B b7
  replace T4 := dHide T4
  clear b7
  obtain ⟨u5a, u5c, rfl, u5l⟩ := formConfig (dUnhide T4).now.rd
  go_wp2_with fail
  refine (toByteS_ _ m1 _ hs1 (dUnhide A1 _ B)).mono ?_
  rintro e w11 ⟨u10, rfl, T9, b12⟩
  have sz13 := dHide b12.size
  replace X0 := dHide ((dUnhide X0).below b12)
  replace T4 := dHide ((dUnhide T4).below b12)
  replace B := belowThen B b12
  replace T9 := dHide T9
  clear b12
  obtain ⟨u10a, u10c, rfl, u10l⟩ := formByteS (dUnhide T9).now.rd
  go_wp2_with fail
  refine (dUnhide CP _ _ _ (dUnhide T4).now.rd (dUnhide T9).now.rd).mono ?_
  rintro e w3 ⟨uw, rfl, OW, bw⟩
  clear T4 T9
  have sz14 := dHide bw.size
  replace X0 := dHide ((dUnhide X0).below bw)
  replace B := belowThen B bw
  replace OW := dHide OW
  clear bw CP
  obtain ⟨uwa, uwc, rfl, uwl⟩ := formRegister (dUnhide OW).now.rd
  have X15 := Sits.box w3 #[.slice uwa R.eras.length uwc, .int .i64 R.trim] 29
  have ba := ha w3 (.cells #[.slice uwa R.eras.length uwc, .int .i64 R.trim] 29)
  have sz17 := dHide ba.size
  replace X0 := dHide ((dUnhide X0).below ba)
  replace OW := dHide ((dUnhide OW).below ba)
  replace B := belowThen B ba
  have sz18 : Hid (w3.heap.size + 1 = (w3.alloc (.cells #[.slice uwa R.eras.length uwc, .int .i64 R.trim] 29)).heap.size) := by simp [Hid]
  replace X15 := dHide X15
  clear ba
  have k19 := (dUnhide X0).now 0 _ rfl
  have k20 := (dUnhide X0).now 1 _ rfl
  go_wp2_with fail
  generalize hbx16 : w3.heap.size = bx16 at *
  generalize w3.alloc (.cells #[.slice uwa R.eras.length uwc, .int .i64 R.trim] 29) = w21 at *
  have sz22 := dHide hbx16
  clear hbx16
  have k23 := (dUnhide X0).now 0 _ rfl
  have k24 := (dUnhide X0).now 1 _ rfl
  refine (toConfig_ _ m0 _ hs0 (dUnhide A0 _ B)).mono ?_
  rintro e w27 ⟨u26, rfl, T25, b28⟩
  clear k23 k24
  clear k19 k20
  have sz29 := dHide b28.size
  replace X0 := dHide ((dUnhide X0).below b28)
  replace OW := dHide ((dUnhide OW).below b28)
  replace X15 := dHide ((dUnhide X15).below b28)
  replace B := belowThen B b28
  replace T25 := dHide T25
  clear b28
  obtain ⟨u26a, u26c, rfl, u26l⟩ := formConfig (dUnhide T25).now.rd
  have X30 := Sits.box w27 #[.slice u26a m0.1.length u26c, .int .i64 m0.2] 32
  have ba := ha w27 (.cells #[.slice u26a m0.1.length u26c, .int .i64 m0.2] 32)
  have sz32 := dHide ba.size
  replace X0 := dHide ((dUnhide X0).below ba)
  replace OW := dHide ((dUnhide OW).below ba)
  replace X15 := dHide ((dUnhide X15).below ba)
  replace T25 := dHide ((dUnhide T25).below ba)
  replace B := belowThen B ba
  have sz33 : Hid (w27.heap.size + 1 = (w27.alloc (.cells #[.slice u26a m0.1.length u26c, .int .i64 m0.2] 32)).heap.size) := by simp [Hid]
  replace X30 := dHide X30
  clear ba
  go_wp2_with fail
  generalize hbx31 : w27.heap.size = bx31 at *
  generalize w27.alloc (.cells #[.slice u26a m0.1.length u26c, .int .i64 m0.2] 32) = w34 at *
  have sz35 := dHide hbx31
  clear hbx31
  refine (toByteS_ _ m1 _ hs1 (dUnhide A1 _ B)).mono ?_
  rintro e w38 ⟨u37, rfl, T36, b39⟩
  have sz40 := dHide b39.size
  replace X0 := dHide ((dUnhide X0).below b39)
  replace OW := dHide ((dUnhide OW).below b39)
  replace X15 := dHide ((dUnhide X15).below b39)
  replace T25 := dHide ((dUnhide T25).below b39)
  replace X30 := dHide ((dUnhide X30).below b39)
  replace B := belowThen B b39
  replace T36 := dHide T36
  clear b39
  obtain ⟨u37a, u37c, rfl, u37l⟩ := formByteS (dUnhide T36).now.rd
  have k41 := (dUnhide X30).now 0 _ rfl
  have k42 := (dUnhide X30).now 1 _ rfl
  go_wp2_with fail
  refine (dUnhide CI _ B _ _ (dUnhide T25).now.rd (dUnhide T36).now.rd).mono ?_
  rintro e w43 ⟨ug, rfl, OG, b44⟩
  clear k41 k42
  have sz45 := dHide b44.size
  replace X0 := dHide ((dUnhide X0).below b44)
  replace OW := dHide ((dUnhide OW).below b44)
  replace X15 := dHide ((dUnhide X15).below b44)
  replace T25 := dHide ((dUnhide T25).below b44)
  replace X30 := dHide ((dUnhide X30).below b44)
  replace T36 := dHide ((dUnhide T36).below b44)
  replace B := belowThen B b44
  replace OG := dHide OG
  clear b44
  obtain ⟨uga, ugc, rfl, ugl⟩ := formRegister (dUnhide OG).now.rd
  have X46 := Sits.box w43 #[.slice uga R.eras.length ugc, .int .i64 R.trim] 29
  have ba := ha w43 (.cells #[.slice uga R.eras.length ugc, .int .i64 R.trim] 29)
  have sz48 := dHide ba.size
  replace X0 := dHide ((dUnhide X0).below ba)
  replace OW := dHide ((dUnhide OW).below ba)
  replace X15 := dHide ((dUnhide X15).below ba)
  replace T25 := dHide ((dUnhide T25).below ba)
  replace X30 := dHide ((dUnhide X30).below ba)
  replace T36 := dHide ((dUnhide T36).below ba)
  replace OG := dHide ((dUnhide OG).below ba)
  replace B := belowThen B ba
  have sz49 : Hid (w43.heap.size + 1 = (w43.alloc (.cells #[.slice uga R.eras.length ugc, .int .i64 R.trim] 29)).heap.size) := by simp [Hid]
  replace X46 := dHide X46
  clear ba
  have k50 := (dUnhide X46).now 0 _ rfl
  have k51 := (dUnhide X46).now 1 _ rfl
  have k52 := (dUnhide X15).now 0 _ rfl
  have k53 := (dUnhide X15).now 1 _ rfl
  go_wp2_with fail
  generalize hbx47 : w43.heap.size = bx47 at *
  generalize w43.alloc (.cells #[.slice uga R.eras.length ugc, .int .i64 R.trim] 29) = w54 at *
  have sz55 := dHide hbx47
  clear hbx47
  refine (eqRegister_ _ _ _ _ (dUnhide OG).now.rd (dUnhide OW).now.rd).mono ?_
  rintro e w56 ⟨rfl, b57⟩
  clear k50 k51 k52 k53
  have sz58 := dHide b57.size
  replace X0 := dHide ((dUnhide X0).below b57)
  replace OW := dHide ((dUnhide OW).below b57)
  replace X15 := dHide ((dUnhide X15).below b57)
  replace T25 := dHide ((dUnhide T25).below b57)
  replace X30 := dHide ((dUnhide X30).below b57)
  replace T36 := dHide ((dUnhide T36).below b57)
  replace OG := dHide ((dUnhide OG).below b57)
  replace X46 := dHide ((dUnhide X46).below b57)
  replace B := belowThen B b57
  clear b57
  have k59 := (dUnhide X30).now 0 _ rfl
  have k60 := (dUnhide X30).now 1 _ rfl
  have k61 := (dUnhide X0).now 0 _ rfl
  have k62 := (dUnhide X0).now 1 _ rfl
  have hbr := Below.refl w56.heap.size w56
  go_wp2_with fail
  go_cut [56] (fun sv wx => sv = .bool false ∧ Below w56.heap.size w56 wx)
  case first =>
    go_region_held3 (fun W => W.cell? ⟨bx31, 0, none⟩ = some (.slice u26a m0.1.length u26c) ∧ W.cell? ⟨bx31, 1, none⟩ = some (.int .i64 m0.2) ∧ W.cell? ⟨w.heap.size, 0, none⟩ = some (.slice v0a m0.1.length v0c) ∧ W.cell? ⟨w.heap.size, 1, none⟩ = some (.int .i64 m0.2)) (go_keep)
      (first
        | (go_at_call 7; refine (toConfig_ _ m0 _ hs0 (dUnhide A0 _ (belowThen B hbr.drew))).mono ?_; rintro e w8 ⟨o8, rfl, q8, b8⟩; have hb8 := belowThen hbr.drew b8; have k63 := ((dUnhide X30).at hb8) 0 _ rfl; have k64 := ((dUnhide X30).at hb8) 1 _ rfl; have k65 := ((dUnhide X0).at hb8) 0 _ rfl; have k66 := ((dUnhide X0).at hb8) 1 _ rfl; have Q8 := dHide q8; obtain ⟨o8a, o8c, rfl, o8l⟩ := formConfig q8.now.rd; clear q8)
        | (go_at_call 11; refine (eqConfig_ _ _ _ _ ((dUnhide T25).at hb8).rd (dUnhide Q8).now.rd).mono ?_; rintro e w9 ⟨rfl, b9⟩; have hb9 := belowThen hb8 b9; have k67 := ((dUnhide X30).at hb9) 0 _ rfl; have k68 := ((dUnhide X30).at hb9) 1 _ rfl; have k69 := ((dUnhide X0).at hb9) 0 _ rfl; have k70 := ((dUnhide X0).at hb9) 1 _ rfl))
    all_goals
      go_wp2_with fail
      go_meet
      case rel => exact ⟨rfl, hb9⟩
  case rest =>
    obtain ⟨rfl, bc⟩ := hcut
    clear hbr
    clear k59 k60 k61 k62
    have sz71 := dHide bc.size
    replace X0 := dHide ((dUnhide X0).below bc)
    replace OW := dHide ((dUnhide OW).below bc)
    replace X15 := dHide ((dUnhide X15).below bc)
    replace T25 := dHide ((dUnhide T25).below bc)
    replace X30 := dHide ((dUnhide X30).below bc)
    replace T36 := dHide ((dUnhide T36).below bc)
    replace OG := dHide ((dUnhide OG).below bc)
    replace X46 := dHide ((dUnhide X46).below bc)
    replace B := belowThen B bc
    generalize wc = w72 at *
    clear bc
    go_wp2_with fail
    refine (toByteS_ _ m1 _ hs1 (dUnhide A1 _ B)).mono ?_
    rintro e w75 ⟨u74, rfl, T73, b76⟩
    have sz77 := dHide b76.size
    replace X0 := dHide ((dUnhide X0).below b76)
    replace OW := dHide ((dUnhide OW).below b76)
    replace X15 := dHide ((dUnhide X15).below b76)
    replace T25 := dHide ((dUnhide T25).below b76)
    replace X30 := dHide ((dUnhide X30).below b76)
    replace T36 := dHide ((dUnhide T36).below b76)
    replace OG := dHide ((dUnhide OG).below b76)
    replace X46 := dHide ((dUnhide X46).below b76)
    replace B := belowThen B b76
    replace T73 := dHide T73
    clear b76
    obtain ⟨u74a, u74c, rfl, u74l⟩ := formByteS (dUnhide T73).now.rd
    go_wp2_with fail
    refine (eqByteS_ _ _ _ _ (dUnhide T36).now.rd (dUnhide T73).now.rd).mono ?_
    rintro e w78 ⟨rfl, b79⟩
    clear T73
    have sz80 := dHide b79.size
    replace X0 := dHide ((dUnhide X0).below b79)
    replace OW := dHide ((dUnhide OW).below b79)
    replace X15 := dHide ((dUnhide X15).below b79)
    replace T25 := dHide ((dUnhide T25).below b79)
    replace X30 := dHide ((dUnhide X30).below b79)
    replace T36 := dHide ((dUnhide T36).below b79)
    replace OG := dHide ((dUnhide OG).below b79)
    replace X46 := dHide ((dUnhide X46).below b79)
    replace B := belowThen B b79
    clear b79
    have k81 := (dUnhide X30).now 0 _ rfl
    have k82 := (dUnhide X30).now 1 _ rfl
    go_wp2_with fail
    refine (markConfig_ _ _ _ _ 1 _ (by omega) (by omega) (dUnhide T25)).mono ?_
    rintro e w83 ⟨rfl, M85, b84⟩
    clear k81 k82
    replace X0 := dHide ((dUnhide X0).wr b84 (by have := dUnhide sz0; have := dUnhide sz1; have := dUnhide sz8; have := dUnhide sz13; have := dUnhide sz14; have := dUnhide sz17; have := dUnhide sz18; have := dUnhide sz22; have := dUnhide sz29; have := dUnhide sz32; have := dUnhide sz33; have := dUnhide sz35; have := dUnhide sz40; have := dUnhide sz45; have := dUnhide sz48; have := dUnhide sz49; have := dUnhide sz55; have := dUnhide sz58; have := dUnhide sz71; have := dUnhide sz77; have := dUnhide sz80; omega))
    replace OW := dHide ((dUnhide OW).wr b84 (by have := dUnhide sz0; have := dUnhide sz1; have := dUnhide sz8; have := dUnhide sz13; have := dUnhide sz14; have := dUnhide sz17; have := dUnhide sz18; have := dUnhide sz22; have := dUnhide sz29; have := dUnhide sz32; have := dUnhide sz33; have := dUnhide sz35; have := dUnhide sz40; have := dUnhide sz45; have := dUnhide sz48; have := dUnhide sz49; have := dUnhide sz55; have := dUnhide sz58; have := dUnhide sz71; have := dUnhide sz77; have := dUnhide sz80; omega))
    replace X15 := dHide ((dUnhide X15).wr b84 (by have := dUnhide sz0; have := dUnhide sz1; have := dUnhide sz8; have := dUnhide sz13; have := dUnhide sz14; have := dUnhide sz17; have := dUnhide sz18; have := dUnhide sz22; have := dUnhide sz29; have := dUnhide sz32; have := dUnhide sz33; have := dUnhide sz35; have := dUnhide sz40; have := dUnhide sz45; have := dUnhide sz48; have := dUnhide sz49; have := dUnhide sz55; have := dUnhide sz58; have := dUnhide sz71; have := dUnhide sz77; have := dUnhide sz80; omega))
    replace X30 := dHide ((dUnhide X30).wr b84 (by have := dUnhide sz0; have := dUnhide sz1; have := dUnhide sz8; have := dUnhide sz13; have := dUnhide sz14; have := dUnhide sz17; have := dUnhide sz18; have := dUnhide sz22; have := dUnhide sz29; have := dUnhide sz32; have := dUnhide sz33; have := dUnhide sz35; have := dUnhide sz40; have := dUnhide sz45; have := dUnhide sz48; have := dUnhide sz49; have := dUnhide sz55; have := dUnhide sz58; have := dUnhide sz71; have := dUnhide sz77; have := dUnhide sz80; omega))
    replace T36 := dHide ((dUnhide T36).wr b84 (by have := dUnhide sz0; have := dUnhide sz1; have := dUnhide sz8; have := dUnhide sz13; have := dUnhide sz14; have := dUnhide sz17; have := dUnhide sz18; have := dUnhide sz22; have := dUnhide sz29; have := dUnhide sz32; have := dUnhide sz33; have := dUnhide sz35; have := dUnhide sz40; have := dUnhide sz45; have := dUnhide sz48; have := dUnhide sz49; have := dUnhide sz55; have := dUnhide sz58; have := dUnhide sz71; have := dUnhide sz77; have := dUnhide sz80; omega))
    replace OG := dHide ((dUnhide OG).wr b84 (by have := dUnhide sz0; have := dUnhide sz1; have := dUnhide sz8; have := dUnhide sz13; have := dUnhide sz14; have := dUnhide sz17; have := dUnhide sz18; have := dUnhide sz22; have := dUnhide sz29; have := dUnhide sz32; have := dUnhide sz33; have := dUnhide sz35; have := dUnhide sz40; have := dUnhide sz45; have := dUnhide sz48; have := dUnhide sz49; have := dUnhide sz55; have := dUnhide sz58; have := dUnhide sz71; have := dUnhide sz77; have := dUnhide sz80; omega))
    replace X46 := dHide ((dUnhide X46).wr b84 (by have := dUnhide sz0; have := dUnhide sz1; have := dUnhide sz8; have := dUnhide sz13; have := dUnhide sz14; have := dUnhide sz17; have := dUnhide sz18; have := dUnhide sz22; have := dUnhide sz29; have := dUnhide sz32; have := dUnhide sz33; have := dUnhide sz35; have := dUnhide sz40; have := dUnhide sz45; have := dUnhide sz48; have := dUnhide sz49; have := dUnhide sz55; have := dUnhide sz58; have := dUnhide sz71; have := dUnhide sz77; have := dUnhide sz80; omega))
    replace B := b84.below B B.size (by have := dUnhide sz0; have := dUnhide sz1; have := dUnhide sz8; have := dUnhide sz13; have := dUnhide sz14; have := dUnhide sz17; have := dUnhide sz18; have := dUnhide sz22; have := dUnhide sz29; have := dUnhide sz32; have := dUnhide sz33; have := dUnhide sz35; have := dUnhide sz40; have := dUnhide sz45; have := dUnhide sz48; have := dUnhide sz49; have := dUnhide sz55; have := dUnhide sz58; have := dUnhide sz71; have := dUnhide sz77; have := dUnhide sz80; omega)
    have sz86 := dHide b84.size
    replace M85 := dHide M85
    clear b84 T25
    go_wp2_with fail
    refine (markByteS_ _ _ _ _ (1 + cntConfig m0) _ (by omega) (by omega) (dUnhide T36)).mono ?_
    rintro e w87 ⟨rfl, M89, b88⟩
    replace X0 := dHide ((dUnhide X0).wr b88 (by have := dUnhide sz0; have := dUnhide sz1; have := dUnhide sz8; have := dUnhide sz13; have := dUnhide sz14; have := dUnhide sz17; have := dUnhide sz18; have := dUnhide sz22; have := dUnhide sz29; have := dUnhide sz32; have := dUnhide sz33; have := dUnhide sz35; have := dUnhide sz40; have := dUnhide sz45; have := dUnhide sz48; have := dUnhide sz49; have := dUnhide sz55; have := dUnhide sz58; have := dUnhide sz71; have := dUnhide sz77; have := dUnhide sz80; have := dUnhide sz86; omega))
    replace OW := dHide ((dUnhide OW).wr b88 (by have := dUnhide sz0; have := dUnhide sz1; have := dUnhide sz8; have := dUnhide sz13; have := dUnhide sz14; have := dUnhide sz17; have := dUnhide sz18; have := dUnhide sz22; have := dUnhide sz29; have := dUnhide sz32; have := dUnhide sz33; have := dUnhide sz35; have := dUnhide sz40; have := dUnhide sz45; have := dUnhide sz48; have := dUnhide sz49; have := dUnhide sz55; have := dUnhide sz58; have := dUnhide sz71; have := dUnhide sz77; have := dUnhide sz80; have := dUnhide sz86; omega))
    replace X15 := dHide ((dUnhide X15).wr b88 (by have := dUnhide sz0; have := dUnhide sz1; have := dUnhide sz8; have := dUnhide sz13; have := dUnhide sz14; have := dUnhide sz17; have := dUnhide sz18; have := dUnhide sz22; have := dUnhide sz29; have := dUnhide sz32; have := dUnhide sz33; have := dUnhide sz35; have := dUnhide sz40; have := dUnhide sz45; have := dUnhide sz48; have := dUnhide sz49; have := dUnhide sz55; have := dUnhide sz58; have := dUnhide sz71; have := dUnhide sz77; have := dUnhide sz80; have := dUnhide sz86; omega))
    replace X30 := dHide ((dUnhide X30).wr b88 (by have := dUnhide sz0; have := dUnhide sz1; have := dUnhide sz8; have := dUnhide sz13; have := dUnhide sz14; have := dUnhide sz17; have := dUnhide sz18; have := dUnhide sz22; have := dUnhide sz29; have := dUnhide sz32; have := dUnhide sz33; have := dUnhide sz35; have := dUnhide sz40; have := dUnhide sz45; have := dUnhide sz48; have := dUnhide sz49; have := dUnhide sz55; have := dUnhide sz58; have := dUnhide sz71; have := dUnhide sz77; have := dUnhide sz80; have := dUnhide sz86; omega))
    replace OG := dHide ((dUnhide OG).wr b88 (by have := dUnhide sz0; have := dUnhide sz1; have := dUnhide sz8; have := dUnhide sz13; have := dUnhide sz14; have := dUnhide sz17; have := dUnhide sz18; have := dUnhide sz22; have := dUnhide sz29; have := dUnhide sz32; have := dUnhide sz33; have := dUnhide sz35; have := dUnhide sz40; have := dUnhide sz45; have := dUnhide sz48; have := dUnhide sz49; have := dUnhide sz55; have := dUnhide sz58; have := dUnhide sz71; have := dUnhide sz77; have := dUnhide sz80; have := dUnhide sz86; omega))
    replace X46 := dHide ((dUnhide X46).wr b88 (by have := dUnhide sz0; have := dUnhide sz1; have := dUnhide sz8; have := dUnhide sz13; have := dUnhide sz14; have := dUnhide sz17; have := dUnhide sz18; have := dUnhide sz22; have := dUnhide sz29; have := dUnhide sz32; have := dUnhide sz33; have := dUnhide sz35; have := dUnhide sz40; have := dUnhide sz45; have := dUnhide sz48; have := dUnhide sz49; have := dUnhide sz55; have := dUnhide sz58; have := dUnhide sz71; have := dUnhide sz77; have := dUnhide sz80; have := dUnhide sz86; omega))
    replace M85 := dHide ((dUnhide M85).wr b88 (by have := dUnhide sz0; have := dUnhide sz1; have := dUnhide sz8; have := dUnhide sz13; have := dUnhide sz14; have := dUnhide sz17; have := dUnhide sz18; have := dUnhide sz22; have := dUnhide sz29; have := dUnhide sz32; have := dUnhide sz33; have := dUnhide sz35; have := dUnhide sz40; have := dUnhide sz45; have := dUnhide sz48; have := dUnhide sz49; have := dUnhide sz55; have := dUnhide sz58; have := dUnhide sz71; have := dUnhide sz77; have := dUnhide sz80; have := dUnhide sz86; omega))
    replace B := b88.below B B.size (by have := dUnhide sz0; have := dUnhide sz1; have := dUnhide sz8; have := dUnhide sz13; have := dUnhide sz14; have := dUnhide sz17; have := dUnhide sz18; have := dUnhide sz22; have := dUnhide sz29; have := dUnhide sz32; have := dUnhide sz33; have := dUnhide sz35; have := dUnhide sz40; have := dUnhide sz45; have := dUnhide sz48; have := dUnhide sz49; have := dUnhide sz55; have := dUnhide sz58; have := dUnhide sz71; have := dUnhide sz77; have := dUnhide sz80; have := dUnhide sz86; omega)
    have sz90 := dHide b88.size
    replace M89 := dHide M89
    clear b88 T36
    clear M85 M89 X30
    have hk : ¬ (((1 + cntConfig m0 + cntByteS m1 : Nat) : Int) < 0) := by omega
    have k91 := (dUnhide X46).now 0 _ rfl
    have k92 := (dUnhide X46).now 1 _ rfl
    have k93 := (dUnhide X15).now 0 _ rfl
    have k94 := (dUnhide X15).now 1 _ rfl
    go_wp2_with fail
    refine (eqRegister_ _ _ _ _ (dUnhide OG).now.rd (dUnhide OW).now.rd).mono ?_
    rintro e w95 ⟨rfl, b96⟩
    clear k91 k92 k93 k94
    have sz97 := dHide b96.size
    replace X0 := dHide ((dUnhide X0).below b96)
    replace OW := dHide ((dUnhide OW).below b96)
    replace X15 := dHide ((dUnhide X15).below b96)
    replace OG := dHide ((dUnhide OG).below b96)
    replace X46 := dHide ((dUnhide X46).below b96)
    replace B := belowThen B b96
    clear b96
    have k98 := (dUnhide X46).now 0 _ rfl
    have k99 := (dUnhide X46).now 1 _ rfl
    go_wp2_with fail
    refine (markRegister_ _ _ _ _ 1 _ (by omega) (by omega) (dUnhide OG)).mono ?_
    rintro e w100 ⟨rfl, M102, b101⟩
    clear k98 k99
    replace X0 := dHide ((dUnhide X0).wr b101 (by have := dUnhide sz0; have := dUnhide sz1; have := dUnhide sz8; have := dUnhide sz13; have := dUnhide sz14; have := dUnhide sz17; have := dUnhide sz18; have := dUnhide sz22; have := dUnhide sz29; have := dUnhide sz32; have := dUnhide sz33; have := dUnhide sz35; have := dUnhide sz40; have := dUnhide sz45; have := dUnhide sz48; have := dUnhide sz49; have := dUnhide sz55; have := dUnhide sz58; have := dUnhide sz71; have := dUnhide sz77; have := dUnhide sz80; have := dUnhide sz86; have := dUnhide sz90; have := dUnhide sz97; omega))
    replace OW := dHide ((dUnhide OW).wr b101 (by have := dUnhide sz0; have := dUnhide sz1; have := dUnhide sz8; have := dUnhide sz13; have := dUnhide sz14; have := dUnhide sz17; have := dUnhide sz18; have := dUnhide sz22; have := dUnhide sz29; have := dUnhide sz32; have := dUnhide sz33; have := dUnhide sz35; have := dUnhide sz40; have := dUnhide sz45; have := dUnhide sz48; have := dUnhide sz49; have := dUnhide sz55; have := dUnhide sz58; have := dUnhide sz71; have := dUnhide sz77; have := dUnhide sz80; have := dUnhide sz86; have := dUnhide sz90; have := dUnhide sz97; omega))
    replace X15 := dHide ((dUnhide X15).wr b101 (by have := dUnhide sz0; have := dUnhide sz1; have := dUnhide sz8; have := dUnhide sz13; have := dUnhide sz14; have := dUnhide sz17; have := dUnhide sz18; have := dUnhide sz22; have := dUnhide sz29; have := dUnhide sz32; have := dUnhide sz33; have := dUnhide sz35; have := dUnhide sz40; have := dUnhide sz45; have := dUnhide sz48; have := dUnhide sz49; have := dUnhide sz55; have := dUnhide sz58; have := dUnhide sz71; have := dUnhide sz77; have := dUnhide sz80; have := dUnhide sz86; have := dUnhide sz90; have := dUnhide sz97; omega))
    replace X46 := dHide ((dUnhide X46).wr b101 (by have := dUnhide sz0; have := dUnhide sz1; have := dUnhide sz8; have := dUnhide sz13; have := dUnhide sz14; have := dUnhide sz17; have := dUnhide sz18; have := dUnhide sz22; have := dUnhide sz29; have := dUnhide sz32; have := dUnhide sz33; have := dUnhide sz35; have := dUnhide sz40; have := dUnhide sz45; have := dUnhide sz48; have := dUnhide sz49; have := dUnhide sz55; have := dUnhide sz58; have := dUnhide sz71; have := dUnhide sz77; have := dUnhide sz80; have := dUnhide sz86; have := dUnhide sz90; have := dUnhide sz97; omega))
    replace B := b101.below B B.size (by have := dUnhide sz0; have := dUnhide sz1; have := dUnhide sz8; have := dUnhide sz13; have := dUnhide sz14; have := dUnhide sz17; have := dUnhide sz18; have := dUnhide sz22; have := dUnhide sz29; have := dUnhide sz32; have := dUnhide sz33; have := dUnhide sz35; have := dUnhide sz40; have := dUnhide sz45; have := dUnhide sz48; have := dUnhide sz49; have := dUnhide sz55; have := dUnhide sz58; have := dUnhide sz71; have := dUnhide sz77; have := dUnhide sz80; have := dUnhide sz86; have := dUnhide sz90; have := dUnhide sz97; omega)
    have sz103 := dHide b101.size
    replace M102 := dHide M102
    clear b101 OG
    have k104 := (dUnhide X46).now 0 _ rfl
    have k105 := (dUnhide X46).now 1 _ rfl
    go_wp2_with fail
    refine (heldRegister_ _ R 1 _ (by omega) (by omega) (dUnhide M102).now.rd).mono ?_
    rintro e w106 ⟨rfl, b107⟩
    clear k104 k105
    have sz108 := dHide b107.size
    replace X0 := dHide ((dUnhide X0).below b107)
    replace OW := dHide ((dUnhide OW).below b107)
    replace X15 := dHide ((dUnhide X15).below b107)
    replace X46 := dHide ((dUnhide X46).below b107)
    replace M102 := dHide ((dUnhide M102).below b107)
    replace B := belowThen B b107
    clear b107
    have hq : ¬ (((1 + cntRegister R : Nat) : Int) < 0) := by omega
    have k109 := (dUnhide X0).now 0 _ rfl
    have k110 := (dUnhide X0).now 1 _ rfl
    go_wp2_with fail
    refine (toConfig_ _ m0 _ hs0 (dUnhide A0 _ B)).mono ?_
    rintro e w113 ⟨u112, rfl, T111, b114⟩
    clear k109 k110
    have sz115 := dHide b114.size
    replace X0 := dHide ((dUnhide X0).below b114)
    replace OW := dHide ((dUnhide OW).below b114)
    replace X15 := dHide ((dUnhide X15).below b114)
    replace X46 := dHide ((dUnhide X46).below b114)
    replace M102 := dHide ((dUnhide M102).below b114)
    replace B := belowThen B b114
    replace T111 := dHide T111
    clear b114
    obtain ⟨u112a, u112c, rfl, u112l⟩ := formConfig (dUnhide T111).now.rd
    go_wp2_with fail
    refine (toByteS_ _ m1 _ hs1 (dUnhide A1 _ B)).mono ?_
    rintro e w118 ⟨u117, rfl, T116, b119⟩
    have sz120 := dHide b119.size
    replace X0 := dHide ((dUnhide X0).below b119)
    replace OW := dHide ((dUnhide OW).below b119)
    replace X15 := dHide ((dUnhide X15).below b119)
    replace X46 := dHide ((dUnhide X46).below b119)
    replace M102 := dHide ((dUnhide M102).below b119)
    replace T111 := dHide ((dUnhide T111).below b119)
    replace B := belowThen B b119
    replace T116 := dHide T116
    clear b119
    obtain ⟨u117a, u117c, rfl, u117l⟩ := formByteS (dUnhide T116).now.rd
    go_wp2_with fail
    refine (dUnhide CI _ B _ _ (dUnhide T111).now.rd (dUnhide T116).now.rd).mono ?_
    rintro e w121 ⟨uh, rfl, OH, b122⟩
    clear T111 T116
    have sz123 := dHide b122.size
    replace X0 := dHide ((dUnhide X0).below b122)
    replace OW := dHide ((dUnhide OW).below b122)
    replace X15 := dHide ((dUnhide X15).below b122)
    replace X46 := dHide ((dUnhide X46).below b122)
    replace M102 := dHide ((dUnhide M102).below b122)
    replace B := belowThen B b122
    replace OH := dHide OH
    clear b122
    obtain ⟨uha, uhc, rfl, uhl⟩ := formRegister (dUnhide OH).now.rd
    have X124 := Sits.box w121 #[.slice uha R.eras.length uhc, .int .i64 R.trim] 29
    have ba := ha w121 (.cells #[.slice uha R.eras.length uhc, .int .i64 R.trim] 29)
    have sz126 := dHide ba.size
    replace X0 := dHide ((dUnhide X0).below ba)
    replace OW := dHide ((dUnhide OW).below ba)
    replace X15 := dHide ((dUnhide X15).below ba)
    replace X46 := dHide ((dUnhide X46).below ba)
    replace M102 := dHide ((dUnhide M102).below ba)
    replace OH := dHide ((dUnhide OH).below ba)
    replace B := belowThen B ba
    have sz127 : Hid (w121.heap.size + 1 = (w121.alloc (.cells #[.slice uha R.eras.length uhc, .int .i64 R.trim] 29)).heap.size) := by simp [Hid]
    replace X124 := dHide X124
    clear ba
    have k128 := (dUnhide X124).now 0 _ rfl
    have k129 := (dUnhide X124).now 1 _ rfl
    have k130 := (dUnhide X15).now 0 _ rfl
    have k131 := (dUnhide X15).now 1 _ rfl
    go_wp2_with fail
    generalize hbx125 : w121.heap.size = bx125 at *
    generalize w121.alloc (.cells #[.slice uha R.eras.length uhc, .int .i64 R.trim] 29) = w132 at *
    have sz133 := dHide hbx125
    clear hbx125
    refine (eqRegister_ _ _ _ _ (dUnhide OH).now.rd (dUnhide OW).now.rd).mono ?_
    rintro e w134 ⟨rfl, b135⟩
    clear k128 k129 k130 k131
    have sz136 := dHide b135.size
    replace X0 := dHide ((dUnhide X0).below b135)
    replace OW := dHide ((dUnhide OW).below b135)
    replace X15 := dHide ((dUnhide X15).below b135)
    replace X46 := dHide ((dUnhide X46).below b135)
    replace M102 := dHide ((dUnhide M102).below b135)
    replace OH := dHide ((dUnhide OH).below b135)
    replace X124 := dHide ((dUnhide X124).below b135)
    replace B := belowThen B b135
    clear b135
    have k137 := (dUnhide X46).now 0 _ rfl
    have k138 := (dUnhide X46).now 1 _ rfl
    go_wp2_with fail
    refine (heldRegister_ _ R 1 _ (by omega) (by omega) (dUnhide M102).now.rd).mono ?_
    rintro e w139 ⟨rfl, b140⟩
    clear k137 k138
    have sz141 := dHide b140.size
    replace X0 := dHide ((dUnhide X0).below b140)
    replace OW := dHide ((dUnhide OW).below b140)
    replace X15 := dHide ((dUnhide X15).below b140)
    replace X46 := dHide ((dUnhide X46).below b140)
    replace M102 := dHide ((dUnhide M102).below b140)
    replace OH := dHide ((dUnhide OH).below b140)
    replace X124 := dHide ((dUnhide X124).below b140)
    replace B := belowThen B b140
    clear b140
    clear X0 OW X15 X46 M102 OH X124
    go_wp2
    go_ret
    exact ⟨rfl, B⟩
end Go.Proofs.YtioocibgfhgkhaaGreatDoor
