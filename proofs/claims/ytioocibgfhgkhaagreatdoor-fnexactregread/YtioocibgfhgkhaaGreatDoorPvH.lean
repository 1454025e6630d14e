/- Records as bytes: impl's RegRead. -/
import Derived.Test.YtioocibgfhgkhaaGreatDoorPuH
import Derived.Test.YtioocibgfhgkhaaGreatDoorPrI
import Derived.Test.YtioocibgfhgkhaaGreatDoorPiJ
namespace Go.Proofs.YtioocibgfhgkhaaGreatDoor
open Go.ChangeShapes Go.WideShapes Go.ChangeAt Go.RowKit
set_option linter.unusedVariables false
set_option linter.unusedSimpArgs false
set_option maxRecDepth 100000

/-- A register that is read, in new memory. -/
def OReg (b : Nat) (m : Rg) (u : Value) (W : World) : Prop := ∃ (ua : Option Addr) (c : Nat), u = .agg #[.slice ua m.eras.length c, .int .i64 m.trim] ∧ NAp W b (.slice ua m.eras.length c) m.eras
theorem OReg.far (b : Nat) (m : Rg) (u : Value) : FarO b (OReg b m u) := fun W W' ⟨ua, c, h1, h2⟩ hs hk => ⟨ua, c, h1, NAp.farO _ _ _ W W' h2 hs hk⟩
theorem OReg.mono (b b' : Nat) (m : Rg) (u : Value) (W : World) (h : b ≤ b') : OReg b' m u W → OReg b m u W := fun ⟨ua, c, h1, h2⟩ => ⟨ua, c, h1, NAp.mono h2 h⟩
theorem rdG_reg (ds : List Int) (cop : Int) (bs : List UInt8) : RdG (rgRd bs).2.2 (rgRd bs).2.1 bs.length (regP ds cop (rgRm bs)) ↔ (endB bs (rgRd bs).2.1 (rgRd bs).2.2 = true ∧ regP ds cop (rgRm bs)) := by
  unfold RdG endB
  generalize (rgRd bs).2.2 = ok
  generalize (rgRd bs).2.1 = q
  cases ok <;> simp <;> omega
set_option maxHeartbeats 4000000 in
theorem implRegRead_any (cv v : Value) (c : List Int × Int) (bs : List UInt8) (w : World) (hH : Hnd w) (hcv : RdConfig cv c w) (okc : okConfig c) (hsc : sizConfig c ≤ 1048576) (hv : Bs w v bs) (hl : bs.length ≤ 1048576) :
    Calls Tryz.prog 9 #[cv, v] w fun e w' => (∃ (a : Option Addr) (cc : Nat), e = .returned (.tuple #[.agg #[.slice a (rgR c.1 c.2 bs).1.eras.length cc, .int .i64 (rgR c.1 c.2 bs).1.trim], .bool (rgR c.1 c.2 bs).2]) ∧ NAp w' w.heap.size (.slice a (rgR c.1 c.2 bs).1.eras.length cc) (rgR c.1 c.2 bs).1.eras) ∧ Below w.heap.size w w' := by
  have ba : ∀ (w : World) o, Below w.heap.size w (w.alloc o) := fun w o => (Below.refl _ _).alloc (Nat.le_refl _) o
  have HV := dHide fun W (hb : Below w.heap.size w W) => hv.below hb
  have HCV := dHide fun W (hb : Below w.heap.size w W) => hcv.below hb
  have HH := dHide fun W (hb : Below w.heap.size w W) => hH.below hb (Nat.le_refl _)
  have hlt : ∀ W, Below w.heap.size w W → ∀ ab, w.heap.size ≤ ab → bs = [] ∨ blockOf v ≠ ab := fun W hb ab hab => by
    by_cases h : bs = []
    · exact .inl h
    · exact .inr (by have := hv.lt h; omega)
  obtain ⟨ca, cc, rfl, -⟩ := formConfig hcv
  have CF := dHide fun W => registerForm_any ca c.1.length cc c.2 W
  have hq4 := rgRd_le bs
  have CU : Hid (∀ W cb, Below w.heap.size w W → Bx W cb [.slice ca c.1.length cc, .int .i64 c.2] → Calls Tryz.prog 29 #[.agg (registerFormL cb).toArray, v] W fun e w' => ∃ (ua : Option Addr) (n c' : Nat) (x : Int) (b : Bool), e = .returned (.tuple #[.agg #[.slice ua n c', .int .i64 x], .bool b]) ∧ UnPost (OReg W.heap.size) (RdG (rgRd bs).2.2 (rgRd bs).2.1 bs.length (regP c.1 c.2 (rgRm bs))) (rgRm bs) (.agg #[.slice none 0 0, .int .i64 0]) W (.agg #[.slice ua n c', .int .i64 x]) b w') := fun W cb hb hX => by
    have hvv : ∃ (va : Option Addr) (vn vcp : Nat), v = .slice va vn vcp := by
      obtain ⟨-, va, vcp, e, -⟩ := hv
      exact ⟨va, _, vcp, e⟩
    obtain ⟨va, vn, vcp, hvv⟩ := hvv
    refine unpackRegister cb v OReg OReg.far OReg.mono _ _ W (dUnhide HH W hb) (fun W1 hb1 => ?_) va vn vcp hvv
    refine recordInRegister cb v bs OReg OReg.far OReg.mono (rgRm bs) (regP c.1 c.2) (rgRd bs).2.1 (rgRd bs).2.2 W1 (dUnhide HV W1 (belowThen hb hb1)) hl (fun _ => hq4) (fun W2 ab hb2 hab hc => ?_) (fun W2 ua n c' x hb2 hok ho => ?_)
    · refine (register_any ab v bs W2 hc (fun W3 hw3 => dUnhide HV W3 (hw3.below (belowThen (belowThen hb hb1) hb2) (by have := (belowThen (belowThen hb hb1) hb2).size; omega) (by have := (belowThen hb hb1).size; omega))) hl (hlt W2 (belowThen (belowThen hb hb1) hb2) ab (by have := (belowThen hb hb1).size; omega))).mono ?_
      rintro e w' ⟨ua, n, c', x, m, rfl, ⟨rfl, rfl, h1⟩, h4, h5, h6⟩
      exact ⟨ua, _, c', _, m, rfl, ⟨ua, c', rfl, h1⟩, h4, h5, h6⟩
    · obtain ⟨ua', c'', e, h1⟩ := ho
      rw [e]
      exact registerForm1_any c ca cc _ ua' c'' cb W2 (dUnhide HCV W2 (belowThen (belowThen hb hb1) hb2)) ⟨_, rfl, (NAp.ow h1).rd⟩ okc (rgRm_ok bs) hsc (Nat.le_trans (rgRm_siz bs hok) hl) ((hX.below hb1).below hb2)
  have EY : Hid (_ → _) := rgR_yes c.1 c.2 bs
  have EN : Hid (_ → _) := rgR_no c.1 c.2 bs
  have EG := dHide (rdG_reg c.1 c.2 bs)
  rw [← dUnhide EG] at EY EN
  generalize RdG (rgRd bs).2.2 (rgRd bs).2.1 bs.length (regP c.1 c.2 (rgRm bs)) = G at *
  generalize rgR c.1 c.2 bs = CR at *
  generalize rgRm bs = MM at *
  have i1 : (w.alloc (.cells #[.slice ca c.1.length cc, .int .i64 c.2] 32)).heap.size = w.heap.size + 1 := by simp
  have G0 := (Bx.new w [.slice ca c.1.length cc, .int .i64 c.2] 32).below (ba _ (.cells #[.slice none 0 0, .int .i64 0] 29))
  have Z0 := BxZ.new (w.alloc (.cells #[.slice ca c.1.length cc, .int .i64 c.2] 32)) [.slice none 0 0, .int .i64 0] 29 (B := w.heap.size) (by omega)
  rw [i1] at Z0
  have B0 := belowThen (ba w (.cells #[.slice ca c.1.length cc, .int .i64 c.2] 32)) (ba _ (.cells #[.slice none 0 0, .int .i64 0] 29))
  have hs0 : ((w.alloc (.cells #[.slice ca c.1.length cc, .int .i64 c.2] 32)).alloc (.cells #[.slice none 0 0, .int .i64 0] 29)).heap.size = w.heap.size + 2 := by simp
  clear HV HCV HH hlt hq4 hv hH ba EG hcv okc hsc i1
  go_enter Tryz.func9, Tryz.ntmps9
  go_upto_region 1 with fail
  generalize (w.alloc (.cells #[.slice ca c.1.length cc, .int .i64 c.2] 32)).alloc (.cells #[.slice none 0 0, .int .i64 0] 29) = w0 at *
  have g0 := G0 0 _ rfl
  have g1 := G0 1 _ rfl
  go_wp2_with fail
  refine (dUnhide CF _).mono ?_
  rintro e w1 ⟨cb, rfl, hX1, b1⟩
  have B1 := belowThen B0 b1
  have Z1 := Z0.below b1
  have hs1 := b1.size
  have C1 := dHide (dUnhide CU w1 cb B1 hX1)
  clear CF CU Z0 B0 b1 g0 g1 G0 hX1
  unfold registerFormL at *
  go_wp2_with fail
  refine (dUnhide C1).mono ?_
  rintro e w2 ⟨ua, n, c', x, b, rfl, hy, hn, b2⟩
  have B2 := belowThen B1 b2
  have Z2 := Z1.below b2
  obtain ⟨z0, y0⟩ := Z2.2 0 _ rfl
  obtain ⟨z1, y1⟩ := Z2.2 1 _ rfl
  have FZ := dHide (And.intro ((Z2.put 0 (.slice ua n c')).put 1 (.int .i64 x)) (Below.setCell (p := ⟨w.heap.size + 1, 1, none⟩) (Below.setCell (p := ⟨w.heap.size + 1, 0, none⟩) B2 (by simp only; omega) (.slice ua n c')) (by simp only; omega) (.int .i64 x)))
  have HY := dHide hy
  have HN := dHide hn
  clear C1 Z1 Z2 B1 B2 b2 hy hn
  go_wp2
  have fin := dUnhide FZ
  have HO : ∀ xs, NAp w2 w1.heap.size (.slice ua n c') xs → NAp ((w2.setCell ⟨w.heap.size + 1, 0, none⟩ (.slice ua n c')).setCell ⟨w.heap.size + 1, 1, none⟩ (.int .i64 x)) w.heap.size (.slice ua n c') xs := fun xs h => NAp.mono (NAp.far (NAp.far h (b := w.heap.size + 1) (o := 0) (by omega) _) (b := w.heap.size + 1) (o := 1) (by omega) _) (by omega)
  generalize (w2.setCell ⟨w.heap.size + 1, 0, none⟩ (.slice ua n c')).setCell ⟨w.heap.size + 1, 1, none⟩ (.int .i64 x) = V at *
  obtain ⟨r, bb⟩ := fin
  have q0 := (r.2 0 _ rfl).1
  have q1 := (r.2 1 _ rfl).1
  refine bodyPost_ret (v := .tuple #[.agg #[.slice ua n c', .int .i64 x], .bool b]) (by simp [results, Tryz.results9, go_sem, q0, q1]) rfl ?_
  by_cases hG : G
  · obtain ⟨rfl, ua', c'', e, h1⟩ := dUnhide HY hG
    have eC := dUnhide EY hG
    subst eC
    simp only [Value.agg.injEq, Array.mk.injEq, List.cons.injEq, Value.slice.injEq, Value.int.injEq, true_and, and_true] at e
    obtain ⟨⟨rfl, rfl, rfl⟩, rfl⟩ := e
    exact ⟨⟨_, _, rfl, HO _ h1⟩, bb⟩
  · obtain ⟨rfl, e⟩ := dUnhide HN hG
    have eC := dUnhide EN hG
    subst eC
    simp only [Value.agg.injEq, Array.mk.injEq, List.cons.injEq, Value.slice.injEq, Value.int.injEq, true_and, and_true] at e
    obtain ⟨⟨rfl, rfl, rfl⟩, rfl⟩ := e
    exact ⟨⟨_, _, rfl, NAp.nil _ _ _⟩, bb⟩
end Go.Proofs.YtioocibgfhgkhaaGreatDoor
