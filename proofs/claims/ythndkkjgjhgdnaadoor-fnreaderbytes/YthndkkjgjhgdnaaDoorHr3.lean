/- Several texts in one: PuF, PvF. -/
import Derived.Test.YthndkkjgjhgdnaaDoorHr2
import Derived.Test.YthndkkjgjhgdnaaDoorHas
import Derived.Deep.RegionHeld3
import Derived.Deep.DeepCutAuto
import Derived.Test.YthndkkjgjhgdnaaDoorHi1
namespace Go.Proofs.YthndkkjgjhgdnaaDoor
open Go.ChangeShapes Go.WideShapes Go.ChangeAt Go.RowKit
set_option linter.unusedVariables false
set_option linter.unusedSimpArgs false
set_option maxRecDepth 100000

set_option maxHeartbeats 8000000 in
theorem unpackReader (v : Value) (O : Nat → Rr → Value → World → Prop) (hO : ∀ b m u, FarO b (O b m u)) (hOm : ∀ b b' m u W, b ≤ b' → O b' m u W → O b m u W) (G : Prop) (M : Rr) (w : World) (hH : Hnd w)
    (CI : ∀ W, Below w.heap.size w W → Calls Tryd.prog 61 #[.agg #[.func (.func 53) #[] #[], .func (.func 57) #[] #[], .func (.func 58) #[] #[]], v] W fun e w' => ∃ (xe xo : Int) (ua : Option Addr) (n c : Nat) (err : Value), e = .returned (.tuple #[.agg #[.int .i64 xe, .int .i64 xo, .slice ua n c], err]) ∧ RecPost (O W.heap.size) G M W (.agg #[.int .i64 xe, .int .i64 xo, .slice ua n c]) err w') (va : Option Addr) (vn vcp : Nat) (hvv : v = .slice va vn vcp) :
    Calls Tryd.prog 38 #[.agg #[.func (.func 53) #[] #[], .func (.func 57) #[] #[], .func (.func 58) #[] #[]], v] w fun e w' => ∃ (xe xo : Int) (ua : Option Addr) (n c : Nat) (b : Bool), e = .returned (.tuple #[.agg #[.int .i64 xe, .int .i64 xo, .slice ua n c], .bool b]) ∧ UnPost (O w.heap.size) G M (.agg #[.int .i64 0, .int .i64 0, .slice none 0 0]) w (.agg #[.int .i64 xe, .int .i64 xo, .slice ua n c]) b w' := by
  have ba : ∀ (w : World) o, Below w.heap.size w (w.alloc o) := fun w o => (Below.refl _ _).alloc (Nat.le_refl _) o
  subst hvv
  replace CI := dHide CI
  replace hO := dHide hO
  replace hOm := dHide hOm
  have e1 : (w.alloc (.cells #[.func (.func 53) #[] #[], .func (.func 57) #[] #[], .func (.func 58) #[] #[]] 65)).heap.size = w.heap.size + 1 := by simp
  have X0 := (Bx.new w [.func (.func 53) #[] #[], .func (.func 57) #[] #[], .func (.func 58) #[] #[]] 65).below (ba _ (.cells #[.int .i64 0, .int .i64 0, .slice none 0 0] 36))
  have Z0 := BxZ.new (B := w.heap.size) (w.alloc (.cells #[.func (.func 53) #[] #[], .func (.func 57) #[] #[], .func (.func 58) #[] #[]] 65)) [.int .i64 0, .int .i64 0, .slice none 0 0] 36 (by simp)
  rw [e1] at Z0
  have B0 := belowThen (ba w (.cells #[.func (.func 53) #[] #[], .func (.func 57) #[] #[], .func (.func 58) #[] #[]] 65)) (ba _ (.cells #[.int .i64 0, .int .i64 0, .slice none 0 0] 36))
  have e2 : ((w.alloc (.cells #[.func (.func 53) #[] #[], .func (.func 57) #[] #[], .func (.func 58) #[] #[]] 65)).alloc (.cells #[.int .i64 0, .int .i64 0, .slice none 0 0] 36)).heap.size = w.heap.size + 2 := by simp
  have hH := dHide fun (W : World) (hb : Below w.heap.size w W) => hH.below hb (Nat.le_refl _)
  clear e1
  go_enter Tryd.func38, Tryd.ntmps38
  go_upto_region 1 with fail
  generalize (w.alloc (.cells #[.func (.func 53) #[] #[], .func (.func 57) #[] #[], .func (.func 58) #[] #[]] 65)).alloc (.cells #[.int .i64 0, .int .i64 0, .slice none 0 0] 36) = w0 at *
  have f0 := X0 0 _ rfl
  have f1 := X0 1 _ rfl
  have f2 := X0 2 _ rfl
  have C1 := dHide (dUnhide CI w0 B0)
  clear CI X0
  go_wp2_with fail
  refine (dUnhide C1).mono ?_
  rintro e w1 ⟨xe, xo, ua, n, c, err, rfl, m, hm, hy, hn, b1⟩
  have B1 := belowThen B0 b1
  have Z1 := Z0.below b1
  have hs1 := b1.size
  have b2 := ba w1 (.cells #[.int .i64 xe, .int .i64 xo, .slice ua n c] 36)
  have b3 := ba (w1.alloc (.cells #[.int .i64 xe, .int .i64 xo, .slice ua n c] 36)) (.cells #[.int .i64 0] 86)
  have R2 := (Bx.new w1 [.int .i64 xe, .int .i64 xo, .slice ua n c] 36).below b3
  have T3 := BxZ.new (B := w.heap.size) (w1.alloc (.cells #[.int .i64 xe, .int .i64 xo, .slice ua n c] 36)) [.int .i64 0] 86 (by simp; omega)
  have hs2 : (w1.alloc (.cells #[.int .i64 xe, .int .i64 xo, .slice ua n c] 36)).heap.size = w1.heap.size + 1 := by simp
  have hs3 : ((w1.alloc (.cells #[.int .i64 xe, .int .i64 xo, .slice ua n c] 36)).alloc (.cells #[.int .i64 0] 86)).heap.size = w1.heap.size + 2 := by simp
  rw [hs2] at T3
  have B3 := belowThen (belowThen B1 b2) b3
  have Z3 := (Z1.below b2).below b3
  have O3 := dHide ((dUnhide hO) _ _ _ _ _ ((dUnhide hO) _ _ _ _ _ hm b2.size (fun k _ hk => b2.block k hk)) b3.size (fun k _ hk => b3.block k hk))
  have H3 := (dUnhide hH) _ B3
  by_cases hG : G
  · obtain ⟨rfl, rfl⟩ := hy hG
    have CA := dHide (as_nil (.iface 88 (.pointer (some ⟨w1.heap.size + 1, 0, none⟩))) ((w1.alloc (.cells #[.int .i64 xe, .int .i64 xo, .slice ua n c] 36)).alloc (.cells #[.int .i64 0] 86)))
    clear C1 f0 f1 f2 hy hn hm H3 T3 b2 b3 b1 Z0 B0 Z1 B1
    go_upto_region 3 with fail
    go_wp2_with fail
    generalize (w1.alloc (.cells #[.int .i64 xe, .int .i64 xo, .slice ua n c] 36)).alloc (.cells #[.int .i64 0] 86) = w3 at *
    refine (dUnhide CA).mono ?_
    rintro e w4 ⟨rfl, rfl⟩
    have FIN := dHide (⟨(dUnhide hOm) w.heap.size _ _ _ _ (by omega) ((dUnhide hO) _ _ _ _ (((w4.setCell ⟨w.heap.size + 1, 0, none⟩ (.int .i64 xe)).setCell ⟨w.heap.size + 1, 1, none⟩ (.int .i64 xo)).setCell ⟨w.heap.size + 1, 2, none⟩ (.slice ua n c)) (dUnhide O3) (by simp) (fun k h1 h2 => by
      show (((w4.setCell ⟨w.heap.size + 1, 0, none⟩ (.int .i64 xe)).setCell ⟨w.heap.size + 1, 1, none⟩ (.int .i64 xo)).setCell ⟨w.heap.size + 1, 2, none⟩ (.slice ua n c)).heap[k]? = _
      rw [Below.heap_setCell _ _ _ k (by simp only; omega), Below.heap_setCell _ _ _ k (by simp only; omega), Below.heap_setCell _ _ _ k (by simp only; omega)])), (show BxZ (((w4.setCell ⟨w.heap.size + 1, 0, none⟩ (.int .i64 xe)).setCell ⟨w.heap.size + 1, 1, none⟩ (.int .i64 xo)).setCell ⟨w.heap.size + 1, 2, none⟩ (.slice ua n c)) _ _ _ from (((Z3.put 0 (.int .i64 xe)).put 1 (.int .i64 xo)).put 2 (.slice ua n c))), (show Below _ _ (((w4.setCell ⟨w.heap.size + 1, 0, none⟩ (.int .i64 xe)).setCell ⟨w.heap.size + 1, 1, none⟩ (.int .i64 xo)).setCell ⟨w.heap.size + 1, 2, none⟩ (.slice ua n c)) from (Below.setCell (p := ⟨w.heap.size + 1, 2, none⟩) (Below.setCell (p := ⟨w.heap.size + 1, 1, none⟩) (Below.setCell (p := ⟨w.heap.size + 1, 0, none⟩) B3 (by simp only; omega) (.int .i64 xe)) (by simp only; omega) (.int .i64 xo)) (by simp only; omega) (.slice ua n c)))⟩ :
      O w.heap.size m (.agg #[.int .i64 xe, .int .i64 xo, .slice ua n c]) (((w4.setCell ⟨w.heap.size + 1, 0, none⟩ (.int .i64 xe)).setCell ⟨w.heap.size + 1, 1, none⟩ (.int .i64 xo)).setCell ⟨w.heap.size + 1, 2, none⟩ (.slice ua n c)) ∧ BxZ (((w4.setCell ⟨w.heap.size + 1, 0, none⟩ (.int .i64 xe)).setCell ⟨w.heap.size + 1, 1, none⟩ (.int .i64 xo)).setCell ⟨w.heap.size + 1, 2, none⟩ (.slice ua n c)) w.heap.size (w.heap.size + 1) [.int .i64 xe, .int .i64 xo, .slice ua n c] ∧ Below w.heap.size w (((w4.setCell ⟨w.heap.size + 1, 0, none⟩ (.int .i64 xe)).setCell ⟨w.heap.size + 1, 1, none⟩ (.int .i64 xo)).setCell ⟨w.heap.size + 1, 2, none⟩ (.slice ua n c)))
    clear CA
    have r0 := R2 0 _ rfl
    have r1 := R2 1 _ rfl
    have r2 := R2 2 _ rfl
    obtain ⟨z0, y0⟩ := Z3.2 0 _ rfl
    obtain ⟨z1, y1⟩ := Z3.2 1 _ rfl
    obtain ⟨z2, y2⟩ := Z3.2 2 _ rfl
    go_wp2
    have fin := dUnhide FIN
    generalize (((w4.setCell ⟨w.heap.size + 1, 0, none⟩ (.int .i64 xe)).setCell ⟨w.heap.size + 1, 1, none⟩ (.int .i64 xo)).setCell ⟨w.heap.size + 1, 2, none⟩ (.slice ua n c)) = V at *
    obtain ⟨o, r, b⟩ := fin
    have qq0 := (r.2 0 _ rfl).1
    have qq1 := (r.2 1 _ rfl).1
    have qq2 := (r.2 2 _ rfl).1
    exact bodyPost_ret (v := .tuple #[.agg #[.int .i64 xe, .int .i64 xo, .slice ua n c], .bool true]) (by simp [results, Tryd.results38, go_sem, qq0, qq1, qq2]) rfl ⟨_, _, _, _, _, _, rfl, fun _ => ⟨rfl, o⟩, fun h => absurd hG h, b⟩
  · obtain ⟨p, rfl⟩ := hn hG
    have CA := dHide (as_bad (w1.heap.size + 1) p 0 ((w1.alloc (.cells #[.int .i64 xe, .int .i64 xo, .slice ua n c] 36)).alloc (.cells #[.int .i64 0] 86)) H3 (T3.2 0 _ rfl).1 (T3.2 0 _ rfl).2)
    unfold wrg
    clear C1 f0 f1 f2 hy hn hm H3 b2 b3 b1 Z0 B0 Z1 B1 O3 R2
    go_upto_region 3 with fail
    go_wp2_with fail
    generalize (w1.alloc (.cells #[.int .i64 xe, .int .i64 xo, .slice ua n c] 36)).alloc (.cells #[.int .i64 0] 86) = w3 at *
    refine (dUnhide CA).mono ?_
    rintro e w4 ⟨rfl, d4⟩
    have B4 : Below w.heap.size w w4 := d4.below B3 (by omega) (by omega)
    have Z4 := Z3.drawn d4 (by omega)
    have b5 := ba w4 (.cells #[.int .i64 0, .int .i64 0, .slice none 0 0] 36)
    have B5 := belowThen B4 b5
    have Z5 := Z4.below b5
    have R5 := Bx.new w4 [.int .i64 0, .int .i64 0, .slice none 0 0] 36
    have FIN := dHide (⟨trivial, (show BxZ ((((w4.alloc (.cells #[.int .i64 0, .int .i64 0, .slice none 0 0] 36)).setCell ⟨w.heap.size + 1, 0, none⟩ (.int .i64 0)).setCell ⟨w.heap.size + 1, 1, none⟩ (.int .i64 0)).setCell ⟨w.heap.size + 1, 2, none⟩ (.slice none 0 0)) _ _ _ from (((Z5.put 0 (.int .i64 0)).put 1 (.int .i64 0)).put 2 (.slice none 0 0))), (show Below _ _ ((((w4.alloc (.cells #[.int .i64 0, .int .i64 0, .slice none 0 0] 36)).setCell ⟨w.heap.size + 1, 0, none⟩ (.int .i64 0)).setCell ⟨w.heap.size + 1, 1, none⟩ (.int .i64 0)).setCell ⟨w.heap.size + 1, 2, none⟩ (.slice none 0 0)) from (Below.setCell (p := ⟨w.heap.size + 1, 2, none⟩) (Below.setCell (p := ⟨w.heap.size + 1, 1, none⟩) (Below.setCell (p := ⟨w.heap.size + 1, 0, none⟩) B5 (by simp only; omega) (.int .i64 0)) (by simp only; omega) (.int .i64 0)) (by simp only; omega) (.slice none 0 0)))⟩ :
      True ∧ BxZ ((((w4.alloc (.cells #[.int .i64 0, .int .i64 0, .slice none 0 0] 36)).setCell ⟨w.heap.size + 1, 0, none⟩ (.int .i64 0)).setCell ⟨w.heap.size + 1, 1, none⟩ (.int .i64 0)).setCell ⟨w.heap.size + 1, 2, none⟩ (.slice none 0 0)) w.heap.size (w.heap.size + 1) [.int .i64 0, .int .i64 0, .slice none 0 0] ∧ Below w.heap.size w ((((w4.alloc (.cells #[.int .i64 0, .int .i64 0, .slice none 0 0] 36)).setCell ⟨w.heap.size + 1, 0, none⟩ (.int .i64 0)).setCell ⟨w.heap.size + 1, 1, none⟩ (.int .i64 0)).setCell ⟨w.heap.size + 1, 2, none⟩ (.slice none 0 0)))
    clear CA d4 B4 Z4 Z3 B3 T3
    have r0 := R5 0 _ rfl
    have r1 := R5 1 _ rfl
    have r2 := R5 2 _ rfl
    obtain ⟨z0, y0⟩ := Z5.2 0 _ rfl
    obtain ⟨z1, y1⟩ := Z5.2 1 _ rfl
    obtain ⟨z2, y2⟩ := Z5.2 2 _ rfl
    go_wp2
    have fin := dUnhide FIN
    generalize ((((w4.alloc (.cells #[.int .i64 0, .int .i64 0, .slice none 0 0] 36)).setCell ⟨w.heap.size + 1, 0, none⟩ (.int .i64 0)).setCell ⟨w.heap.size + 1, 1, none⟩ (.int .i64 0)).setCell ⟨w.heap.size + 1, 2, none⟩ (.slice none 0 0)) = V at *
    obtain ⟨o, r, b⟩ := fin
    have qq0 := (r.2 0 _ rfl).1
    have qq1 := (r.2 1 _ rfl).1
    have qq2 := (r.2 2 _ rfl).1
    exact bodyPost_ret (v := .tuple #[.agg #[.int .i64 0, .int .i64 0, .slice none 0 0], .bool false]) (by simp [results, Tryd.results38, go_sem, qq0, qq1, qq2]) rfl ⟨_, _, _, _, _, _, rfl, fun h => absurd h hG, fun _ => ⟨rfl, rfl⟩, b⟩
end Go.Proofs.YthndkkjgjhgdnaaDoor
namespace Go.Proofs.YthndkkjgjhgdnaaDoor
open Go.ChangeShapes Go.WideShapes Go.ChangeAt Go.RowKit
set_option linter.unusedVariables false
set_option linter.unusedSimpArgs false
set_option maxRecDepth 100000

/-- A reader that is read, in new memory. -/
def ORdr (b : Nat) (m : Rr) (u : Value) (W : World) : Prop := ∃ (ua : Option Addr) (c : Nat), u = .agg #[.int .i64 m.epoch, .int .i64 m.off, .slice ua m.out.length c] ∧ ApV W b (.slice ua m.out.length c) m.out
theorem ORdr.far (b : Nat) (m : Rr) (u : Value) : FarO b (ORdr b m u) := fun W W' ⟨ua, c, h1, h2⟩ hs hk => ⟨ua, c, h1, ApV.farO _ _ _ W W' h2 hs hk⟩
theorem ORdr.mono (b b' : Nat) (m : Rr) (u : Value) (W : World) (h : b ≤ b') : ORdr b' m u W → ORdr b m u W := fun ⟨ua, c, h1, h2⟩ => ⟨ua, c, h1, ApR.mono h2 h⟩
theorem rdG_rdr (bs : List UInt8) : RdG (rdRd bs).2.2 (rdRd bs).2.1 bs.length (rdPk (rdRm bs)) ↔ (endB bs (rdRd bs).2.1 (rdRd bs).2.2 = true ∧ rdPk (rdRm bs)) := by
  unfold RdG endB
  generalize (rdRd bs).2.2 = ok
  generalize (rdRd bs).2.1 = q
  cases ok <;> simp <;> omega
set_option maxHeartbeats 4000000 in
theorem implReaderRead_any (v : Value) (bs : List UInt8) (w : World) (hH : Hnd w) (hv : Bs w v bs) (hl : bs.length ≤ 1048576) :
    Calls Tryd.prog 16 #[v] w fun e w' => (∃ (a : Option Addr) (c : Nat), e = .returned (.tuple #[.agg #[.int .i64 (rdR bs).1.epoch, .int .i64 (rdR bs).1.off, .slice a (rdR bs).1.out.length c], .bool (rdR bs).2]) ∧ ApV w' w.heap.size (.slice a (rdR bs).1.out.length c) (rdR bs).1.out) ∧ Below w.heap.size w w' := by
  have ba : ∀ (w : World) o, Below w.heap.size w (w.alloc o) := fun w o => (Below.refl _ _).alloc (Nat.le_refl _) o
  have HV := dHide fun W (hb : Below w.heap.size w W) => hv.below hb
  have HH := dHide fun W (hb : Below w.heap.size w W) => hH.below hb (Nat.le_refl _)
  have hlt : ∀ W, Below w.heap.size w W → ∀ ab, w.heap.size ≤ ab → bs = [] ∨ blockOf v ≠ ab := fun W hb ab hab => by
    by_cases h : bs = []
    · exact .inl h
    · exact .inr (by have := hv.lt h; omega)
  have CF := dHide fun W => readerForm_any W
  have hq1 : (rdRa bs).2.1 ≤ bs.length := rdN_le bs 0 true (Nat.zero_le _)
  have hq2 : (rdRb bs).2.1 ≤ bs.length := rdN_le bs (rdRa bs).2.1 (rdRa bs).2.2 hq1
  have hq3 : (rdRc bs).2.1 ≤ bs.length := rdN_le bs (rdRb bs).2.1 (rdRb bs).2.2 hq2
  have hq4 : (rdRd bs).2.1 ≤ bs.length := rdEs_le bs _ _ _ hq3
  have CU : Hid (∀ W, Below w.heap.size w W → Calls Tryd.prog 38 #[.agg readerFormL.toArray, v] W fun e w' => ∃ (x y : Int) (ua : Option Addr) (n c : Nat) (b : Bool), e = .returned (.tuple #[.agg #[.int .i64 x, .int .i64 y, .slice ua n c], .bool b]) ∧ UnPost (ORdr W.heap.size) (RdG (rdRd bs).2.2 (rdRd bs).2.1 bs.length (rdPk (rdRm bs))) (rdRm bs) (.agg #[.int .i64 0, .int .i64 0, .slice none 0 0]) W (.agg #[.int .i64 x, .int .i64 y, .slice ua n c]) b w') := fun W hb => by
    have hvv : ∃ (va : Option Addr) (vn vcp : Nat), v = .slice va vn vcp := by
      obtain ⟨-, va, vcp, e, -⟩ := hv
      exact ⟨va, _, vcp, e⟩
    obtain ⟨va, vn, vcp, hvv⟩ := hvv
    refine unpackReader v ORdr ORdr.far ORdr.mono _ _ W (dUnhide HH W hb) (fun W1 hb1 => ?_) va vn vcp hvv
    refine recordInReader v bs ORdr ORdr.far ORdr.mono (rdRm bs) rdPk (rdRd bs).2.1 (rdRd bs).2.2 W1 (dUnhide HV W1 (belowThen hb hb1)) hl (fun _ => hq4) (fun W2 ab hb2 hab hc => ?_) (fun W2 x y ua n c hb2 hok ho => ?_)
    · refine (reader_any ab v bs W2 hc (fun W3 hw3 => dUnhide HV W3 (hw3.below (belowThen (belowThen hb hb1) hb2) (by have := (belowThen (belowThen hb hb1) hb2).size; omega) (by have := (belowThen hb hb1).size; omega))) hl (hlt W2 (belowThen (belowThen hb hb1) hb2) ab (by have := (belowThen hb hb1).size; omega))).mono ?_
      rintro e w' ⟨x, y, ua, n, c, m, rfl, ⟨rfl, rfl, rfl, h1⟩, h4, h5, h6⟩
      exact ⟨_, _, ua, _, c, m, rfl, ⟨ua, c, rfl, h1⟩, h4, h5, h6⟩
    · obtain ⟨ua', c', e, h1⟩ := ho
      rw [e]
      exact readerForm1_any _ ua' c' W2 (ApR.own elemEvent h1).rw
  have EY : Hid (_ → _) := rdR_yes bs
  have EN : Hid (_ → _) := rdR_no bs
  have EG := dHide (rdG_rdr bs)
  rw [← dUnhide EG] at EY EN
  generalize RdG (rdRd bs).2.2 (rdRd bs).2.1 bs.length (rdPk (rdRm bs)) = G at *
  generalize rdR bs = CR at *
  generalize rdRm bs = MM at *
  have Z0 := BxZ.new w [.int .i64 0, .int .i64 0, .slice none 0 0] 36 (B := w.heap.size) (Nat.le_refl _)
  have B0 := ba w (.cells #[.int .i64 0, .int .i64 0, .slice none 0 0] 36)
  have hs0 : (w.alloc (.cells #[.int .i64 0, .int .i64 0, .slice none 0 0] 36)).heap.size = w.heap.size + 1 := by simp
  clear HV HH hlt hq1 hq2 hq3 hq4 hv hH ba EG
  go_enter Tryd.func16, Tryd.ntmps16
  go_upto_region 1 with fail
  generalize w.alloc (.cells #[.int .i64 0, .int .i64 0, .slice none 0 0] 36) = w0 at *
  go_wp2_with fail
  refine (dUnhide CF _).mono ?_
  rintro e w1 ⟨rfl, b1⟩
  have B1 := belowThen B0 b1
  have Z1 := Z0.below b1
  have hs1 := b1.size
  have C1 := dHide (dUnhide CU w1 B1)
  clear CF CU Z0 B0 b1
  unfold readerFormL at *
  go_wp2_with fail
  refine (dUnhide C1).mono ?_
  rintro e w2 ⟨x, y, ua, n, c, b, rfl, hy, hn, b2⟩
  have B2 := belowThen B1 b2
  have Z2 := Z1.below b2
  obtain ⟨z0, y0⟩ := Z2.2 0 _ rfl
  obtain ⟨z1, y1⟩ := Z2.2 1 _ rfl
  obtain ⟨z2, y2⟩ := Z2.2 2 _ rfl
  have FZ := dHide (And.intro (((Z2.put 0 (.int .i64 x)).put 1 (.int .i64 y)).put 2 (.slice ua n c)) (Below.setCell (p := ⟨w.heap.size, 2, none⟩) (Below.setCell (p := ⟨w.heap.size, 1, none⟩) (Below.setCell (p := ⟨w.heap.size, 0, none⟩) B2 (by simp only; omega) (.int .i64 x)) (by simp only; omega) (.int .i64 y)) (by simp only; omega) (.slice ua n c)))
  have HY := dHide hy
  have HN := dHide hn
  clear C1 Z1 Z2 B1 B2 b2 hy hn
  go_wp2
  have fin := dUnhide FZ
  have HO : ∀ xs, ApV w2 w1.heap.size (.slice ua n c) xs → ApV (((w2.setCell ⟨w.heap.size, 0, none⟩ (.int .i64 x)).setCell ⟨w.heap.size, 1, none⟩ (.int .i64 y)).setCell ⟨w.heap.size, 2, none⟩ (.slice ua n c)) w.heap.size (.slice ua n c) xs := fun xs h => ApR.mono (ApR.far elemEvent (ApR.far elemEvent (ApR.far elemEvent h (b := w.heap.size) (o' := 0) (by omega) _) (b := w.heap.size) (o' := 1) (by omega) _) (b := w.heap.size) (o' := 2) (by omega) _) (by omega)
  generalize ((w2.setCell ⟨w.heap.size, 0, none⟩ (.int .i64 x)).setCell ⟨w.heap.size, 1, none⟩ (.int .i64 y)).setCell ⟨w.heap.size, 2, none⟩ (.slice ua n c) = V at *
  obtain ⟨r, bb⟩ := fin
  have q0 := (r.2 0 _ rfl).1
  have q1 := (r.2 1 _ rfl).1
  have q2 := (r.2 2 _ rfl).1
  refine bodyPost_ret (v := .tuple #[.agg #[.int .i64 x, .int .i64 y, .slice ua n c], .bool b]) (by simp [results, Tryd.results16, go_sem, q0, q1, q2]) rfl ?_
  by_cases hG : G
  · obtain ⟨rfl, ua', c', e, h1⟩ := dUnhide HY hG
    have eC := dUnhide EY hG
    subst eC
    simp only [Value.agg.injEq, Array.mk.injEq, List.cons.injEq, Value.slice.injEq, Value.int.injEq, true_and, and_true] at e
    obtain ⟨rfl, rfl, rfl, rfl, rfl⟩ := e
    exact ⟨⟨_, _, rfl, HO _ h1⟩, bb⟩
  · obtain ⟨rfl, e⟩ := dUnhide HN hG
    have eC := dUnhide EN hG
    subst eC
    simp only [Value.agg.injEq, Array.mk.injEq, List.cons.injEq, Value.slice.injEq, Value.int.injEq, true_and, and_true] at e
    obtain ⟨rfl, rfl, rfl, rfl, rfl⟩ := e
    exact ⟨⟨_, _, rfl, .inl ⟨rfl, none, rfl⟩⟩, bb⟩
end Go.Proofs.YthndkkjgjhgdnaaDoor
