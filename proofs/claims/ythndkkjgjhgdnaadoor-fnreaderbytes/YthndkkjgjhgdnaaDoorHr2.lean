/- Several texts in one: PrF, PrE. -/
import Derived.Test.YthndkkjgjhgdnaaDoorHr1
import Derived.Test.YthndkkjgjhgdnaaDoorRdS
import Derived.Deep.RegionHeld3
import Derived.Deep.DeepCutAuto
import Derived.Test.YthndkkjgjhgdnaaDoorPkN
namespace Go.Proofs.YthndkkjgjhgdnaaDoor
open Go.ChangeShapes Go.WideShapes Go.ChangeAt Go.RowKit
set_option linter.unusedVariables false
set_option linter.unusedSimpArgs false
set_option maxRecDepth 100000

set_option maxHeartbeats 8000000 in
theorem recordInReader (v : Value) (bs : List UInt8) (O : Nat → Rr → Value → World → Prop) (hO : ∀ b m u, FarO b (O b m u)) (hOm : ∀ b b' m u W, b ≤ b' → O b' m u W → O b m u W) (M : Rr) (P : Rr → Prop) (q2 : Nat) (ok2 : Bool) (w : World) (hv : Bs w v bs) (hl : bs.length ≤ 1048576) (hq : ok2 = true → q2 ≤ bs.length)
    (HRD : ∀ W ab, Below w.heap.size w W → w.heap.size ≤ ab → Rc W ab v 0 true → Calls Tryd.prog 58 #[.pointer (some ⟨ab + 1, 0, none⟩)] W fun e w' => ∃ (xe xo : Int) (ua : Option Addr) (n c : Nat) (m : Rr), e = .returned (.agg #[.int .i64 xe, .int .i64 xo, .slice ua n c]) ∧ O W.heap.size m (.agg #[.int .i64 xe, .int .i64 xo, .slice ua n c]) w' ∧ (ok2 = true → m = M) ∧ Rc w' ab v q2 ok2 ∧ Wr ab (ab + 2) W w')
    (HOK : ∀ W (xe xo : Int) (ua : Option Addr) (n c : Nat), Below w.heap.size w W → ok2 = true → O w.heap.size M (.agg #[.int .i64 xe, .int .i64 xo, .slice ua n c]) W → Calls Tryd.prog 53 #[.agg #[.int .i64 xe, .int .i64 xo, .slice ua n c]] W fun e w' => RetB (P M) e ∧ Below W.heap.size W w') :
    Calls Tryd.prog 61 #[.agg #[.func (.func 53) #[] #[], .func (.func 57) #[] #[], .func (.func 58) #[] #[]], v] w fun e w' => ∃ (xe xo : Int) (ua : Option Addr) (n c : Nat) (err : Value), e = .returned (.tuple #[.agg #[.int .i64 xe, .int .i64 xo, .slice ua n c], err]) ∧ RecPost (O w.heap.size) (RdG ok2 q2 bs.length (P M)) M w (.agg #[.int .i64 xe, .int .i64 xo, .slice ua n c]) err w' := by
  have ba : ∀ (w : World) o, Below w.heap.size w (w.alloc o) := fun w o => (Below.refl _ _).alloc (Nat.le_refl _) o
  have HV := dHide fun W (hb : Below w.heap.size w W) => hv.below hb
  replace HRD := dHide HRD
  replace HOK := dHide HOK
  replace hO := dHide hO
  replace hOm := dHide hOm
  obtain ⟨-, va, vcp, rfl, -⟩ := hv
  have e1 : (w.alloc (.cells #[.func (.func 53) #[] #[], .func (.func 57) #[] #[], .func (.func 58) #[] #[]] 65)).heap.size = w.heap.size + 1 := by simp
  have X0 := (Bx.new w [.func (.func 53) #[] #[], .func (.func 57) #[] #[], .func (.func 58) #[] #[]] 65).below (ba _ (.cells #[.int .i64 0, .int .i64 0, .slice none 0 0] 36))
  have Z0 := BxZ.new (B := w.heap.size) (w.alloc (.cells #[.func (.func 53) #[] #[], .func (.func 57) #[] #[], .func (.func 58) #[] #[]] 65)) [.int .i64 0, .int .i64 0, .slice none 0 0] 36 (by simp)
  rw [e1] at Z0
  have B0 := belowThen (ba w (.cells #[.func (.func 53) #[] #[], .func (.func 57) #[] #[], .func (.func 58) #[] #[]] 65)) (ba _ (.cells #[.int .i64 0, .int .i64 0, .slice none 0 0] 36))
  have e2 : ((w.alloc (.cells #[.func (.func 53) #[] #[], .func (.func 57) #[] #[], .func (.func 58) #[] #[]] 65)).alloc (.cells #[.int .i64 0, .int .i64 0, .slice none 0 0] 36)).heap.size = w.heap.size + 2 := by simp
  obtain ⟨ab, hab⟩ : ∃ ab, w.heap.size + 2 = ab := ⟨_, rfl⟩
  have e2' := e2.trans hab
  have CN := dHide ((newReader_any (.slice va bs.length vcp) bs ((w.alloc (.cells #[.func (.func 53) #[] #[], .func (.func 57) #[] #[], .func (.func 58) #[] #[]] 65)).alloc (.cells #[.int .i64 0, .int .i64 0, .slice none 0 0] 36)) (dUnhide HV _ B0)).mono fun e w' h => (⟨by rw [← e2']; exact h.1, by rw [← e2']; exact h.2.1, h.2.2⟩ : e = .returned (.pointer (some ⟨ab + 1, 0, none⟩)) ∧ Rc w' ab (.slice va bs.length vcp) 0 true ∧ Below ((w.alloc (.cells #[.func (.func 53) #[] #[], .func (.func 57) #[] #[], .func (.func 58) #[] #[]] 65)).alloc (.cells #[.int .i64 0, .int .i64 0, .slice none 0 0] 36)).heap.size ((w.alloc (.cells #[.func (.func 53) #[] #[], .func (.func 57) #[] #[], .func (.func 58) #[] #[]] 65)).alloc (.cells #[.int .i64 0, .int .i64 0, .slice none 0 0] 36)) w'))
  clear e1 e2
  go_enter Tryd.func61, Tryd.ntmps61
  go_upto_region 1 with fail
  generalize (w.alloc (.cells #[.func (.func 53) #[] #[], .func (.func 57) #[] #[], .func (.func 58) #[] #[]] 65)).alloc (.cells #[.int .i64 0, .int .i64 0, .slice none 0 0] 36) = w0 at *
  go_wp2_with fail
  refine (dUnhide CN).mono ?_
  rintro e w1 ⟨rfl, hc1, b1⟩
  have B1 := belowThen B0 b1
  have X1 := X0.below b1
  have Z1 := dHide (Z0.below b1)
  have k2 := X1 2 _ rfl
  have HX1 := dHide X1
  have hs1 := b1.size
  have hs0 := e2'
  have C2 := dHide (dUnhide HRD w1 ab B1 (by omega) hc1)
  have hlt1 := hc1.lt
  clear CN X0 Z0 B0 b1 X1 hc1 HRD
  go_wp2_with fail
  refine (dUnhide C2).mono ?_
  rintro e w2 ⟨xe, xo, ua, n, c, m, rfl, hm2, hmM, hc2, hw2⟩
  have B2 : Below w.heap.size w w2 := hw2.below B1 (by omega) (by omega)
  have hs2 := hw2.size
  have Z2 := (dUnhide Z1)
  have Z2 : BxZ w2 w.heap.size (w.heap.size + 1) [.int .i64 0, .int .i64 0, .slice none 0 0] := ⟨Z2.1, fun i u hu => ⟨(World.cell?_of_block (a := ⟨w.heap.size + 1, i, none⟩) (hw2.block _ (dCell_lt (Z2.2 i u hu).1) (.inl (by simp only; omega)))).trans (Z2.2 i u hu).1, (World.frozen?_of_block (a := ⟨w.heap.size + 1, i, none⟩) (hw2.block _ (dCell_lt (Z2.2 i u hu).1) (.inl (by simp only; omega)))).trans (Z2.2 i u hu).2⟩⟩
  have X2 : Bx w2 w.heap.size [.func (.func 53) #[] #[], .func (.func 57) #[] #[], .func (.func 58) #[] #[]] := fun i u hu => (World.cell?_of_block (a := ⟨w.heap.size, i, none⟩) (hw2.block _ (dCell_lt ((dUnhide HX1) i u hu)) (.inl (by simp only; omega)))).trans ((dUnhide HX1) i u hu)
  have b3 := ba w2 (.cells #[.int .i64 xe, .int .i64 xo, .slice ua n c] 36)
  have R3 := Bx.new w2 [.int .i64 xe, .int .i64 xo, .slice ua n c] 36
  have B3 := belowThen B2 b3
  have Z3 := dHide (Z2.below b3)
  have X3 := X2.below b3
  have hc3 := hc2.below b3
  have O3 := dHide ((dUnhide hO) _ _ _ _ _ hm2 b3.size (fun k _ hk => b3.block k hk))
  have hs3 : (w2.alloc (.cells #[.int .i64 xe, .int .i64 xo, .slice ua n c] 36)).heap.size = w2.heap.size + 1 := by simp
  have HM := dHide hmM
  clear C2 k2 HX1 Z1 B1 hw2 B2 Z2 X2 b3 hc2 hm2 hmM
  have HF := dHide fun (W : World) (hs : w2.heap.size + 1 ≤ W.heap.size) (hk : ∀ k, k < w2.heap.size + 1 → k < ab ∨ ab + 2 ≤ k → W.heap[k]? = (w2.alloc (.cells #[.int .i64 xe, .int .i64 xo, .slice ua n c] 36)).heap[k]?) (hb : Below w.heap.size w W) =>
    (⟨(dUnhide hO) _ _ _ _ W (dUnhide O3) (by rw [hs3]; exact hs) (fun k h1 h2 => hk k (by rw [hs3] at h2; exact h2) (.inr (by omega))),
      fun i u hu => (World.cell?_of_block (a := ⟨w2.heap.size, i, none⟩) (hk _ (by simp only; omega) (.inr (by simp only; omega)))).trans (R3 i u hu),
      ⟨(dUnhide Z3).1, fun i u hu => ⟨(World.cell?_of_block (a := ⟨w.heap.size + 1, i, none⟩) (hk _ (by simp only; omega) (.inl (by simp only; omega)))).trans ((dUnhide Z3).2 i u hu).1, (World.frozen?_of_block (a := ⟨w.heap.size + 1, i, none⟩) (hk _ (by simp only; omega) (.inl (by simp only; omega)))).trans ((dUnhide Z3).2 i u hu).2⟩⟩,
      fun i u hu => (World.cell?_of_block (a := ⟨w.heap.size, i, none⟩) (hk _ (by simp only; omega) (.inl (by simp only; omega)))).trans (X3 i u hu), hb⟩ :
      O w1.heap.size m (.agg #[.int .i64 xe, .int .i64 xo, .slice ua n c]) W ∧ Bx W w2.heap.size [.int .i64 xe, .int .i64 xo, .slice ua n c] ∧ BxZ W w.heap.size (w.heap.size + 1) [.int .i64 0, .int .i64 0, .slice none 0 0] ∧ Bx W w.heap.size [.func (.func 53) #[] #[], .func (.func 57) #[] #[], .func (.func 58) #[] #[]] ∧ Below w.heap.size w W)
  have HF3 := dHide (dUnhide HF _ (by rw [hs3]; exact Nat.le_refl _) (fun _ _ _ => rfl) B3)
  have HFW := dHide fun (W : World) (hw : Wr ab (ab + 2) (w2.alloc (.cells #[.int .i64 xe, .int .i64 xo, .slice ua n c] 36)) W) => dUnhide HF W (by have := hw.size; rw [hs3] at this; exact this) (fun k hk hn => hw.block k (by rw [hs3]; exact hk) hn) (hw.below B3 (by rw [hs3]; omega) (by omega))
  clear Z3 R3 X3 O3 B3
  have HFIN := dHide fun (W : World) (oF : O w1.heap.size m (.agg #[.int .i64 xe, .int .i64 xo, .slice ua n c]) W) (zF : BxZ W w.heap.size (w.heap.size + 1) [.int .i64 0, .int .i64 0, .slice none 0 0]) (bF : Below w.heap.size w W) =>
    (⟨(dUnhide hOm) w.heap.size w1.heap.size m _ _ (by omega) ((dUnhide hO) _ _ _ W (((W.setCell ⟨w.heap.size + 1, 0, none⟩ (.int .i64 xe)).setCell ⟨w.heap.size + 1, 1, none⟩ (.int .i64 xo)).setCell ⟨w.heap.size + 1, 2, none⟩ (.slice ua n c)).drew oF (by simp) (fun k h1 h2 => by
      show (((W.setCell ⟨w.heap.size + 1, 0, none⟩ (.int .i64 xe)).setCell ⟨w.heap.size + 1, 1, none⟩ (.int .i64 xo)).setCell ⟨w.heap.size + 1, 2, none⟩ (.slice ua n c)).heap[k]? = _
      rw [Below.heap_setCell _ _ _ k (by simp only; omega), Below.heap_setCell _ _ _ k (by simp only; omega), Below.heap_setCell _ _ _ k (by simp only; omega)])), (show BxZ (((W.setCell ⟨w.heap.size + 1, 0, none⟩ (.int .i64 xe)).setCell ⟨w.heap.size + 1, 1, none⟩ (.int .i64 xo)).setCell ⟨w.heap.size + 1, 2, none⟩ (.slice ua n c)) _ _ _ from (((zF.put 0 (.int .i64 xe)).put 1 (.int .i64 xo)).put 2 (.slice ua n c))).drew', (show Below _ _ (((W.setCell ⟨w.heap.size + 1, 0, none⟩ (.int .i64 xe)).setCell ⟨w.heap.size + 1, 1, none⟩ (.int .i64 xo)).setCell ⟨w.heap.size + 1, 2, none⟩ (.slice ua n c)) from (Below.setCell (p := ⟨w.heap.size + 1, 2, none⟩) (Below.setCell (p := ⟨w.heap.size + 1, 1, none⟩) (Below.setCell (p := ⟨w.heap.size + 1, 0, none⟩) bF (by simp only; omega) (.int .i64 xe)) (by simp only; omega) (.int .i64 xo)) (by simp only; omega) (.slice ua n c))).drew⟩ :
      O w.heap.size m (.agg #[.int .i64 xe, .int .i64 xo, .slice ua n c]) (((W.setCell ⟨w.heap.size + 1, 0, none⟩ (.int .i64 xe)).setCell ⟨w.heap.size + 1, 1, none⟩ (.int .i64 xo)).setCell ⟨w.heap.size + 1, 2, none⟩ (.slice ua n c)).drew ∧ BxZ (((W.setCell ⟨w.heap.size + 1, 0, none⟩ (.int .i64 xe)).setCell ⟨w.heap.size + 1, 1, none⟩ (.int .i64 xo)).setCell ⟨w.heap.size + 1, 2, none⟩ (.slice ua n c)).drew w.heap.size (w.heap.size + 1) [.int .i64 xe, .int .i64 xo, .slice ua n c] ∧ Below w.heap.size w (((W.setCell ⟨w.heap.size + 1, 0, none⟩ (.int .i64 xe)).setCell ⟨w.heap.size + 1, 1, none⟩ (.int .i64 xo)).setCell ⟨w.heap.size + 1, 2, none⟩ (.slice ua n c)).drew)
  cases ok2 with
  | true =>
    have h3 := hc3.isYes
    have hq2 := hq rfl
    obtain rfl := dUnhide HM rfl
    have d1 := (h3.1.2 1 _ rfl).1
    have d2 := (h3.1.2 2 _ rfl).1
    have dy := h3.2.1
    by_cases hlt : (q2 : Int) < (bs.length : Int)
    · go_upto_region 4 with fail
      generalize w2.alloc (.cells #[.int .i64 xe, .int .i64 xo, .slice ua n c] 36) = w3 at *
      have CR := dHide (refuse_new ab _ _ (q2 : Int) w3 h3)
      clear d2
      go_wp2_with fail
      refine (dUnhide CR).mono ?_
      rintro e w4 ⟨rfl, hc4, hw4⟩
      obtain ⟨oF, rF, zF, xF, bF⟩ := dUnhide HFW w4 hw4
      have dw := (hc4.1.2 2 _ rfl).1
      unfold wrg at dw
      have r0 := rF 0 _ rfl
      have r1 := rF 1 _ rfl
      have r2 := rF 2 _ rfl
      obtain ⟨z0, y0⟩ := zF.2 0 _ rfl
      obtain ⟨z1, y1⟩ := zF.2 1 _ rfl
      obtain ⟨z2, y2⟩ := zF.2 2 _ rfl
      have FIN := dHide (dUnhide HFIN _ oF zF bF)
      go_wp2_with fail
      go_region
      go_wp2
      have fin := dUnhide FIN
      generalize (((w4.setCell ⟨w.heap.size + 1, 0, none⟩ (.int .i64 xe)).setCell ⟨w.heap.size + 1, 1, none⟩ (.int .i64 xo)).setCell ⟨w.heap.size + 1, 2, none⟩ (.slice ua n c)).drew = V at *
      obtain ⟨o, r, b⟩ := fin
      have qq0 := (r.2 0 _ rfl).1
      have qq1 := (r.2 1 _ rfl).1
      have qq2 := (r.2 2 _ rfl).1
      exact bodyPost_ret (v := .tuple #[.agg #[.int .i64 xe, .int .i64 xo, .slice ua n c], .iface 86 (.agg #[.int .i64 ((q2 : Nat))])]) (by simp [results, Tryd.results61, go_sem, qq0, qq1, qq2]) rfl ⟨_, _, _, _, _, _, rfl, _, o, (fun h => absurd h.2.1 (by omega)), (fun _ => ⟨_, rfl⟩), b⟩
    · have hql : q2 = bs.length := by omega
      obtain ⟨oF3, rF3, zF3, xF3, bF3⟩ := dUnhide HF3
      go_upto_region 5 with fail
      generalize w2.alloc (.cells #[.int .i64 xe, .int .i64 xo, .slice ua n c] 36) = w3 at *
      have c0 := rF3 0 _ rfl
      have c1 := rF3 1 _ rfl
      have c2 := rF3 2 _ rfl
      have x0 := xF3 0 _ rfl
      have CK := dHide (dUnhide HOK w3 xe xo ua n c bF3 (by first | trivial | rfl) ((dUnhide hOm) _ w1.heap.size _ _ _ (by omega) oF3))
      clear oF3 rF3 zF3 xF3 bF3 HF3
      go_wp2_with fail
      refine (dUnhide CK).mono ?_
      rintro e w4 ⟨hr, b4⟩
      have h4 := h3.below b4
      by_cases hP : P m
      · obtain rfl := hr.of_yes hP
        obtain ⟨oF, rF, zF, xF, bF⟩ := dUnhide HFW w4 (Wr.of_below b4)
        have dw := (h4.1.2 2 _ rfl).1
        have r0 := rF 0 _ rfl
        have r1 := rF 1 _ rfl
        have r2 := rF 2 _ rfl
        obtain ⟨z0, y0⟩ := zF.2 0 _ rfl
        obtain ⟨z1, y1⟩ := zF.2 1 _ rfl
        obtain ⟨z2, y2⟩ := zF.2 2 _ rfl
        have FIN := dHide (dUnhide HFIN _ oF zF bF)
        clear hr CK h3 d1 d2 dy x0 c0 c1 c2
        go_wp2_with fail
        go_region
        go_wp2
        have fin := dUnhide FIN
        generalize (((w4.setCell ⟨w.heap.size + 1, 0, none⟩ (.int .i64 xe)).setCell ⟨w.heap.size + 1, 1, none⟩ (.int .i64 xo)).setCell ⟨w.heap.size + 1, 2, none⟩ (.slice ua n c)).drew = V at *
        obtain ⟨o, r, b⟩ := fin
        have qq0 := (r.2 0 _ rfl).1
        have qq1 := (r.2 1 _ rfl).1
        have qq2 := (r.2 2 _ rfl).1
        exact bodyPost_ret (v := .tuple #[.agg #[.int .i64 xe, .int .i64 xo, .slice ua n c], .nilIface]) (by simp [results, Tryd.results61, go_sem, qq0, qq1, qq2]) rfl ⟨_, _, _, _, _, _, rfl, _, o, (fun _ => ⟨rfl, rfl⟩), (fun h => absurd ⟨rfl, hql, hP⟩ h), b⟩
      · obtain rfl := hr.of_no hP
        have CR := dHide (refuse_new ab _ _ 0 w4 h4)
        clear hr CK h3 d1 d2 dy x0 c0 c1 c2
        go_wp2_with fail
        refine (dUnhide CR).mono ?_
        rintro e w5 ⟨rfl, hc5, hw5⟩
        obtain ⟨oF, rF, zF, xF, bF⟩ := dUnhide HFW w5 ((Wr.of_below b4).trans hw5)
        have dw := (hc5.1.2 2 _ rfl).1
        unfold wrg at dw
        have r0 := rF 0 _ rfl
        have r1 := rF 1 _ rfl
        have r2 := rF 2 _ rfl
        obtain ⟨z0, y0⟩ := zF.2 0 _ rfl
        obtain ⟨z1, y1⟩ := zF.2 1 _ rfl
        obtain ⟨z2, y2⟩ := zF.2 2 _ rfl
        have FIN := dHide (dUnhide HFIN _ oF zF bF)
        go_wp2_with fail
        go_region
        go_wp2
        have fin := dUnhide FIN
        generalize (((w5.setCell ⟨w.heap.size + 1, 0, none⟩ (.int .i64 xe)).setCell ⟨w.heap.size + 1, 1, none⟩ (.int .i64 xo)).setCell ⟨w.heap.size + 1, 2, none⟩ (.slice ua n c)).drew = V at *
        obtain ⟨o, r, b⟩ := fin
        have qq0 := (r.2 0 _ rfl).1
        have qq1 := (r.2 1 _ rfl).1
        have qq2 := (r.2 2 _ rfl).1
        exact bodyPost_ret (v := .tuple #[.agg #[.int .i64 xe, .int .i64 xo, .slice ua n c], .iface 86 (.agg #[.int .i64 (0)])]) (by simp [results, Tryd.results61, go_sem, qq0, qq1, qq2]) rfl ⟨_, _, _, _, _, _, rfl, _, o, (fun h => absurd h.2.2 hP), (fun _ => ⟨_, rfl⟩), b⟩
  | false =>
    obtain ⟨p, y, h3⟩ := hc3.isNo
    have d1 := (h3.1.2 1 _ rfl).1
    have d2 := (h3.1.2 2 _ rfl).1
    have dy := h3.2.1
    have CR := dHide (refuse_old ab _ y y p _ h3)
    obtain ⟨oF, rF, zF, xF, bF⟩ := dUnhide HF3
    unfold wrg at d2
    by_cases hlt : y < (bs.length : Int)
    · go_upto_region 4 with fail
      generalize w2.alloc (.cells #[.int .i64 xe, .int .i64 xo, .slice ua n c] 36) = w3 at *
      go_wp2_with fail
      refine (dUnhide CR).mono ?_
      rintro e w4 ⟨rfl, rfl⟩
      have r0 := rF 0 _ rfl
      have r1 := rF 1 _ rfl
      have r2 := rF 2 _ rfl
      obtain ⟨z0, y0⟩ := zF.2 0 _ rfl
      obtain ⟨z1, y1⟩ := zF.2 1 _ rfl
      obtain ⟨z2, y2⟩ := zF.2 2 _ rfl
      have FIN := dHide (dUnhide HFIN _ oF zF bF)
      go_wp2_with fail
      go_region
      go_wp2
      have fin := dUnhide FIN
      generalize (((w4.setCell ⟨w.heap.size + 1, 0, none⟩ (.int .i64 xe)).setCell ⟨w.heap.size + 1, 1, none⟩ (.int .i64 xo)).setCell ⟨w.heap.size + 1, 2, none⟩ (.slice ua n c)).drew = V at *
      obtain ⟨o, r, b⟩ := fin
      have qq0 := (r.2 0 _ rfl).1
      have qq1 := (r.2 1 _ rfl).1
      have qq2 := (r.2 2 _ rfl).1
      exact bodyPost_ret (v := .tuple #[.agg #[.int .i64 xe, .int .i64 xo, .slice ua n c], .iface 86 (.agg #[.int .i64 (p)])]) (by simp [results, Tryd.results61, go_sem, qq0, qq1, qq2]) rfl ⟨_, _, _, _, _, _, rfl, _, o, (fun h => by cases h.1), (fun _ => ⟨_, rfl⟩), b⟩
    · go_upto_region 5 with fail
      generalize w2.alloc (.cells #[.int .i64 xe, .int .i64 xo, .slice ua n c] 36) = w3 at *
      have r0 := rF 0 _ rfl
      have r1 := rF 1 _ rfl
      have r2 := rF 2 _ rfl
      obtain ⟨z0, y0⟩ := zF.2 0 _ rfl
      obtain ⟨z1, y1⟩ := zF.2 1 _ rfl
      obtain ⟨z2, y2⟩ := zF.2 2 _ rfl
      have FIN := dHide (dUnhide HFIN _ oF zF bF)
      go_wp2_with fail
      go_region
      go_wp2
      have fin := dUnhide FIN
      generalize (((w3.setCell ⟨w.heap.size + 1, 0, none⟩ (.int .i64 xe)).setCell ⟨w.heap.size + 1, 1, none⟩ (.int .i64 xo)).setCell ⟨w.heap.size + 1, 2, none⟩ (.slice ua n c)).drew = V at *
      obtain ⟨o, r, b⟩ := fin
      have qq0 := (r.2 0 _ rfl).1
      have qq1 := (r.2 1 _ rfl).1
      have qq2 := (r.2 2 _ rfl).1
      exact bodyPost_ret (v := .tuple #[.agg #[.int .i64 xe, .int .i64 xo, .slice ua n c], .iface 86 (.agg #[.int .i64 (p)])]) (by simp [results, Tryd.results61, go_sem, qq0, qq1, qq2]) rfl ⟨_, _, _, _, _, _, rfl, _, o, (fun h => by cases h.1), (fun _ => ⟨_, rfl⟩), b⟩
end Go.Proofs.YthndkkjgjhgdnaaDoor
namespace Go.Proofs.YthndkkjgjhgdnaaDoor
open Go.ChangeShapes Go.WideShapes Go.ChangeAt Go.RowKit
set_option linter.unusedVariables false
set_option linter.unusedSimpArgs false
set_option maxRecDepth 100000

theorem ApV.wr {lo hi base : Nat} {w w' : World} {v : Value} {ms : List Ev} (h : ApV w base v ms) (hd : Wr lo hi w w') (hb : hi ≤ base) : ApV w' base v ms := by
  rcases h with h | h
  · exact .inl h
  · refine .inr ?_
    rcases h.2 with h0 | ⟨g, cap, cur, h1, h2, h3, h4⟩
    · exact ⟨h.1, .inl h0⟩
    · exact ⟨h.1, .inr ⟨g, cap, cur, h1, h2, (hd.block g (Array.getElem?_eq_some_iff.1 h3).1 (by omega)).trans h3, h4⟩⟩
theorem ApV.farO (n : Nat) (u : Value) (ms : List Ev) : FarO n (fun W => ApV W n u ms) := fun W W' h hs hk => by
  rcases h with h | h
  · exact .inl h
  · refine .inr ?_
    rcases h.2 with h0 | ⟨g, cap, cur, h1, h2, h3, h4⟩
    · exact ⟨h.1, .inl h0⟩
    · exact ⟨h.1, .inr ⟨g, cap, cur, h1, h2, (hk g h2 (Array.getElem?_eq_some_iff.1 h3).1).trans h3, h4⟩⟩
theorem BxZ.wrZ {W W' : World} {B b ab : Nat} {vs : List Value} (h : BxZ W B b vs) (hw : Wr ab (ab + 2) W W') (hb : ab + 2 ≤ b) : BxZ W' B b vs :=
  ⟨h.1, fun i u hu => ⟨(World.cell?_of_block (a := ⟨b, i, none⟩) (hw.block _ (dCell_lt (h.2 i u hu).1) (.inr hb))).trans (h.2 i u hu).1, (World.frozen?_of_block (a := ⟨b, i, none⟩) (hw.block _ (dCell_lt (h.2 i u hu).1) (.inr hb))).trans (h.2 i u hu).2⟩⟩
/-- A list of events is read. -/
def rdEl (bs : List UInt8) (q : Nat) (ok : Bool) : List Ev × Nat × Bool := rdEs bs (rdN bs q ok).1.toNat (rdN bs q ok).2.1 (rdN bs q ok).2.2
set_option maxHeartbeats 4000000 in
theorem event_any (ab : Nat) (v : Value) (bs : List UInt8) (q : Nat) (ok : Bool) (w : World) (hc : Rc w ab v q ok) (HV : ∀ W, Wr ab (ab + 2) w W → Bs W v bs) (hl : bs.length ≤ 1048576) (hq : q ≤ bs.length) (hne : bs = [] ∨ blockOf v ≠ ab) :
    Calls Tryd.prog 79 #[.pointer (some ⟨ab + 1, 0, none⟩)] w fun e w' => ∃ m : Ev, e = .returned m.val ∧ m.data.size ≤ bs.length ∧ ((rdE bs q ok).2.2 = true → m = (rdE bs q ok).1) ∧ Rc w' ab v (rdE bs q ok).2.1 (rdE bs q ok).2.2 ∧ Wr ab (ab + 2) w w' := by
  have hab := hc.lt
  have ba : Below w.heap.size w (w.alloc (.cells #[.int .i64 0, .int .i64 0, .string ⟨#[]⟩] 68)) := (Below.refl _ _).alloc (Nat.le_refl _) _
  have Z0 := BxZ.new (B := w.heap.size) w [.int .i64 0, .int .i64 0, .string ⟨#[]⟩] 68 (Nat.le_refl _)
  have HV := dHide HV
  have CN := dHide fun q ok W (hd : Wr ab (ab + 2) w W) (hc : Rc W ab v q ok) => number_any ab v bs q ok W hc (dUnhide HV W hd) hne
  have CT := dHide fun q ok W (hd : Wr ab (ab + 2) w W) (hc : Rc W ab v q ok) => data_any ab v bs q ok W hc (dUnhide HV W hd) (by omega) hne
  have W0 := Wr.of_below (lo := ab) (hi := ab + 2) ba
  have V0 := Wr.refl ab (ab + 2) (w.alloc (.cells #[.int .i64 0, .int .i64 0, .string ⟨#[]⟩] 68))
  have hs0 : (w.alloc (.cells #[.int .i64 0, .int .i64 0, .string ⟨#[]⟩] 68)).heap.size = w.heap.size + 1 := by simp
  have C1 := dHide fun W hd hc => dUnhide CN q ok W hd hc
  have C2 := dHide fun W hd hc => dUnhide CN (rdN bs q ok).2.1 (rdN bs q ok).2.2 W hd hc
  have C3 := dHide fun W hd hc => dUnhide CT (rdN bs (rdN bs q ok).2.1 (rdN bs q ok).2.2).2.1 (rdN bs (rdN bs q ok).2.1 (rdN bs q ok).2.2).2.2 W hd hc
  have K1 : Hid ((rdN bs (rdN bs q ok).2.1 (rdN bs q ok).2.2).2.2 = true → (rdN bs q ok).2.2 = true) := rdN_ok
  have K2 : Hid ((rdT bs (rdN bs (rdN bs q ok).2.1 (rdN bs q ok).2.2).2.1 (rdN bs (rdN bs q ok).2.1 (rdN bs q ok).2.2).2.2).2.2 = true → (rdN bs (rdN bs q ok).2.1 (rdN bs q ok).2.2).2.2 = true) := rdT_ok
  have EE : Hid (rdE bs q ok = (⟨(rdN bs q ok).1, (rdN bs (rdN bs q ok).2.1 (rdN bs q ok).2.2).1, ⟨(rdT bs (rdN bs (rdN bs q ok).2.1 (rdN bs q ok).2.2).2.1 (rdN bs (rdN bs q ok).2.1 (rdN bs q ok).2.2).2.2).1.toArray⟩⟩, (rdT bs (rdN bs (rdN bs q ok).2.1 (rdN bs q ok).2.2).2.1 (rdN bs (rdN bs q ok).2.1 (rdN bs q ok).2.2).2.2).2)) := rfl
  generalize rdE bs q ok = RE at *
  generalize (rdT bs (rdN bs (rdN bs q ok).2.1 (rdN bs q ok).2.2).2.1 (rdN bs (rdN bs q ok).2.1 (rdN bs q ok).2.2).2.2) = T3 at *
  generalize (rdN bs (rdN bs q ok).2.1 (rdN bs q ok).2.2) = N2 at *
  generalize (rdN bs q ok) = N1 at *
  have eE := dUnhide EE
  subst eE
  obtain ⟨e0, p1, o1⟩ := N1
  obtain ⟨e1, p2, o2⟩ := N2
  obtain ⟨e2, p3, o3⟩ := T3
  simp only at C1 C2 C3 K1 K2 ⊢
  have hc0 := hc.below ba
  clear CN CT EE hc
  go_enter Tryd.func79, Tryd.ntmps79
  go_upto_region 1 with fail
  generalize w.alloc (.cells #[.int .i64 0, .int .i64 0, .string ⟨#[]⟩] 68) = w0 at *
  have D1 := dHide (dUnhide C1 w0 W0 hc0)
  clear C1 hc0
  go_wp2_with fail
  refine (dUnhide D1).mono ?_
  rintro e w1 ⟨x0, rfl, hb0, hx0, hc1, hw1⟩
  have W1 := W0.trans hw1
  have V1 := V0.trans hw1
  have D2 := dHide (dUnhide C2 w1 W1 hc1)
  have HX0 := dHide hx0
  clear D1 C2 hc1 hw1 hx0
  go_wp2_with fail
  refine (dUnhide D2).mono ?_
  rintro e w2 ⟨x1, rfl, hb1, hx1, hc2, hw2⟩
  have W2 := W1.trans hw2
  have V2 := V1.trans hw2
  have D3 := dHide (dUnhide C3 w2 W2 hc2)
  have HX1 := dHide hx1
  clear D2 C3 hc2 hw2 hx1
  go_wp2_with fail
  refine (dUnhide D3).mono ?_
  rintro e w3 ⟨x2, rfl, hb2, hx2, hc3, hw3⟩
  have W3 := W2.trans hw3
  have V3 := V2.trans hw3
  have HX2 := dHide hx2
  have hs3 := W3.size
  have Z3 : BxZ w3 w.heap.size w.heap.size [.int .i64 0, .int .i64 0, .string ⟨#[]⟩] := Z0.wrZ V3 hab
  clear D3 hx2 hw3 W1 W2
  go_wp2_with (refine wp_putW rfl _ _ _ rfl rfl [.int .i64 x0, .int .i64 x1, .string x2] rfl rfl Z3 rfl (by kernel_rfl) (by kernel_rfl) ?_; intro w4 Y4 s4 g4 b4)
  refine bodyPost_ret (results_box Tryd.results79 _ _ _ [.int .i64 x0, .int .i64 x1, .string x2] _ rfl Y4.bx Tryd.underlying68 rfl (by kernel_rfl)) rfl ⟨⟨x0, x1, x2⟩, rfl, hb2, fun h => ?_, ?_, W3.new (Nat.le_refl _) g4 s4 b4⟩
  · have h2 := dUnhide K2 h
    rw [dUnhide HX0 (dUnhide K1 h2), dUnhide HX1 h2, dUnhide HX2 h]
  · exact hc3.wr (row := some w.heap.size) ⟨b4.os, b4.tape, b4.output, by rw [s4]; exact Nat.le_refl _, fun k hk hn => g4 k (by rintro rfl; exact hn rfl)⟩ (by intro e; simp only [Option.some.injEq] at e; omega) (by intro e; simp only [Option.some.injEq] at e; omega)
set_option maxHeartbeats 8000000 in
theorem listOfE_any (ab : Nat) (v : Value) (bs : List UInt8) (q : Nat) (ok : Bool) (w : World) (hc : Rc w ab v q ok) (HV : ∀ W, Wr ab (ab + 2) w W → Bs W v bs) (hl : bs.length ≤ 1048576) (hq : q ≤ bs.length) (hne : bs = [] ∨ blockOf v ≠ ab) :
    Calls Tryd.prog 78 #[.pointer (some ⟨ab + 1, 0, none⟩), .func (.func 79) #[.pointer (some ⟨ab + 1, 0, none⟩)] #[]] w fun e w' => ∃ u xs, e = .returned u ∧ ApV w' w.heap.size u xs ∧ ((rdEl bs q ok).2.2 = true → xs = (rdEl bs q ok).1) ∧ Rc w' ab v (rdEl bs q ok).2.1 (rdEl bs q ok).2.2 ∧ Wr ab (ab + 2) w w' := by
  have hab := hc.lt
  have HV := dHide HV
  have CN := dHide fun q ok W (hd : Wr ab (ab + 2) w W) (hc : Rc W ab v q ok) (hq : q ≤ bs.length) => event_any ab v bs q ok W hc (fun W' hW' => dUnhide HV W' (hd.trans hW')) hl hq hne
  have C1 := dHide (number_any ab v bs q ok w hc (dUnhide HV w (Wr.refl _ _ _)) hne)
  have HS : Hid ((rdN bs q ok).2.1 ≤ bs.length ∧ (∀ x : Int, ((rdN bs q ok).2.2 = true → x = (rdN bs q ok).1) → (rdN bs q ok).2.2 = true → rdEl bs q ok = rdEs bs x.toNat (rdN bs q ok).2.1 true) ∧ ((rdN bs q ok).2.2 = false → (rdEl bs q ok).2.2 = false)) := by
    refine ⟨rdN_le bs q ok hq, fun x hx h => ?_, fun h => ?_⟩
    · rw [hx h]; unfold rdEl; rw [h]
    · unfold rdEl; rw [h, rdEs_off]
  generalize rdN bs q ok = R at *
  generalize rdEl bs q ok = L at *
  obtain ⟨nI, q1, ok1⟩ := R
  obtain ⟨hq1, hL1, hL0⟩ := dUnhide HS
  simp only at hq1 hL1 hL0 C1
  have HL1 := dHide hL1
  have HL0 := dHide hL0
  clear hc HS hq hL1 hL0
  go_enter Tryd.func78, Tryd.ntmps78
  go_wp2_with fail
  refine (dUnhide C1).mono ?_
  rintro e w1 ⟨x, rfl, ⟨hx0, hx1⟩, hx, hc1, hd1⟩
  obtain ⟨n, rfl⟩ := Int.eq_ofNat_of_zero_le hx0
  have E1 : Hid (ok1 = true → L = rdEs bs n q1 true) := fun h => dUnhide HL1 (n : Int) hx h
  have E0 := HL0
  have hs1 := hd1.size
  have HC1 := dHide hc1
  have HD1 := dHide hd1
  clear HL1 HL0 hx hc1 hd1 C1
  go_wp2
  go_loopw [5, 6] (fun ov xv wr => ∃ (k : Nat) (xs : List Ev) (p : Nat) (okb : Bool), xv = .int .i64 ((n : Int) - (k : Int)) ∧ xs.length = k ∧ k ≤ n ∧ k ≤ bs.length + 1 ∧ (okb = true → k ≤ p) ∧ p ≤ bs.length ∧ Hid (okb = true → L = (xs ++ (rdEs bs (n - k) p true).1, (rdEs bs (n - k) p true).2)) ∧ Hid (okb = false → L.2.2 = false) ∧ ApV wr w1.heap.size ov xs ∧ Hid (Rc wr ab v p okb) ∧ Hid (Wr ab (ab + 2) w wr) ∧ w1.heap.size ≤ wr.heap.size) (fun _ xv _ => (intOf xv).toNat)
  case atStart => exact ⟨0, [], q1, ok1, by simp, rfl, Nat.zero_le _, Nat.zero_le _, fun _ => Nat.zero_le _, hq1, by simpa [Hid] using dUnhide E1, E0, (.inl ⟨rfl, none, rfl⟩ : ApV w1 w1.heap.size (.slice none 0 0) []), HC1, HD1, Nat.le_refl _⟩
  case round =>
    clear HC1 HD1 E1 E0
    obtain ⟨k, xs, p, okb, rfl, hxl, hkn, hkb, hkp, hp, HK, HZ, hown, HC, HD, hsz⟩ := hrel
    obtain ⟨p2, k2⟩ := (dUnhide HC).cell2
    have GO : Hid ((okb = true → k = n) → (∃ u xs, Ending.returned u5 = .returned u ∧ ApV wr w.heap.size u xs ∧ (L.2.2 = true → xs = L.1) ∧ Rc wr ab v L.2.1 L.2.2 ∧ Wr ab (ab + 2) w wr)) := by
      intro e
      cases okb with
      | true =>
        have e2 : L = (xs, p, true) := by
          have := dUnhide HK rfl
          rw [e rfl, Nat.sub_self, rdEs_zero] at this
          simpa using this
        rw [e2]
        exact ⟨_, xs, rfl, ApR.mono hown hs1, fun _ => rfl, dUnhide HC, dUnhide HD⟩
      | false =>
        have e2 := dUnhide HZ rfl
        obtain ⟨L1, L2, L3⟩ := L
        simp only at e2
        subst e2
        obtain ⟨pp, yy, hr⟩ := (dUnhide HC).isNo
        exact ⟨_, xs, rfl, ApR.mono hown hs1, fun h => (by cases h), Rc.no hr, dUnhide HD⟩
    by_cases hlt : (0 : Int) < (n : Int) - (k : Int)
    · cases okb
      · have G := dHide (dUnhide GO (fun h => (by cases h)))
        simp only [Bool.false_eq_true, if_false] at k2
        unfold wrg at k2
        clear GO HK HZ HC HD CN HV
        go_wp2
        go_ret
        exact dUnhide G
      · simp only [if_true] at k2
        have hkp2 : k ≤ p := hkp rfl
        have C2 := dHide (dUnhide CN p true wr (dUnhide HD) (dUnhide HC) hp)
        have HS : Hid (p ≤ (rdE bs p true).2.1 ∧ (rdE bs p true).2.1 ≤ bs.length ∧ ((rdE bs p true).2.2 = true → p + 1 ≤ (rdE bs p true).2.1)) := rdE_step hp
        obtain ⟨j, hj⟩ : ∃ j, n - k = j + 1 := ⟨n - k - 1, by omega⟩
        have hj2 : n - (k + 1) = j := by omega
        have HK2 : Hid (L = (xs ++ [(rdE bs p true).1] ++ (rdEs bs j (rdE bs p true).2.1 (rdE bs p true).2.2).1, (rdEs bs j (rdE bs p true).2.1 (rdE bs p true).2.2).2)) := by
          have := dUnhide HK rfl
          rw [hj, rdEs_succ] at this
          rw [Hid, this]
          simp
        generalize rdE bs p true = R at *
        obtain ⟨y, p', ok'⟩ := R
        obtain ⟨hpp, hpl, hpk⟩ := dUnhide HS
        simp only at hpp hpl hpk HK2 C2
        have HK3 : Hid (∀ y' : Ev, (ok' = true → y' = y) → (ok' = true → L = (xs ++ [y'] ++ (rdEs bs j p' true).1, (rdEs bs j p' true).2)) ∧ (ok' = false → L.2.2 = false)) := fun y' h' => by
          refine ⟨fun h => ?_, fun h => ?_⟩
          · rw [h' h, dUnhide HK2, h]
          · rw [dUnhide HK2, h, rdEs_off]
        have HO := dHide hown
        clear GO HK HK2 HZ HS CN HV HC hown
        go_wp2_with fail
        refine (dUnhide C2).mono ?_
        rintro e w3 ⟨y', rfl, hyb, hye, hc3, hd3⟩
        have HK4 := dHide (dUnhide HK3 y' hye)
        obtain ⟨m0, m1, m2⟩ := y'
        unfold Ev.val
        have ho3 := ApV.wr (dUnhide HO) hd3 (by omega)
        clear C2 HO k2 HK3 hye
        have hlt' : ∀ b, touch u5 = some b → w1.heap.size ≤ b := fun b e => (ApR.touched elemEvent ho3 e).1
        have HC3 := dHide hc3
        have HD3 := dHide ((dUnhide HD).trans hd3)
        have hs3 := hd3.size
        have ba3 : ∀ o, Below w3.heap.size w3 (w3.alloc o) := fun o => (Below.refl _ _).alloc (Nat.le_refl _) o
        have RO := dHide (rwV_one w3 ⟨m0, m1, m2⟩ 68 1 (by omega))
        have HO3 := dHide (ApR.below ho3 (ba3 (.cells #[.int .i64 m0, .int .i64 m1, .string m2] 68)))
        have hlt' := dHide hlt'
        clear hc3 hd3 HD ho3 hyb
        go_wp2_with (at_builtin; refine wp_apR elemEvent rfl _ _ rfl w1.heap.size _ xs rfl (dUnhide HO3) _ [⟨m0, m1, m2⟩] rfl (dUnhide RO) ?c1 ?c2 ?c3 ?_)
        case c1 => simp; omega
        case c2 => simp; omega
        case c3 => simp; omega
        intro v' w4 hown' hgrow _
        have hs4 : w1.heap.size ≤ w4.heap.size := by have := hgrow.size; simp at this; omega
        have HC4 := dHide (Rc.wr (Rc.below (dUnhide HC3) (ba3 (.cells #[.int .i64 m0, .int .i64 m1, .string m2] 68))) hgrow (fun e => by have := (dUnhide hlt' _ e); omega) (fun e => by have := (dUnhide hlt' _ e); omega))
        have HD4 := dHide (((dUnhide HD3).trans (Wr.of_below (ba3 (.cells #[.int .i64 m0, .int .i64 m1, .string m2] 68)))).grown hgrow (fun k hk => by have := (dUnhide hlt' k hk); omega))
        have hown4 := hown'
        clear hown' hgrow hlt' HC3 HD3 HO3 RO
        go_wp2
        go_roundw
        case rel => exact ⟨k + 1, xs ++ [(⟨m0, m1, m2⟩ : Ev)], p', ok', by go_num, by simp [hxl], by omega, by omega, fun h => by have := hpk h; omega, hpl, by rw [hj2]; exact (dUnhide HK4).1, (dUnhide HK4).2, hown4, HC4, HD4, hs4⟩
        case measure => simp [intOf]; omega
    · have G := dHide (dUnhide GO (fun h => by omega))
      clear GO HK HZ HC HD CN HV
      go_wp2
      go_ret
      obtain ⟨u, xs, ga, gb⟩ := dUnhide G
      exact ⟨u, ga, xs, gb⟩
theorem rdEs_ok {bs : List UInt8} {n q : Nat} {ok : Bool} (h : (rdEs bs n q ok).2.2 = true) : ok = true := by
  cases ok
  · rw [rdEs_off] at h; cases h
  · rfl
set_option maxHeartbeats 4000000 in
theorem reader_any (ab : Nat) (v : Value) (bs : List UInt8) (w : World) (hc : Rc w ab v 0 true) (HV : ∀ W, Wr ab (ab + 2) w W → Bs W v bs) (hl : bs.length ≤ 1048576) (hne : bs = [] ∨ blockOf v ≠ ab) :
    Calls Tryd.prog 58 #[.pointer (some ⟨ab + 1, 0, none⟩)] w fun e w' => ∃ (x y : Int) (ua : Option Addr) (n c : Nat) (m : Rr), e = .returned (.agg #[.int .i64 x, .int .i64 y, .slice ua n c]) ∧ (x = m.epoch ∧ y = m.off ∧ n = m.out.length ∧ ApV w' w.heap.size (.slice ua m.out.length c) m.out) ∧ ((rdRd bs).2.2 = true → m = rdRm bs) ∧ Rc w' ab v (rdRd bs).2.1 (rdRd bs).2.2 ∧ Wr ab (ab + 2) w w' := by
  have hab := hc.lt
  have ba : Below w.heap.size w (w.alloc (.cells #[.int .i64 0, .int .i64 0, .slice none 0 0] 36)) := (Below.refl _ _).alloc (Nat.le_refl _) _
  have Z0 := BxZ.new (B := w.heap.size) w [.int .i64 0, .int .i64 0, .slice none 0 0] 36 (Nat.le_refl _)
  have HV := dHide HV
  have CN := dHide fun q ok W (hd : Wr ab (ab + 2) w W) (hc : Rc W ab v q ok) => number_any ab v bs q ok W hc (dUnhide HV W hd) hne
  have CL := dHide fun q ok W (hd : Wr ab (ab + 2) w W) (hc : Rc W ab v q ok) (hq : q ≤ bs.length) => listOfE_any ab v bs q ok W hc (fun W' hW' => dUnhide HV W' (hd.trans hW')) hl hq hne
  have W0 := Wr.of_below (lo := ab) (hi := ab + 2) ba
  have V0 := Wr.refl ab (ab + 2) (w.alloc (.cells #[.int .i64 0, .int .i64 0, .slice none 0 0] 36))
  have hs0 : (w.alloc (.cells #[.int .i64 0, .int .i64 0, .slice none 0 0] 36)).heap.size = w.heap.size + 1 := by simp
  have C1 := dHide fun (W : World) (hd : Wr ab (ab + 2) w W) (hc : Rc W ab v 0 true) => (show Calls Tryd.prog 67 #[.pointer (some ⟨ab + 1, 0, none⟩)] W fun e w' => ∃ x : Int, e = .returned (.int .i64 x) ∧ (0 ≤ x ∧ x ≤ 9223372036854775807) ∧ ((rdRa bs).2.2 = true → x = (rdRa bs).1) ∧ Rc w' ab v (rdRa bs).2.1 (rdRa bs).2.2 ∧ Wr ab (ab + 2) W w' from dUnhide CN 0 true W hd hc)
  have C2 := dHide fun (W : World) (hd : Wr ab (ab + 2) w W) (hc : Rc W ab v (rdRa bs).2.1 (rdRa bs).2.2) => (show Calls Tryd.prog 67 #[.pointer (some ⟨ab + 1, 0, none⟩)] W fun e w' => ∃ x : Int, e = .returned (.int .i64 x) ∧ (0 ≤ x ∧ x ≤ 9223372036854775807) ∧ ((rdRb bs).2.2 = true → x = (rdRb bs).1) ∧ Rc w' ab v (rdRb bs).2.1 (rdRb bs).2.2 ∧ Wr ab (ab + 2) W w' from dUnhide CN (rdRa bs).2.1 (rdRa bs).2.2 W hd hc)
  have la := rdN_le bs 0 true (Nat.zero_le _)
  have lb := rdN_le bs (rdRa bs).2.1 (rdRa bs).2.2 la
  have C3 := dHide fun (W : World) (hd : Wr ab (ab + 2) w W) (hc : Rc W ab v (rdRb bs).2.1 (rdRb bs).2.2) => (show Calls Tryd.prog 78 #[.pointer (some ⟨ab + 1, 0, none⟩), .func (.func 79) #[.pointer (some ⟨ab + 1, 0, none⟩)] #[]] W fun e w' => ∃ u xs, e = .returned u ∧ ApV w' W.heap.size u xs ∧ ((rdRd bs).2.2 = true → xs = (rdRd bs).1) ∧ Rc w' ab v (rdRd bs).2.1 (rdRd bs).2.2 ∧ Wr ab (ab + 2) W w' from dUnhide CL (rdRb bs).2.1 (rdRb bs).2.2 W hd hc lb)
  have K1 : Hid ((rdRb bs).2.2 = true → (rdRa bs).2.2 = true) := rdN_ok
  have K2 : Hid ((rdRd bs).2.2 = true → (rdRb bs).2.2 = true) := fun h => rdN_ok (rdEs_ok h)
  have EM : Hid (rdRm bs = ⟨(rdRa bs).1, (rdRb bs).1, (rdRd bs).1⟩) := rfl
  generalize rdRm bs = MM at *
  generalize rdRd bs = MD at *
  generalize rdRb bs = MB at *
  generalize rdRa bs = MA at *
  have hc0 := hc.below ba
  clear CN CL hc la lb
  go_enter Tryd.func58, Tryd.ntmps58
  go_upto_region 1 with fail
  generalize w.alloc (.cells #[.int .i64 0, .int .i64 0, .slice none 0 0] 36) = w0 at *
  have D1 := dHide (dUnhide C1 w0 W0 hc0)
  clear C1 hc0
  go_wp2_with fail
  refine (dUnhide D1).mono ?_
  rintro e w1 ⟨x0, rfl, hb0, hx0, hc1, hw1⟩
  have W1 := W0.trans hw1
  have V1 := V0.trans hw1
  have D2 := dHide (dUnhide C2 w1 W1 hc1)
  have HX0 := dHide hx0
  clear D1 C2 hc1 hw1 hx0
  go_wp2_with fail
  refine (dUnhide D2).mono ?_
  rintro e w2 ⟨x1, rfl, hb1, hx1, hc2, hw2⟩
  have W2 := W1.trans hw2
  have V2 := V1.trans hw2
  have D3 := dHide (dUnhide C3 w2 W2 hc2)
  have HX1 := dHide hx1
  have hs2 := V2.size
  clear D2 C3 hc2 hw2 hx1
  go_wp2_with fail
  refine (dUnhide D3).mono ?_
  rintro e w3 ⟨u, xs, rfl, ha, hx2, hc3, hw3⟩
  have W3 := W2.trans hw3
  have V3 := V2.trans hw3
  have HX2 := dHide hx2
  have hs3 := W3.size
  have Z3 : BxZ w3 w.heap.size w.heap.size [.int .i64 0, .int .i64 0, .slice none 0 0] := Z0.wrZ V3 hab
  obtain ⟨ua, uc, rfl⟩ := ApR.slice elemEvent ha
  have HA := dHide ha
  clear D3 hx2 hw3 W1 W2 ha
  go_wp2_with (refine wp_putW rfl _ _ _ rfl rfl [.int .i64 x0, .int .i64 x1, .slice ua xs.length uc] rfl rfl Z3 rfl (by kernel_rfl) (by kernel_rfl) ?_; intro w4 Y4 s4 g4 b4)
  refine bodyPost_ret (results_box Tryd.results58 _ _ _ [.int .i64 x0, .int .i64 x1, .slice ua xs.length uc] _ rfl Y4.bx Tryd.underlying36 rfl (by kernel_rfl)) rfl ⟨x0, x1, ua, xs.length, uc, ⟨x0, x1, xs⟩, rfl, ⟨rfl, rfl, rfl, ?_⟩, fun h => ?_, ?_, W3.new (Nat.le_refl _) g4 s4 b4⟩
  · exact ApR.mono (ApV.farO _ _ _ w3 w4 (dUnhide HA) (by rw [s4]; exact Nat.le_refl _) (fun k h1 h2 => g4 k (by omega))) (by omega)
  · have h2 := dUnhide K2 h
    rw [dUnhide EM, dUnhide HX0 (dUnhide K1 h2), dUnhide HX1 h2, dUnhide HX2 h]
  · exact hc3.wr (row := some w.heap.size) ⟨b4.os, b4.tape, b4.output, by rw [s4]; exact Nat.le_refl _, fun k hk hn => g4 k (by rintro rfl; exact hn rfl)⟩ (by intro e; simp only [Option.some.injEq] at e; omega) (by intro e; simp only [Option.some.injEq] at e; omega)
end Go.Proofs.YthndkkjgjhgdnaaDoor
