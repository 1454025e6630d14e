/- Records as bytes: what impl reads as a config, and whether it is one (printed by tools/mkpr.py). -/
import Derived.Test.YthndkkjgjhgdnaaDoorHr1
import Derived.Deep.RegionHeld3
import Derived.Deep.DeepCutAuto
namespace Go.Proofs.YthndkkjgjhgdnaaDoor
open Go.ChangeShapes Go.WideShapes Go.ChangeAt Go.RowKit
set_option linter.unusedVariables false
set_option linter.unusedSimpArgs false
set_option maxRecDepth 100000

set_option maxHeartbeats 8000000 in
theorem recordInConfig (v : Value) (bs : List UInt8) (O : Nat → (List Int × Int) → Value → World → Prop) (hO : ∀ b m u, FarO b (O b m u)) (hOm : ∀ b b' m u W, b ≤ b' → O b' m u W → O b m u W) (M : (List Int × Int)) (P : (List Int × Int) → Prop) (q2 : Nat) (ok2 : Bool) (w : World) (hv : Bs w v bs) (hl : bs.length ≤ 1048576) (hq : ok2 = true → q2 ≤ bs.length)
    (HRD : ∀ W ab, Below w.heap.size w W → w.heap.size ≤ ab → Rc W ab v 0 true → Calls Tryd.prog 46 #[.pointer (some ⟨ab + 1, 0, none⟩)] W fun e w' => ∃ (ua : Option Addr) (n c : Nat) (x : Int) (m : (List Int × Int)), e = .returned (.agg #[.slice ua n c, .int .i64 x]) ∧ O W.heap.size m (.agg #[.slice ua n c, .int .i64 x]) w' ∧ (ok2 = true → m = M) ∧ Rc w' ab v q2 ok2 ∧ Wr ab (ab + 2) W w')
    (HOK : ∀ W (ua : Option Addr) (n c : Nat) (x : Int), Below w.heap.size w W → ok2 = true → O w.heap.size M (.agg #[.slice ua n c, .int .i64 x]) W → Calls Tryd.prog 44 #[.agg #[.slice ua n c, .int .i64 x]] W fun e w' => RetB (P M) e ∧ Below W.heap.size W w') :
    Calls Tryd.prog 48 #[.agg #[.func (.func 44) #[] #[], .func (.func 45) #[] #[], .func (.func 46) #[] #[]], v] w fun e w' => ∃ (ua : Option Addr) (n c : Nat) (x : Int) (err : Value), e = .returned (.tuple #[.agg #[.slice ua n c, .int .i64 x], err]) ∧ RecPost (O w.heap.size) (RdG ok2 q2 bs.length (P M)) M w (.agg #[.slice ua n c, .int .i64 x]) err w' := by
  have ba : ∀ (w : World) o, Below w.heap.size w (w.alloc o) := fun w o => (Below.refl _ _).alloc (Nat.le_refl _) o
  have HV := dHide fun W (hb : Below w.heap.size w W) => hv.below hb
  replace HRD := dHide HRD
  replace HOK := dHide HOK
  replace hO := dHide hO
  replace hOm := dHide hOm
  obtain ⟨-, va, vcp, rfl, -⟩ := hv
  have e1 : (w.alloc (.cells #[.func (.func 44) #[] #[], .func (.func 45) #[] #[], .func (.func 46) #[] #[]] 49)).heap.size = w.heap.size + 1 := by simp
  have X0 := (Bx.new w [.func (.func 44) #[] #[], .func (.func 45) #[] #[], .func (.func 46) #[] #[]] 49).below (ba _ (.cells #[.slice none 0 0, .int .i64 0] 26))
  have Z0 := BxZ.new (B := w.heap.size) (w.alloc (.cells #[.func (.func 44) #[] #[], .func (.func 45) #[] #[], .func (.func 46) #[] #[]] 49)) [.slice none 0 0, .int .i64 0] 26 (by simp)
  rw [e1] at Z0
  have B0 := belowThen (ba w (.cells #[.func (.func 44) #[] #[], .func (.func 45) #[] #[], .func (.func 46) #[] #[]] 49)) (ba _ (.cells #[.slice none 0 0, .int .i64 0] 26))
  have e2 : ((w.alloc (.cells #[.func (.func 44) #[] #[], .func (.func 45) #[] #[], .func (.func 46) #[] #[]] 49)).alloc (.cells #[.slice none 0 0, .int .i64 0] 26)).heap.size = w.heap.size + 2 := by simp
  obtain ⟨ab, hab⟩ : ∃ ab, w.heap.size + 2 = ab := ⟨_, rfl⟩
  have e2' := e2.trans hab
  have CN := dHide ((newReader_any (.slice va bs.length vcp) bs ((w.alloc (.cells #[.func (.func 44) #[] #[], .func (.func 45) #[] #[], .func (.func 46) #[] #[]] 49)).alloc (.cells #[.slice none 0 0, .int .i64 0] 26)) (dUnhide HV _ B0)).mono fun e w' h => (⟨by rw [← e2']; exact h.1, by rw [← e2']; exact h.2.1, h.2.2⟩ : e = .returned (.pointer (some ⟨ab + 1, 0, none⟩)) ∧ Rc w' ab (.slice va bs.length vcp) 0 true ∧ Below ((w.alloc (.cells #[.func (.func 44) #[] #[], .func (.func 45) #[] #[], .func (.func 46) #[] #[]] 49)).alloc (.cells #[.slice none 0 0, .int .i64 0] 26)).heap.size ((w.alloc (.cells #[.func (.func 44) #[] #[], .func (.func 45) #[] #[], .func (.func 46) #[] #[]] 49)).alloc (.cells #[.slice none 0 0, .int .i64 0] 26)) w'))
  clear e1 e2
  go_enter Tryd.func48, Tryd.ntmps48
  go_upto_region 1 with fail
  generalize (w.alloc (.cells #[.func (.func 44) #[] #[], .func (.func 45) #[] #[], .func (.func 46) #[] #[]] 49)).alloc (.cells #[.slice none 0 0, .int .i64 0] 26) = w0 at *
  go_wp2_with fail
  refine (dUnhide CN).mono ?_
  rintro e w1 ⟨rfl, hc1, b1⟩
  have B1 := belowThen B0 b1
  have X1 := X0.below b1
  have Z1 := dHide (Z0.below b1)
  have k2 := X1 2 _ rfl
  have HX1 := dHide X1
  have hs1 := b1.size
  have hs0 := e2'
  have C2 := dHide (dUnhide HRD w1 ab B1 (by omega) hc1)
  have hlt1 := hc1.lt
  clear CN X0 Z0 B0 b1 X1 hc1 HRD
  go_wp2_with fail
  refine (dUnhide C2).mono ?_
  rintro e w2 ⟨ua, n, c, x, m, rfl, hm2, hmM, hc2, hw2⟩
  have B2 : Below w.heap.size w w2 := hw2.below B1 (by omega) (by omega)
  have hs2 := hw2.size
  have Z2 := (dUnhide Z1)
  have Z2 : BxZ w2 w.heap.size (w.heap.size + 1) [.slice none 0 0, .int .i64 0] := ⟨Z2.1, fun i u hu => ⟨(World.cell?_of_block (a := ⟨w.heap.size + 1, i, none⟩) (hw2.block _ (dCell_lt (Z2.2 i u hu).1) (.inl (by simp only; omega)))).trans (Z2.2 i u hu).1, (World.frozen?_of_block (a := ⟨w.heap.size + 1, i, none⟩) (hw2.block _ (dCell_lt (Z2.2 i u hu).1) (.inl (by simp only; omega)))).trans (Z2.2 i u hu).2⟩⟩
  have X2 : Bx w2 w.heap.size [.func (.func 44) #[] #[], .func (.func 45) #[] #[], .func (.func 46) #[] #[]] := fun i u hu => (World.cell?_of_block (a := ⟨w.heap.size, i, none⟩) (hw2.block _ (dCell_lt ((dUnhide HX1) i u hu)) (.inl (by simp only; omega)))).trans ((dUnhide HX1) i u hu)
  have b3 := ba w2 (.cells #[.slice ua n c, .int .i64 x] 26)
  have R3 := Bx.new w2 [.slice ua n c, .int .i64 x] 26
  have B3 := belowThen B2 b3
  have Z3 := dHide (Z2.below b3)
  have X3 := X2.below b3
  have hc3 := hc2.below b3
  have O3 := dHide ((dUnhide hO) _ _ _ _ _ hm2 b3.size (fun k _ hk => b3.block k hk))
  have hs3 : (w2.alloc (.cells #[.slice ua n c, .int .i64 x] 26)).heap.size = w2.heap.size + 1 := by simp
  have HM := dHide hmM
  clear C2 k2 HX1 Z1 B1 hw2 B2 Z2 X2 b3 hc2 hm2 hmM
  have HF := dHide fun (W : World) (hs : w2.heap.size + 1 ≤ W.heap.size) (hk : ∀ k, k < w2.heap.size + 1 → k < ab ∨ ab + 2 ≤ k → W.heap[k]? = (w2.alloc (.cells #[.slice ua n c, .int .i64 x] 26)).heap[k]?) (hb : Below w.heap.size w W) =>
    (⟨(dUnhide hO) _ _ _ _ W (dUnhide O3) (by rw [hs3]; exact hs) (fun k h1 h2 => hk k (by rw [hs3] at h2; exact h2) (.inr (by omega))),
      fun i u hu => (World.cell?_of_block (a := ⟨w2.heap.size, i, none⟩) (hk _ (by simp only; omega) (.inr (by simp only; omega)))).trans (R3 i u hu),
      ⟨(dUnhide Z3).1, fun i u hu => ⟨(World.cell?_of_block (a := ⟨w.heap.size + 1, i, none⟩) (hk _ (by simp only; omega) (.inl (by simp only; omega)))).trans ((dUnhide Z3).2 i u hu).1, (World.frozen?_of_block (a := ⟨w.heap.size + 1, i, none⟩) (hk _ (by simp only; omega) (.inl (by simp only; omega)))).trans ((dUnhide Z3).2 i u hu).2⟩⟩,
      fun i u hu => (World.cell?_of_block (a := ⟨w.heap.size, i, none⟩) (hk _ (by simp only; omega) (.inl (by simp only; omega)))).trans (X3 i u hu), hb⟩ :
      O w1.heap.size m (.agg #[.slice ua n c, .int .i64 x]) W ∧ Bx W w2.heap.size [.slice ua n c, .int .i64 x] ∧ BxZ W w.heap.size (w.heap.size + 1) [.slice none 0 0, .int .i64 0] ∧ Bx W w.heap.size [.func (.func 44) #[] #[], .func (.func 45) #[] #[], .func (.func 46) #[] #[]] ∧ Below w.heap.size w W)
  have HF3 := dHide (dUnhide HF _ (by rw [hs3]; exact Nat.le_refl _) (fun _ _ _ => rfl) B3)
  have HFW := dHide fun (W : World) (hw : Wr ab (ab + 2) (w2.alloc (.cells #[.slice ua n c, .int .i64 x] 26)) W) => dUnhide HF W (by have := hw.size; rw [hs3] at this; exact this) (fun k hk hn => hw.block k (by rw [hs3]; exact hk) hn) (hw.below B3 (by rw [hs3]; omega) (by omega))
  clear Z3 R3 X3 O3 B3
  have HFIN := dHide fun (W : World) (oF : O w1.heap.size m (.agg #[.slice ua n c, .int .i64 x]) W) (zF : BxZ W w.heap.size (w.heap.size + 1) [.slice none 0 0, .int .i64 0]) (bF : Below w.heap.size w W) =>
    (⟨(dUnhide hOm) w.heap.size w1.heap.size m _ _ (by omega) ((dUnhide hO) _ _ _ W ((W.setCell ⟨w.heap.size + 1, 0, none⟩ (.slice ua n c)).setCell ⟨w.heap.size + 1, 1, none⟩ (.int .i64 x)).drew oF (by simp) (fun k h1 h2 => by
      show ((W.setCell ⟨w.heap.size + 1, 0, none⟩ (.slice ua n c)).setCell ⟨w.heap.size + 1, 1, none⟩ (.int .i64 x)).heap[k]? = _
      rw [Below.heap_setCell _ _ _ k (by simp only; omega), Below.heap_setCell _ _ _ k (by simp only; omega)])), (show BxZ ((W.setCell ⟨w.heap.size + 1, 0, none⟩ (.slice ua n c)).setCell ⟨w.heap.size + 1, 1, none⟩ (.int .i64 x)) _ _ _ from ((zF.put 0 (.slice ua n c)).put 1 (.int .i64 x))).drew', (show Below _ _ ((W.setCell ⟨w.heap.size + 1, 0, none⟩ (.slice ua n c)).setCell ⟨w.heap.size + 1, 1, none⟩ (.int .i64 x)) from (Below.setCell (p := ⟨w.heap.size + 1, 1, none⟩) (Below.setCell (p := ⟨w.heap.size + 1, 0, none⟩) bF (by simp only; omega) (.slice ua n c)) (by simp only; omega) (.int .i64 x))).drew⟩ :
      O w.heap.size m (.agg #[.slice ua n c, .int .i64 x]) ((W.setCell ⟨w.heap.size + 1, 0, none⟩ (.slice ua n c)).setCell ⟨w.heap.size + 1, 1, none⟩ (.int .i64 x)).drew ∧ BxZ ((W.setCell ⟨w.heap.size + 1, 0, none⟩ (.slice ua n c)).setCell ⟨w.heap.size + 1, 1, none⟩ (.int .i64 x)).drew w.heap.size (w.heap.size + 1) [.slice ua n c, .int .i64 x] ∧ Below w.heap.size w ((W.setCell ⟨w.heap.size + 1, 0, none⟩ (.slice ua n c)).setCell ⟨w.heap.size + 1, 1, none⟩ (.int .i64 x)).drew)
  cases ok2 with
  | true =>
    have h3 := hc3.isYes
    have hq2 := hq rfl
    obtain rfl := dUnhide HM rfl
    have d1 := (h3.1.2 1 _ rfl).1
    have d2 := (h3.1.2 2 _ rfl).1
    have dy := h3.2.1
    by_cases hlt : (q2 : Int) < (bs.length : Int)
    · go_upto_region 4 with fail
      generalize w2.alloc (.cells #[.slice ua n c, .int .i64 x] 26) = w3 at *
      have CR := dHide (refuse_new ab _ _ (q2 : Int) w3 h3)
      clear d2
      go_wp2_with fail
      refine (dUnhide CR).mono ?_
      rintro e w4 ⟨rfl, hc4, hw4⟩
      obtain ⟨oF, rF, zF, xF, bF⟩ := dUnhide HFW w4 hw4
      have dw := (hc4.1.2 2 _ rfl).1
      unfold wrg at dw
      have r0 := rF 0 _ rfl
      have r1 := rF 1 _ rfl
      obtain ⟨z0, y0⟩ := zF.2 0 _ rfl
      obtain ⟨z1, y1⟩ := zF.2 1 _ rfl
      have FIN := dHide (dUnhide HFIN _ oF zF bF)
      go_wp2_with fail
      go_region
      go_wp2
      have fin := dUnhide FIN
      generalize ((w4.setCell ⟨w.heap.size + 1, 0, none⟩ (.slice ua n c)).setCell ⟨w.heap.size + 1, 1, none⟩ (.int .i64 x)).drew = V at *
      obtain ⟨o, r, b⟩ := fin
      have q0 := (r.2 0 _ rfl).1
      have q1 := (r.2 1 _ rfl).1
      exact bodyPost_ret (v := .tuple #[.agg #[.slice ua n c, .int .i64 x], .iface 86 (.agg #[.int .i64 ((q2 : Nat))])]) (by simp [results, Tryd.results48, go_sem, q0, q1]) rfl ⟨_, _, _, _, _, rfl, _, o, (fun h => absurd h.2.1 (by omega)), (fun _ => ⟨_, rfl⟩), b⟩
    · have hql : q2 = bs.length := by omega
      obtain ⟨oF3, rF3, zF3, xF3, bF3⟩ := dUnhide HF3
      go_upto_region 5 with fail
      generalize w2.alloc (.cells #[.slice ua n c, .int .i64 x] 26) = w3 at *
      have c0 := rF3 0 _ rfl
      have c1 := rF3 1 _ rfl
      have x0 := xF3 0 _ rfl
      have CK := dHide (dUnhide HOK w3 ua n c x bF3 (by first | trivial | rfl) ((dUnhide hOm) _ w1.heap.size _ _ _ (by omega) oF3))
      clear oF3 rF3 zF3 xF3 bF3 HF3
      go_wp2_with fail
      refine (dUnhide CK).mono ?_
      rintro e w4 ⟨hr, b4⟩
      have h4 := h3.below b4
      by_cases hP : P m
      · obtain rfl := hr.of_yes hP
        obtain ⟨oF, rF, zF, xF, bF⟩ := dUnhide HFW w4 (Wr.of_below b4)
        have dw := (h4.1.2 2 _ rfl).1
        have r0 := rF 0 _ rfl
        have r1 := rF 1 _ rfl
        obtain ⟨z0, y0⟩ := zF.2 0 _ rfl
        obtain ⟨z1, y1⟩ := zF.2 1 _ rfl
        have FIN := dHide (dUnhide HFIN _ oF zF bF)
        clear hr CK h3 d1 d2 dy x0 c0 c1
        go_wp2_with fail
        go_region
        go_wp2
        have fin := dUnhide FIN
        generalize ((w4.setCell ⟨w.heap.size + 1, 0, none⟩ (.slice ua n c)).setCell ⟨w.heap.size + 1, 1, none⟩ (.int .i64 x)).drew = V at *
        obtain ⟨o, r, b⟩ := fin
        have q0 := (r.2 0 _ rfl).1
        have q1 := (r.2 1 _ rfl).1
        exact bodyPost_ret (v := .tuple #[.agg #[.slice ua n c, .int .i64 x], .nilIface]) (by simp [results, Tryd.results48, go_sem, q0, q1]) rfl ⟨_, _, _, _, _, rfl, _, o, (fun _ => ⟨rfl, rfl⟩), (fun h => absurd ⟨rfl, hql, hP⟩ h), b⟩
      · obtain rfl := hr.of_no hP
        have CR := dHide (refuse_new ab _ _ 0 w4 h4)
        clear hr CK h3 d1 d2 dy x0 c0 c1
        go_wp2_with fail
        refine (dUnhide CR).mono ?_
        rintro e w5 ⟨rfl, hc5, hw5⟩
        obtain ⟨oF, rF, zF, xF, bF⟩ := dUnhide HFW w5 ((Wr.of_below b4).trans hw5)
        have dw := (hc5.1.2 2 _ rfl).1
        unfold wrg at dw
        have r0 := rF 0 _ rfl
        have r1 := rF 1 _ rfl
        obtain ⟨z0, y0⟩ := zF.2 0 _ rfl
        obtain ⟨z1, y1⟩ := zF.2 1 _ rfl
        have FIN := dHide (dUnhide HFIN _ oF zF bF)
        go_wp2_with fail
        go_region
        go_wp2
        have fin := dUnhide FIN
        generalize ((w5.setCell ⟨w.heap.size + 1, 0, none⟩ (.slice ua n c)).setCell ⟨w.heap.size + 1, 1, none⟩ (.int .i64 x)).drew = V at *
        obtain ⟨o, r, b⟩ := fin
        have q0 := (r.2 0 _ rfl).1
        have q1 := (r.2 1 _ rfl).1
        exact bodyPost_ret (v := .tuple #[.agg #[.slice ua n c, .int .i64 x], .iface 86 (.agg #[.int .i64 (0)])]) (by simp [results, Tryd.results48, go_sem, q0, q1]) rfl ⟨_, _, _, _, _, rfl, _, o, (fun h => absurd h.2.2 hP), (fun _ => ⟨_, rfl⟩), b⟩
  | false =>
    obtain ⟨p, y, h3⟩ := hc3.isNo
    have d1 := (h3.1.2 1 _ rfl).1
    have d2 := (h3.1.2 2 _ rfl).1
    have dy := h3.2.1
    have CR := dHide (refuse_old ab _ y y p _ h3)
    obtain ⟨oF, rF, zF, xF, bF⟩ := dUnhide HF3
    unfold wrg at d2
    by_cases hlt : y < (bs.length : Int)
    · go_upto_region 4 with fail
      generalize w2.alloc (.cells #[.slice ua n c, .int .i64 x] 26) = w3 at *
      go_wp2_with fail
      refine (dUnhide CR).mono ?_
      rintro e w4 ⟨rfl, rfl⟩
      have r0 := rF 0 _ rfl
      have r1 := rF 1 _ rfl
      obtain ⟨z0, y0⟩ := zF.2 0 _ rfl
      obtain ⟨z1, y1⟩ := zF.2 1 _ rfl
      have FIN := dHide (dUnhide HFIN _ oF zF bF)
      go_wp2_with fail
      go_region
      go_wp2
      have fin := dUnhide FIN
      generalize ((w4.setCell ⟨w.heap.size + 1, 0, none⟩ (.slice ua n c)).setCell ⟨w.heap.size + 1, 1, none⟩ (.int .i64 x)).drew = V at *
      obtain ⟨o, r, b⟩ := fin
      have q0 := (r.2 0 _ rfl).1
      have q1 := (r.2 1 _ rfl).1
      exact bodyPost_ret (v := .tuple #[.agg #[.slice ua n c, .int .i64 x], .iface 86 (.agg #[.int .i64 (p)])]) (by simp [results, Tryd.results48, go_sem, q0, q1]) rfl ⟨_, _, _, _, _, rfl, _, o, (fun h => by cases h.1), (fun _ => ⟨_, rfl⟩), b⟩
    · go_upto_region 5 with fail
      generalize w2.alloc (.cells #[.slice ua n c, .int .i64 x] 26) = w3 at *
      have r0 := rF 0 _ rfl
      have r1 := rF 1 _ rfl
      obtain ⟨z0, y0⟩ := zF.2 0 _ rfl
      obtain ⟨z1, y1⟩ := zF.2 1 _ rfl
      have FIN := dHide (dUnhide HFIN _ oF zF bF)
      go_wp2_with fail
      go_region
      go_wp2
      have fin := dUnhide FIN
      generalize ((w3.setCell ⟨w.heap.size + 1, 0, none⟩ (.slice ua n c)).setCell ⟨w.heap.size + 1, 1, none⟩ (.int .i64 x)).drew = V at *
      obtain ⟨o, r, b⟩ := fin
      have q0 := (r.2 0 _ rfl).1
      have q1 := (r.2 1 _ rfl).1
      exact bodyPost_ret (v := .tuple #[.agg #[.slice ua n c, .int .i64 x], .iface 86 (.agg #[.int .i64 (p)])]) (by simp [results, Tryd.results48, go_sem, q0, q1]) rfl ⟨_, _, _, _, _, rfl, _, o, (fun h => by cases h.1), (fun _ => ⟨_, rfl⟩), b⟩
end Go.Proofs.YthndkkjgjhgdnaaDoor
