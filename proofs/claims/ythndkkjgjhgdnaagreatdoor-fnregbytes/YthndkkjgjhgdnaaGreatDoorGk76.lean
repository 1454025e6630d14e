/- Several texts in one: PrH, PuH, PrI, PvH, RgM, RgN, RgO. -/
import Derived.Test.YthndkkjgjhgdnaaGreatDoorGk72
import Derived.Test.YthndkkjgjhgdnaaGreatDoorGk75
import Derived.Deep.RegionHeld3
import Derived.Deep.DeepCutAuto
import Derived.Test.YthndkkjgjhgdnaaGreatDoorGk68
import Derived.Test.YthndkkjgjhgdnaaGreatDoorGk74
import Derived.Test.YthndkkjgjhgdnaaGreatDoorGk71
import Derived.Test.YthndkkjgjhgdnaaGreatDoorRgK
namespace Go.Proofs.YthndkkjgjhgdnaaGreatDoor
open Go.ChangeShapes Go.WideShapes Go.ChangeAt Go.RowKit
set_option linter.unusedVariables false
set_option linter.unusedSimpArgs false
set_option maxRecDepth 100000

set_option maxHeartbeats 8000000 in
theorem recordInRegister (cb : Nat) (v : Value) (bs : List UInt8) (O : Nat → Rg → Value → World → Prop) (hO : ∀ b m u, FarO b (O b m u)) (hOm : ∀ b b' m u W, b ≤ b' → O b' m u W → O b m u W) (M : Rg) (P : Rg → Prop) (q2 : Nat) (ok2 : Bool) (w : World) (hv : Bs w v bs) (hl : bs.length ≤ 1048576) (hq : ok2 = true → q2 ≤ bs.length)
    (HRD : ∀ W ab, Below w.heap.size w W → w.heap.size ≤ ab → Rc W ab v 0 true → Calls Tryz.prog 50 #[.pointer (some ⟨ab + 1, 0, none⟩)] W fun e w' => ∃ (ua : Option Addr) (n c : Nat) (x : Int) (m : Rg), e = .returned (.agg #[.slice ua n c, .int .i64 x]) ∧ O W.heap.size m (.agg #[.slice ua n c, .int .i64 x]) w' ∧ (ok2 = true → m = M) ∧ Rc w' ab v q2 ok2 ∧ Wr ab (ab + 2) W w')
    (HOK : ∀ W (ua : Option Addr) (n c : Nat) (x : Int), Below w.heap.size w W → ok2 = true → O w.heap.size M (.agg #[.slice ua n c, .int .i64 x]) W → Calls Tryz.prog 47 #[.agg #[.slice ua n c, .int .i64 x], .pointer (some ⟨cb, 0, none⟩)] W fun e w' => RetB (P M) e ∧ Below W.heap.size W w') :
    Calls Tryz.prog 55 #[.agg #[.func (.func 47) #[] #[.pointer (some ⟨cb, 0, none⟩)], .func (.func 49) #[] #[], .func (.func 50) #[] #[]], v] w fun e w' => ∃ (ua : Option Addr) (n c : Nat) (x : Int) (err : Value), e = .returned (.tuple #[.agg #[.slice ua n c, .int .i64 x], err]) ∧ RecPost (O w.heap.size) (RdG ok2 q2 bs.length (P M)) M w (.agg #[.slice ua n c, .int .i64 x]) err w' := by
  have ba : ∀ (w : World) o, Below w.heap.size w (w.alloc o) := fun w o => (Below.refl _ _).alloc (Nat.le_refl _) o
  have HV := dHide fun W (hb : Below w.heap.size w W) => hv.below hb
  replace HRD := dHide HRD
  replace HOK := dHide HOK
  replace hO := dHide hO
  replace hOm := dHide hOm
  obtain ⟨-, va, vcp, rfl, -⟩ := hv
  have e1 : (w.alloc (.cells #[.func (.func 47) #[] #[.pointer (some ⟨cb, 0, none⟩)], .func (.func 49) #[] #[], .func (.func 50) #[] #[]] 51)).heap.size = w.heap.size + 1 := by simp
  have X0 := (Bx.new w [.func (.func 47) #[] #[.pointer (some ⟨cb, 0, none⟩)], .func (.func 49) #[] #[], .func (.func 50) #[] #[]] 51).below (ba _ (.cells #[.slice none 0 0, .int .i64 0] 29))
  have Z0 := BxZ.new (B := w.heap.size) (w.alloc (.cells #[.func (.func 47) #[] #[.pointer (some ⟨cb, 0, none⟩)], .func (.func 49) #[] #[], .func (.func 50) #[] #[]] 51)) [.slice none 0 0, .int .i64 0] 29 (by simp)
  rw [e1] at Z0
  have B0 := belowThen (ba w (.cells #[.func (.func 47) #[] #[.pointer (some ⟨cb, 0, none⟩)], .func (.func 49) #[] #[], .func (.func 50) #[] #[]] 51)) (ba _ (.cells #[.slice none 0 0, .int .i64 0] 29))
  have e2 : ((w.alloc (.cells #[.func (.func 47) #[] #[.pointer (some ⟨cb, 0, none⟩)], .func (.func 49) #[] #[], .func (.func 50) #[] #[]] 51)).alloc (.cells #[.slice none 0 0, .int .i64 0] 29)).heap.size = w.heap.size + 2 := by simp
  obtain ⟨ab, hab⟩ : ∃ ab, w.heap.size + 2 = ab := ⟨_, rfl⟩
  have e2' := e2.trans hab
  have CN := dHide ((newReader_any (.slice va bs.length vcp) bs ((w.alloc (.cells #[.func (.func 47) #[] #[.pointer (some ⟨cb, 0, none⟩)], .func (.func 49) #[] #[], .func (.func 50) #[] #[]] 51)).alloc (.cells #[.slice none 0 0, .int .i64 0] 29)) (dUnhide HV _ B0)).mono fun e w' h => (⟨by rw [← e2']; exact h.1, by rw [← e2']; exact h.2.1, h.2.2⟩ : e = .returned (.pointer (some ⟨ab + 1, 0, none⟩)) ∧ Rc w' ab (.slice va bs.length vcp) 0 true ∧ Below ((w.alloc (.cells #[.func (.func 47) #[] #[.pointer (some ⟨cb, 0, none⟩)], .func (.func 49) #[] #[], .func (.func 50) #[] #[]] 51)).alloc (.cells #[.slice none 0 0, .int .i64 0] 29)).heap.size ((w.alloc (.cells #[.func (.func 47) #[] #[.pointer (some ⟨cb, 0, none⟩)], .func (.func 49) #[] #[], .func (.func 50) #[] #[]] 51)).alloc (.cells #[.slice none 0 0, .int .i64 0] 29)) w'))
  clear e1 e2
  go_enter Tryz.func55, Tryz.ntmps55
  go_upto_region 1 with fail
  generalize (w.alloc (.cells #[.func (.func 47) #[] #[.pointer (some ⟨cb, 0, none⟩)], .func (.func 49) #[] #[], .func (.func 50) #[] #[]] 51)).alloc (.cells #[.slice none 0 0, .int .i64 0] 29) = w0 at *
  go_wp2_with fail
  refine (dUnhide CN).mono ?_
  rintro e w1 ⟨rfl, hc1, b1⟩
  have B1 := belowThen B0 b1
  have X1 := X0.below b1
  have Z1 := dHide (Z0.below b1)
  have k2 := X1 2 _ rfl
  have HX1 := dHide X1
  have hs1 := b1.size
  have hs0 := e2'
  have C2 := dHide (dUnhide HRD w1 ab B1 (by omega) hc1)
  have hlt1 := hc1.lt
  clear CN X0 Z0 B0 b1 X1 hc1 HRD
  go_wp2_with fail
  refine (dUnhide C2).mono ?_
  rintro e w2 ⟨ua, n, c, x, m, rfl, hm2, hmM, hc2, hw2⟩
  have B2 : Below w.heap.size w w2 := hw2.below B1 (by omega) (by omega)
  have hs2 := hw2.size
  have Z2 := (dUnhide Z1)
  have Z2 : BxZ w2 w.heap.size (w.heap.size + 1) [.slice none 0 0, .int .i64 0] := ⟨Z2.1, fun i u hu => ⟨(World.cell?_of_block (a := ⟨w.heap.size + 1, i, none⟩) (hw2.block _ (dCell_lt (Z2.2 i u hu).1) (.inl (by simp only; omega)))).trans (Z2.2 i u hu).1, (World.frozen?_of_block (a := ⟨w.heap.size + 1, i, none⟩) (hw2.block _ (dCell_lt (Z2.2 i u hu).1) (.inl (by simp only; omega)))).trans (Z2.2 i u hu).2⟩⟩
  have X2 : Bx w2 w.heap.size [.func (.func 47) #[] #[.pointer (some ⟨cb, 0, none⟩)], .func (.func 49) #[] #[], .func (.func 50) #[] #[]] := fun i u hu => (World.cell?_of_block (a := ⟨w.heap.size, i, none⟩) (hw2.block _ (dCell_lt ((dUnhide HX1) i u hu)) (.inl (by simp only; omega)))).trans ((dUnhide HX1) i u hu)
  have b3 := ba w2 (.cells #[.slice ua n c, .int .i64 x] 29)
  have R3 := Bx.new w2 [.slice ua n c, .int .i64 x] 29
  have B3 := belowThen B2 b3
  have Z3 := dHide (Z2.below b3)
  have X3 := X2.below b3
  have hc3 := hc2.below b3
  have O3 := dHide ((dUnhide hO) _ _ _ _ _ hm2 b3.size (fun k _ hk => b3.block k hk))
  have hs3 : (w2.alloc (.cells #[.slice ua n c, .int .i64 x] 29)).heap.size = w2.heap.size + 1 := by simp
  have HM := dHide hmM
  clear C2 k2 HX1 Z1 B1 hw2 B2 Z2 X2 b3 hc2 hm2 hmM
  have HF := dHide fun (W : World) (hs : w2.heap.size + 1 ≤ W.heap.size) (hk : ∀ k, k < w2.heap.size + 1 → k < ab ∨ ab + 2 ≤ k → W.heap[k]? = (w2.alloc (.cells #[.slice ua n c, .int .i64 x] 29)).heap[k]?) (hb : Below w.heap.size w W) =>
    (⟨(dUnhide hO) _ _ _ _ W (dUnhide O3) (by rw [hs3]; exact hs) (fun k h1 h2 => hk k (by rw [hs3] at h2; exact h2) (.inr (by omega))),
      fun i u hu => (World.cell?_of_block (a := ⟨w2.heap.size, i, none⟩) (hk _ (by simp only; omega) (.inr (by simp only; omega)))).trans (R3 i u hu),
      ⟨(dUnhide Z3).1, fun i u hu => ⟨(World.cell?_of_block (a := ⟨w.heap.size + 1, i, none⟩) (hk _ (by simp only; omega) (.inl (by simp only; omega)))).trans ((dUnhide Z3).2 i u hu).1, (World.frozen?_of_block (a := ⟨w.heap.size + 1, i, none⟩) (hk _ (by simp only; omega) (.inl (by simp only; omega)))).trans ((dUnhide Z3).2 i u hu).2⟩⟩,
      fun i u hu => (World.cell?_of_block (a := ⟨w.heap.size, i, none⟩) (hk _ (by simp only; omega) (.inl (by simp only; omega)))).trans (X3 i u hu), hb⟩ :
      O w1.heap.size m (.agg #[.slice ua n c, .int .i64 x]) W ∧ Bx W w2.heap.size [.slice ua n c, .int .i64 x] ∧ BxZ W w.heap.size (w.heap.size + 1) [.slice none 0 0, .int .i64 0] ∧ Bx W w.heap.size [.func (.func 47) #[] #[.pointer (some ⟨cb, 0, none⟩)], .func (.func 49) #[] #[], .func (.func 50) #[] #[]] ∧ Below w.heap.size w W)
  have HF3 := dHide (dUnhide HF _ (by rw [hs3]; exact Nat.le_refl _) (fun _ _ _ => rfl) B3)
  have HFW := dHide fun (W : World) (hw : Wr ab (ab + 2) (w2.alloc (.cells #[.slice ua n c, .int .i64 x] 29)) W) => dUnhide HF W (by have := hw.size; rw [hs3] at this; exact this) (fun k hk hn => hw.block k (by rw [hs3]; exact hk) hn) (hw.below B3 (by rw [hs3]; omega) (by omega))
  clear Z3 R3 X3 O3 B3
  have HFIN := dHide fun (W : World) (oF : O w1.heap.size m (.agg #[.slice ua n c, .int .i64 x]) W) (zF : BxZ W w.heap.size (w.heap.size + 1) [.slice none 0 0, .int .i64 0]) (bF : Below w.heap.size w W) =>
    (⟨(dUnhide hOm) w.heap.size w1.heap.size m _ _ (by omega) ((dUnhide hO) _ _ _ W ((W.setCell ⟨w.heap.size + 1, 0, none⟩ (.slice ua n c)).setCell ⟨w.heap.size + 1, 1, none⟩ (.int .i64 x)).drew oF (by simp) (fun k h1 h2 => by
      show ((W.setCell ⟨w.heap.size + 1, 0, none⟩ (.slice ua n c)).setCell ⟨w.heap.size + 1, 1, none⟩ (.int .i64 x)).heap[k]? = _
      rw [Below.heap_setCell _ _ _ k (by simp only; omega), Below.heap_setCell _ _ _ k (by simp only; omega)])), (show BxZ ((W.setCell ⟨w.heap.size + 1, 0, none⟩ (.slice ua n c)).setCell ⟨w.heap.size + 1, 1, none⟩ (.int .i64 x)) _ _ _ from ((zF.put 0 (.slice ua n c)).put 1 (.int .i64 x))).drew', (show Below _ _ ((W.setCell ⟨w.heap.size + 1, 0, none⟩ (.slice ua n c)).setCell ⟨w.heap.size + 1, 1, none⟩ (.int .i64 x)) from (Below.setCell (p := ⟨w.heap.size + 1, 1, none⟩) (Below.setCell (p := ⟨w.heap.size + 1, 0, none⟩) bF (by simp only; omega) (.slice ua n c)) (by simp only; omega) (.int .i64 x))).drew⟩ :
      O w.heap.size m (.agg #[.slice ua n c, .int .i64 x]) ((W.setCell ⟨w.heap.size + 1, 0, none⟩ (.slice ua n c)).setCell ⟨w.heap.size + 1, 1, none⟩ (.int .i64 x)).drew ∧ BxZ ((W.setCell ⟨w.heap.size + 1, 0, none⟩ (.slice ua n c)).setCell ⟨w.heap.size + 1, 1, none⟩ (.int .i64 x)).drew w.heap.size (w.heap.size + 1) [.slice ua n c, .int .i64 x] ∧ Below w.heap.size w ((W.setCell ⟨w.heap.size + 1, 0, none⟩ (.slice ua n c)).setCell ⟨w.heap.size + 1, 1, none⟩ (.int .i64 x)).drew)
  cases ok2 with
  | true =>
    have h3 := hc3.isYes
    have hq2 := hq rfl
    obtain rfl := dUnhide HM rfl
    have d1 := (h3.1.2 1 _ rfl).1
    have d2 := (h3.1.2 2 _ rfl).1
    have dy := h3.2.1
    by_cases hlt : (q2 : Int) < (bs.length : Int)
    · go_upto_region 4 with fail
      generalize w2.alloc (.cells #[.slice ua n c, .int .i64 x] 29) = w3 at *
      have CR := dHide (refuse_new ab _ _ (q2 : Int) w3 h3)
      clear d2
      go_wp2_with fail
      refine (dUnhide CR).mono ?_
      rintro e w4 ⟨rfl, hc4, hw4⟩
      obtain ⟨oF, rF, zF, xF, bF⟩ := dUnhide HFW w4 hw4
      have dw := (hc4.1.2 2 _ rfl).1
      unfold wrg at dw
      have r0 := rF 0 _ rfl
      have r1 := rF 1 _ rfl
      obtain ⟨z0, y0⟩ := zF.2 0 _ rfl
      obtain ⟨z1, y1⟩ := zF.2 1 _ rfl
      have FIN := dHide (dUnhide HFIN _ oF zF bF)
      go_wp2_with fail
      go_region
      go_wp2
      have fin := dUnhide FIN
      generalize ((w4.setCell ⟨w.heap.size + 1, 0, none⟩ (.slice ua n c)).setCell ⟨w.heap.size + 1, 1, none⟩ (.int .i64 x)).drew = V at *
      obtain ⟨o, r, b⟩ := fin
      have qq0 := (r.2 0 _ rfl).1
      have qq1 := (r.2 1 _ rfl).1
      exact bodyPost_ret (v := .tuple #[.agg #[.slice ua n c, .int .i64 x], .iface 105 (.agg #[.int .i64 ((q2 : Nat))])]) (by simp [results, Tryz.results55, go_sem, qq0, qq1]) rfl ⟨_, _, _, _, _, rfl, _, o, (fun h => absurd h.2.1 (by omega)), (fun _ => ⟨_, rfl⟩), b⟩
    · have hql : q2 = bs.length := by omega
      obtain ⟨oF3, rF3, zF3, xF3, bF3⟩ := dUnhide HF3
      go_upto_region 5 with fail
      generalize w2.alloc (.cells #[.slice ua n c, .int .i64 x] 29) = w3 at *
      have c0 := rF3 0 _ rfl
      have c1 := rF3 1 _ rfl
      have x0 := xF3 0 _ rfl
      have CK := dHide (dUnhide HOK w3 ua n c x bF3 (by first | trivial | rfl) ((dUnhide hOm) _ w1.heap.size _ _ _ (by omega) oF3))
      clear oF3 rF3 zF3 xF3 bF3 HF3
      go_wp2_with fail
      refine (dUnhide CK).mono ?_
      rintro e w4 ⟨hr, b4⟩
      have h4 := h3.below b4
      by_cases hP : P m
      · obtain rfl := hr.of_yes hP
        obtain ⟨oF, rF, zF, xF, bF⟩ := dUnhide HFW w4 (Wr.of_below b4)
        have dw := (h4.1.2 2 _ rfl).1
        have r0 := rF 0 _ rfl
        have r1 := rF 1 _ rfl
        obtain ⟨z0, y0⟩ := zF.2 0 _ rfl
        obtain ⟨z1, y1⟩ := zF.2 1 _ rfl
        have FIN := dHide (dUnhide HFIN _ oF zF bF)
        clear hr CK h3 d1 d2 dy x0 c0 c1
        go_wp2_with fail
        go_region
        go_wp2
        have fin := dUnhide FIN
        generalize ((w4.setCell ⟨w.heap.size + 1, 0, none⟩ (.slice ua n c)).setCell ⟨w.heap.size + 1, 1, none⟩ (.int .i64 x)).drew = V at *
        obtain ⟨o, r, b⟩ := fin
        have qq0 := (r.2 0 _ rfl).1
        have qq1 := (r.2 1 _ rfl).1
        exact bodyPost_ret (v := .tuple #[.agg #[.slice ua n c, .int .i64 x], .nilIface]) (by simp [results, Tryz.results55, go_sem, qq0, qq1]) rfl ⟨_, _, _, _, _, rfl, _, o, (fun _ => ⟨rfl, rfl⟩), (fun h => absurd ⟨rfl, hql, hP⟩ h), b⟩
      · obtain rfl := hr.of_no hP
        have CR := dHide (refuse_new ab _ _ 0 w4 h4)
        clear hr CK h3 d1 d2 dy x0 c0 c1
        go_wp2_with fail
        refine (dUnhide CR).mono ?_
        rintro e w5 ⟨rfl, hc5, hw5⟩
        obtain ⟨oF, rF, zF, xF, bF⟩ := dUnhide HFW w5 ((Wr.of_below b4).trans hw5)
        have dw := (hc5.1.2 2 _ rfl).1
        unfold wrg at dw
        have r0 := rF 0 _ rfl
        have r1 := rF 1 _ rfl
        obtain ⟨z0, y0⟩ := zF.2 0 _ rfl
        obtain ⟨z1, y1⟩ := zF.2 1 _ rfl
        have FIN := dHide (dUnhide HFIN _ oF zF bF)
        go_wp2_with fail
        go_region
        go_wp2
        have fin := dUnhide FIN
        generalize ((w5.setCell ⟨w.heap.size + 1, 0, none⟩ (.slice ua n c)).setCell ⟨w.heap.size + 1, 1, none⟩ (.int .i64 x)).drew = V at *
        obtain ⟨o, r, b⟩ := fin
        have qq0 := (r.2 0 _ rfl).1
        have qq1 := (r.2 1 _ rfl).1
        exact bodyPost_ret (v := .tuple #[.agg #[.slice ua n c, .int .i64 x], .iface 105 (.agg #[.int .i64 (0)])]) (by simp [results, Tryz.results55, go_sem, qq0, qq1]) rfl ⟨_, _, _, _, _, rfl, _, o, (fun h => absurd h.2.2 hP), (fun _ => ⟨_, rfl⟩), b⟩
  | false =>
    obtain ⟨p, y, h3⟩ := hc3.isNo
    have d1 := (h3.1.2 1 _ rfl).1
    have d2 := (h3.1.2 2 _ rfl).1
    have dy := h3.2.1
    have CR := dHide (refuse_old ab _ y y p _ h3)
    obtain ⟨oF, rF, zF, xF, bF⟩ := dUnhide HF3
    unfold wrg at d2
    by_cases hlt : y < (bs.length : Int)
    · go_upto_region 4 with fail
      generalize w2.alloc (.cells #[.slice ua n c, .int .i64 x] 29) = w3 at *
      go_wp2_with fail
      refine (dUnhide CR).mono ?_
      rintro e w4 ⟨rfl, rfl⟩
      have r0 := rF 0 _ rfl
      have r1 := rF 1 _ rfl
      obtain ⟨z0, y0⟩ := zF.2 0 _ rfl
      obtain ⟨z1, y1⟩ := zF.2 1 _ rfl
      have FIN := dHide (dUnhide HFIN _ oF zF bF)
      go_wp2_with fail
      go_region
      go_wp2
      have fin := dUnhide FIN
      generalize ((w4.setCell ⟨w.heap.size + 1, 0, none⟩ (.slice ua n c)).setCell ⟨w.heap.size + 1, 1, none⟩ (.int .i64 x)).drew = V at *
      obtain ⟨o, r, b⟩ := fin
      have qq0 := (r.2 0 _ rfl).1
      have qq1 := (r.2 1 _ rfl).1
      exact bodyPost_ret (v := .tuple #[.agg #[.slice ua n c, .int .i64 x], .iface 105 (.agg #[.int .i64 (p)])]) (by simp [results, Tryz.results55, go_sem, qq0, qq1]) rfl ⟨_, _, _, _, _, rfl, _, o, (fun h => by cases h.1), (fun _ => ⟨_, rfl⟩), b⟩
    · go_upto_region 5 with fail
      generalize w2.alloc (.cells #[.slice ua n c, .int .i64 x] 29) = w3 at *
      have r0 := rF 0 _ rfl
      have r1 := rF 1 _ rfl
      obtain ⟨z0, y0⟩ := zF.2 0 _ rfl
      obtain ⟨z1, y1⟩ := zF.2 1 _ rfl
      have FIN := dHide (dUnhide HFIN _ oF zF bF)
      go_wp2_with fail
      go_region
      go_wp2
      have fin := dUnhide FIN
      generalize ((w3.setCell ⟨w.heap.size + 1, 0, none⟩ (.slice ua n c)).setCell ⟨w.heap.size + 1, 1, none⟩ (.int .i64 x)).drew = V at *
      obtain ⟨o, r, b⟩ := fin
      have qq0 := (r.2 0 _ rfl).1
      have qq1 := (r.2 1 _ rfl).1
      exact bodyPost_ret (v := .tuple #[.agg #[.slice ua n c, .int .i64 x], .iface 105 (.agg #[.int .i64 (p)])]) (by simp [results, Tryz.results55, go_sem, qq0, qq1]) rfl ⟨_, _, _, _, _, rfl, _, o, (fun h => by cases h.1), (fun _ => ⟨_, rfl⟩), b⟩
end Go.Proofs.YthndkkjgjhgdnaaGreatDoor
namespace Go.Proofs.YthndkkjgjhgdnaaGreatDoor
open Go.ChangeShapes Go.WideShapes Go.ChangeAt Go.RowKit
set_option linter.unusedVariables false
set_option linter.unusedSimpArgs false
set_option maxRecDepth 100000

set_option maxHeartbeats 8000000 in
theorem unpackRegister (cb : Nat) (v : Value) (O : Nat → Rg → Value → World → Prop) (hO : ∀ b m u, FarO b (O b m u)) (hOm : ∀ b b' m u W, b ≤ b' → O b' m u W → O b m u W) (G : Prop) (M : Rg) (w : World) (hH : Hnd w)
    (CI : ∀ W, Below w.heap.size w W → Calls Tryz.prog 55 #[.agg #[.func (.func 47) #[] #[.pointer (some ⟨cb, 0, none⟩)], .func (.func 49) #[] #[], .func (.func 50) #[] #[]], v] W fun e w' => ∃ (ua : Option Addr) (n c : Nat) (x : Int) (err : Value), e = .returned (.tuple #[.agg #[.slice ua n c, .int .i64 x], err]) ∧ RecPost (O W.heap.size) G M W (.agg #[.slice ua n c, .int .i64 x]) err w') (va : Option Addr) (vn vcp : Nat) (hvv : v = .slice va vn vcp) :
    Calls Tryz.prog 26 #[.agg #[.func (.func 47) #[] #[.pointer (some ⟨cb, 0, none⟩)], .func (.func 49) #[] #[], .func (.func 50) #[] #[]], v] w fun e w' => ∃ (ua : Option Addr) (n c : Nat) (x : Int) (b : Bool), e = .returned (.tuple #[.agg #[.slice ua n c, .int .i64 x], .bool b]) ∧ UnPost (O w.heap.size) G M (.agg #[.slice none 0 0, .int .i64 0]) w (.agg #[.slice ua n c, .int .i64 x]) b w' := by
  have ba : ∀ (w : World) o, Below w.heap.size w (w.alloc o) := fun w o => (Below.refl _ _).alloc (Nat.le_refl _) o
  subst hvv
  replace CI := dHide CI
  replace hO := dHide hO
  replace hOm := dHide hOm
  have e1 : (w.alloc (.cells #[.func (.func 47) #[] #[.pointer (some ⟨cb, 0, none⟩)], .func (.func 49) #[] #[], .func (.func 50) #[] #[]] 51)).heap.size = w.heap.size + 1 := by simp
  have X0 := (Bx.new w [.func (.func 47) #[] #[.pointer (some ⟨cb, 0, none⟩)], .func (.func 49) #[] #[], .func (.func 50) #[] #[]] 51).below (ba _ (.cells #[.slice none 0 0, .int .i64 0] 29))
  have Z0 := BxZ.new (B := w.heap.size) (w.alloc (.cells #[.func (.func 47) #[] #[.pointer (some ⟨cb, 0, none⟩)], .func (.func 49) #[] #[], .func (.func 50) #[] #[]] 51)) [.slice none 0 0, .int .i64 0] 29 (by simp)
  rw [e1] at Z0
  have B0 := belowThen (ba w (.cells #[.func (.func 47) #[] #[.pointer (some ⟨cb, 0, none⟩)], .func (.func 49) #[] #[], .func (.func 50) #[] #[]] 51)) (ba _ (.cells #[.slice none 0 0, .int .i64 0] 29))
  have e2 : ((w.alloc (.cells #[.func (.func 47) #[] #[.pointer (some ⟨cb, 0, none⟩)], .func (.func 49) #[] #[], .func (.func 50) #[] #[]] 51)).alloc (.cells #[.slice none 0 0, .int .i64 0] 29)).heap.size = w.heap.size + 2 := by simp
  have hH := dHide fun (W : World) (hb : Below w.heap.size w W) => hH.below hb (Nat.le_refl _)
  clear e1
  go_enter Tryz.func26, Tryz.ntmps26
  go_upto_region 1 with fail
  generalize (w.alloc (.cells #[.func (.func 47) #[] #[.pointer (some ⟨cb, 0, none⟩)], .func (.func 49) #[] #[], .func (.func 50) #[] #[]] 51)).alloc (.cells #[.slice none 0 0, .int .i64 0] 29) = w0 at *
  have f0 := X0 0 _ rfl
  have f1 := X0 1 _ rfl
  have f2 := X0 2 _ rfl
  have C1 := dHide (dUnhide CI w0 B0)
  clear CI X0
  go_wp2_with fail
  refine (dUnhide C1).mono ?_
  rintro e w1 ⟨ua, n, c, x, err, rfl, m, hm, hy, hn, b1⟩
  have B1 := belowThen B0 b1
  have Z1 := Z0.below b1
  have hs1 := b1.size
  have b2 := ba w1 (.cells #[.slice ua n c, .int .i64 x] 29)
  have b3 := ba (w1.alloc (.cells #[.slice ua n c, .int .i64 x] 29)) (.cells #[.int .i64 0] 105)
  have R2 := (Bx.new w1 [.slice ua n c, .int .i64 x] 29).below b3
  have T3 := BxZ.new (B := w.heap.size) (w1.alloc (.cells #[.slice ua n c, .int .i64 x] 29)) [.int .i64 0] 105 (by simp; omega)
  have hs2 : (w1.alloc (.cells #[.slice ua n c, .int .i64 x] 29)).heap.size = w1.heap.size + 1 := by simp
  have hs3 : ((w1.alloc (.cells #[.slice ua n c, .int .i64 x] 29)).alloc (.cells #[.int .i64 0] 105)).heap.size = w1.heap.size + 2 := by simp
  rw [hs2] at T3
  have B3 := belowThen (belowThen B1 b2) b3
  have Z3 := (Z1.below b2).below b3
  have O3 := dHide ((dUnhide hO) _ _ _ _ _ ((dUnhide hO) _ _ _ _ _ hm b2.size (fun k _ hk => b2.block k hk)) b3.size (fun k _ hk => b3.block k hk))
  have H3 := (dUnhide hH) _ B3
  by_cases hG : G
  · obtain ⟨rfl, rfl⟩ := hy hG
    have CA := dHide (as_nil (.iface 107 (.pointer (some ⟨w1.heap.size + 1, 0, none⟩))) ((w1.alloc (.cells #[.slice ua n c, .int .i64 x] 29)).alloc (.cells #[.int .i64 0] 105)))
    clear C1 f0 f1 f2 hy hn hm H3 T3 b2 b3 b1 Z0 B0 Z1 B1
    go_upto_region 3 with fail
    go_wp2_with fail
    generalize (w1.alloc (.cells #[.slice ua n c, .int .i64 x] 29)).alloc (.cells #[.int .i64 0] 105) = w3 at *
    refine (dUnhide CA).mono ?_
    rintro e w4 ⟨rfl, rfl⟩
    have FIN := dHide (⟨(dUnhide hOm) w.heap.size _ _ _ _ (by omega) ((dUnhide hO) _ _ _ _ ((w4.setCell ⟨w.heap.size + 1, 0, none⟩ (.slice ua n c)).setCell ⟨w.heap.size + 1, 1, none⟩ (.int .i64 x)) (dUnhide O3) (by simp) (fun k h1 h2 => by
      show ((w4.setCell ⟨w.heap.size + 1, 0, none⟩ (.slice ua n c)).setCell ⟨w.heap.size + 1, 1, none⟩ (.int .i64 x)).heap[k]? = _
      rw [Below.heap_setCell _ _ _ k (by simp only; omega), Below.heap_setCell _ _ _ k (by simp only; omega)])), (show BxZ ((w4.setCell ⟨w.heap.size + 1, 0, none⟩ (.slice ua n c)).setCell ⟨w.heap.size + 1, 1, none⟩ (.int .i64 x)) _ _ _ from ((Z3.put 0 (.slice ua n c)).put 1 (.int .i64 x))), (show Below _ _ ((w4.setCell ⟨w.heap.size + 1, 0, none⟩ (.slice ua n c)).setCell ⟨w.heap.size + 1, 1, none⟩ (.int .i64 x)) from (Below.setCell (p := ⟨w.heap.size + 1, 1, none⟩) (Below.setCell (p := ⟨w.heap.size + 1, 0, none⟩) B3 (by simp only; omega) (.slice ua n c)) (by simp only; omega) (.int .i64 x)))⟩ :
      O w.heap.size m (.agg #[.slice ua n c, .int .i64 x]) ((w4.setCell ⟨w.heap.size + 1, 0, none⟩ (.slice ua n c)).setCell ⟨w.heap.size + 1, 1, none⟩ (.int .i64 x)) ∧ BxZ ((w4.setCell ⟨w.heap.size + 1, 0, none⟩ (.slice ua n c)).setCell ⟨w.heap.size + 1, 1, none⟩ (.int .i64 x)) w.heap.size (w.heap.size + 1) [.slice ua n c, .int .i64 x] ∧ Below w.heap.size w ((w4.setCell ⟨w.heap.size + 1, 0, none⟩ (.slice ua n c)).setCell ⟨w.heap.size + 1, 1, none⟩ (.int .i64 x)))
    clear CA
    have r0 := R2 0 _ rfl
    have r1 := R2 1 _ rfl
    obtain ⟨z0, y0⟩ := Z3.2 0 _ rfl
    obtain ⟨z1, y1⟩ := Z3.2 1 _ rfl
    go_wp2
    have fin := dUnhide FIN
    generalize ((w4.setCell ⟨w.heap.size + 1, 0, none⟩ (.slice ua n c)).setCell ⟨w.heap.size + 1, 1, none⟩ (.int .i64 x)) = V at *
    obtain ⟨o, r, b⟩ := fin
    have qq0 := (r.2 0 _ rfl).1
    have qq1 := (r.2 1 _ rfl).1
    exact bodyPost_ret (v := .tuple #[.agg #[.slice ua n c, .int .i64 x], .bool true]) (by simp [results, Tryz.results26, go_sem, qq0, qq1]) rfl ⟨_, _, _, _, _, rfl, fun _ => ⟨rfl, o⟩, fun h => absurd hG h, b⟩
  · obtain ⟨p, rfl⟩ := hn hG
    have CA := dHide (as_bad (w1.heap.size + 1) p 0 ((w1.alloc (.cells #[.slice ua n c, .int .i64 x] 29)).alloc (.cells #[.int .i64 0] 105)) H3 (T3.2 0 _ rfl).1 (T3.2 0 _ rfl).2)
    unfold wrg
    clear C1 f0 f1 f2 hy hn hm H3 b2 b3 b1 Z0 B0 Z1 B1 O3 R2
    go_upto_region 3 with fail
    go_wp2_with fail
    generalize (w1.alloc (.cells #[.slice ua n c, .int .i64 x] 29)).alloc (.cells #[.int .i64 0] 105) = w3 at *
    refine (dUnhide CA).mono ?_
    rintro e w4 ⟨rfl, d4⟩
    have B4 : Below w.heap.size w w4 := d4.below B3 (by omega) (by omega)
    have Z4 := Z3.drawn d4 (by omega)
    have b5 := ba w4 (.cells #[.slice none 0 0, .int .i64 0] 29)
    have B5 := belowThen B4 b5
    have Z5 := Z4.below b5
    have R5 := Bx.new w4 [.slice none 0 0, .int .i64 0] 29
    have FIN := dHide (⟨trivial, (show BxZ (((w4.alloc (.cells #[.slice none 0 0, .int .i64 0] 29)).setCell ⟨w.heap.size + 1, 0, none⟩ (.slice none 0 0)).setCell ⟨w.heap.size + 1, 1, none⟩ (.int .i64 0)) _ _ _ from ((Z5.put 0 (.slice none 0 0)).put 1 (.int .i64 0))), (show Below _ _ (((w4.alloc (.cells #[.slice none 0 0, .int .i64 0] 29)).setCell ⟨w.heap.size + 1, 0, none⟩ (.slice none 0 0)).setCell ⟨w.heap.size + 1, 1, none⟩ (.int .i64 0)) from (Below.setCell (p := ⟨w.heap.size + 1, 1, none⟩) (Below.setCell (p := ⟨w.heap.size + 1, 0, none⟩) B5 (by simp only; omega) (.slice none 0 0)) (by simp only; omega) (.int .i64 0)))⟩ :
      True ∧ BxZ (((w4.alloc (.cells #[.slice none 0 0, .int .i64 0] 29)).setCell ⟨w.heap.size + 1, 0, none⟩ (.slice none 0 0)).setCell ⟨w.heap.size + 1, 1, none⟩ (.int .i64 0)) w.heap.size (w.heap.size + 1) [.slice none 0 0, .int .i64 0] ∧ Below w.heap.size w (((w4.alloc (.cells #[.slice none 0 0, .int .i64 0] 29)).setCell ⟨w.heap.size + 1, 0, none⟩ (.slice none 0 0)).setCell ⟨w.heap.size + 1, 1, none⟩ (.int .i64 0)))
    clear CA d4 B4 Z4 Z3 B3 T3
    have r0 := R5 0 _ rfl
    have r1 := R5 1 _ rfl
    obtain ⟨z0, y0⟩ := Z5.2 0 _ rfl
    obtain ⟨z1, y1⟩ := Z5.2 1 _ rfl
    go_wp2
    have fin := dUnhide FIN
    generalize (((w4.alloc (.cells #[.slice none 0 0, .int .i64 0] 29)).setCell ⟨w.heap.size + 1, 0, none⟩ (.slice none 0 0)).setCell ⟨w.heap.size + 1, 1, none⟩ (.int .i64 0)) = V at *
    obtain ⟨o, r, b⟩ := fin
    have qq0 := (r.2 0 _ rfl).1
    have qq1 := (r.2 1 _ rfl).1
    exact bodyPost_ret (v := .tuple #[.agg #[.slice none 0 0, .int .i64 0], .bool false]) (by simp [results, Tryz.results26, go_sem, qq0, qq1]) rfl ⟨_, _, _, _, _, rfl, fun h => absurd h hG, fun _ => ⟨rfl, rfl⟩, b⟩
end Go.Proofs.YthndkkjgjhgdnaaGreatDoor
namespace Go.Proofs.YthndkkjgjhgdnaaGreatDoor
open Go.ChangeShapes Go.WideShapes Go.ChangeAt Go.RowKit
set_option linter.unusedVariables false
set_option linter.unusedSimpArgs false
set_option maxRecDepth 100000

set_option maxHeartbeats 4000000 in
theorem register_any (ab : Nat) (v : Value) (bs : List UInt8) (w : World) (hc : Rc w ab v 0 true) (HV : ∀ W, Wr ab (ab + 2) w W → Bs W v bs) (hl : bs.length ≤ 1048576) (hne : bs = [] ∨ blockOf v ≠ ab) :
    Calls Tryz.prog 50 #[.pointer (some ⟨ab + 1, 0, none⟩)] w fun e w' => ∃ (ua : Option Addr) (n c : Nat) (x : Int) (m : Rg), e = .returned (.agg #[.slice ua n c, .int .i64 x]) ∧ (x = m.trim ∧ n = m.eras.length ∧ NAp w' w.heap.size (.slice ua m.eras.length c) m.eras) ∧ ((rgRd bs).2.2 = true → m = rgRm bs) ∧ Rc w' ab v (rgRd bs).2.1 (rgRd bs).2.2 ∧ Wr ab (ab + 2) w w' := by
  have hab := hc.lt
  have ba : Below w.heap.size w (w.alloc (.cells #[.slice none 0 0, .int .i64 0] 29)) := (Below.refl _ _).alloc (Nat.le_refl _) _
  have Z0 := BxZ.new (B := w.heap.size) w [.slice none 0 0, .int .i64 0] 29 (Nat.le_refl _)
  have HV := dHide HV
  have CN := dHide fun q ok W (hd : Wr ab (ab + 2) w W) (hc : Rc W ab v q ok) => number_any ab v bs q ok W hc (dUnhide HV W hd) hne
  have CL := dHide fun q ok W (hd : Wr ab (ab + 2) w W) (hc : Rc W ab v q ok) (hq : q ≤ bs.length) => listOfR_any ab v bs q ok W hc (fun W' hW' => dUnhide HV W' (hd.trans hW')) hl hq hne
  have W0 := Wr.of_below (lo := ab) (hi := ab + 2) ba
  have V0 := Wr.refl ab (ab + 2) (w.alloc (.cells #[.slice none 0 0, .int .i64 0] 29))
  have hs0 : (w.alloc (.cells #[.slice none 0 0, .int .i64 0] 29)).heap.size = w.heap.size + 1 := by simp
  have C1 := dHide fun (W : World) (hd : Wr ab (ab + 2) w W) (hc : Rc W ab v 0 true) => (show Calls Tryz.prog 92 #[.pointer (some ⟨ab + 1, 0, none⟩)] W fun e w' => ∃ x : Int, e = .returned (.int .i64 x) ∧ (0 ≤ x ∧ x ≤ 9223372036854775807) ∧ ((rgRa bs).2.2 = true → x = (rgRa bs).1) ∧ Rc w' ab v (rgRa bs).2.1 (rgRa bs).2.2 ∧ Wr ab (ab + 2) W w' from dUnhide CN 0 true W hd hc)
  have la := rdN_le bs 0 true (Nat.zero_le _)
  have C3 := dHide fun (W : World) (hd : Wr ab (ab + 2) w W) (hc : Rc W ab v (rgRa bs).2.1 (rgRa bs).2.2) => (show Calls Tryz.prog 93 #[.pointer (some ⟨ab + 1, 0, none⟩), .func (.func 94) #[.pointer (some ⟨ab + 1, 0, none⟩)] #[]] W fun e w' => ∃ u xs, e = .returned u ∧ NAp w' W.heap.size u xs ∧ ((rgRd bs).2.2 = true → xs = (rgRd bs).1) ∧ Rc w' ab v (rgRd bs).2.1 (rgRd bs).2.2 ∧ Wr ab (ab + 2) W w' from dUnhide CL (rgRa bs).2.1 (rgRa bs).2.2 W hd hc la)
  have K2 : Hid ((rgRd bs).2.2 = true → (rgRa bs).2.2 = true) := fun h => rdN_was (rdErs_was h)
  have EM : Hid (rgRm bs = ⟨(rgRd bs).1, (rgRa bs).1⟩) := rfl
  generalize rgRm bs = MM at *
  generalize rgRd bs = MD at *
  generalize rgRa bs = MA at *
  have hc0 := hc.below ba
  clear CN CL hc la
  go_enter Tryz.func50, Tryz.ntmps50
  go_upto_region 1 with fail
  generalize w.alloc (.cells #[.slice none 0 0, .int .i64 0] 29) = w0 at *
  have D1 := dHide (dUnhide C1 w0 W0 hc0)
  clear C1 hc0
  go_wp2_with fail
  refine (dUnhide D1).mono ?_
  rintro e w1 ⟨x0, rfl, hb0, hx0, hc1, hw1⟩
  have W1 := W0.trans hw1
  have V1 := V0.trans hw1
  have D3 := dHide (dUnhide C3 w1 W1 hc1)
  have HX0 := dHide hx0
  have hs2 := V1.size
  clear D1 C3 hc1 hw1 hx0
  go_wp2_with fail
  refine (dUnhide D3).mono ?_
  rintro e w3 ⟨u, xs, rfl, ha, hx2, hc3, hw3⟩
  have W3 := W1.trans hw3
  have V3 := V1.trans hw3
  have HX2 := dHide hx2
  have hs3 := W3.size
  have Z3 : BxZ w3 w.heap.size w.heap.size [.slice none 0 0, .int .i64 0] := Z0.wrZ V3 hab
  obtain ⟨ua, uc, rfl⟩ := NAp.slice ha
  have HA := dHide ha
  clear D3 hx2 hw3 W1 ha
  go_wp2_with (refine wp_putW rfl _ _ _ rfl rfl [.slice ua xs.length uc, .int .i64 x0] rfl rfl Z3 rfl (by kernel_rfl) (by kernel_rfl) ?_; intro w4 Y4 s4 g4 b4)
  refine bodyPost_ret (results_box Tryz.results50 _ _ _ [.slice ua xs.length uc, .int .i64 x0] _ rfl Y4.bx Tryz.underlying29 rfl (by kernel_rfl)) rfl ⟨ua, xs.length, uc, x0, ⟨xs, x0⟩, rfl, ⟨rfl, rfl, ?_⟩, fun h => ?_, ?_, W3.new (Nat.le_refl _) g4 s4 b4⟩
  · exact NAp.mono (NAp.farO _ _ _ w3 w4 (dUnhide HA) (by rw [s4]; exact Nat.le_refl _) (fun k h1 h2 => g4 k (by omega))) (by omega)
  · have h2 := dUnhide K2 h
    rw [dUnhide EM, dUnhide HX0 h2, dUnhide HX2 h]
  · exact hc3.wr (row := some w.heap.size) ⟨b4.os, b4.tape, b4.output, by rw [s4]; exact Nat.le_refl _, fun k hk hn => g4 k (by rintro rfl; exact hn rfl)⟩ (by intro e; simp only [Option.some.injEq] at e; omega) (by intro e; simp only [Option.some.injEq] at e; omega)
end Go.Proofs.YthndkkjgjhgdnaaGreatDoor
namespace Go.Proofs.YthndkkjgjhgdnaaGreatDoor
open Go.ChangeShapes Go.WideShapes Go.ChangeAt Go.RowKit
set_option linter.unusedVariables false
set_option linter.unusedSimpArgs false
set_option maxRecDepth 100000

/-- A register that is read, in new memory. -/
def OReg (b : Nat) (m : Rg) (u : Value) (W : World) : Prop := ∃ (ua : Option Addr) (c : Nat), u = .agg #[.slice ua m.eras.length c, .int .i64 m.trim] ∧ NAp W b (.slice ua m.eras.length c) m.eras
theorem OReg.far (b : Nat) (m : Rg) (u : Value) : FarO b (OReg b m u) := fun W W' ⟨ua, c, h1, h2⟩ hs hk => ⟨ua, c, h1, NAp.farO _ _ _ W W' h2 hs hk⟩
theorem OReg.mono (b b' : Nat) (m : Rg) (u : Value) (W : World) (h : b ≤ b') : OReg b' m u W → OReg b m u W := fun ⟨ua, c, h1, h2⟩ => ⟨ua, c, h1, NAp.mono h2 h⟩
theorem rdG_reg (ds : List Int) (cop : Int) (bs : List UInt8) : RdG (rgRd bs).2.2 (rgRd bs).2.1 bs.length (regP ds cop (rgRm bs)) ↔ (endB bs (rgRd bs).2.1 (rgRd bs).2.2 = true ∧ regP ds cop (rgRm bs)) := by
  unfold RdG endB
  generalize (rgRd bs).2.2 = ok
  generalize (rgRd bs).2.1 = q
  cases ok <;> simp <;> omega
set_option maxHeartbeats 4000000 in
theorem implRegRead_any (cv v : Value) (c : List Int × Int) (bs : List UInt8) (w : World) (hH : Hnd w) (hcv : RdConfig cv c w) (okc : okConfig c) (hsc : sizConfig c ≤ 1048576) (hv : Bs w v bs) (hl : bs.length ≤ 1048576) :
    Calls Tryz.prog 9 #[cv, v] w fun e w' => (∃ (a : Option Addr) (cc : Nat), e = .returned (.tuple #[.agg #[.slice a (rgR c.1 c.2 bs).1.eras.length cc, .int .i64 (rgR c.1 c.2 bs).1.trim], .bool (rgR c.1 c.2 bs).2]) ∧ NAp w' w.heap.size (.slice a (rgR c.1 c.2 bs).1.eras.length cc) (rgR c.1 c.2 bs).1.eras) ∧ Below w.heap.size w w' := by
  have ba : ∀ (w : World) o, Below w.heap.size w (w.alloc o) := fun w o => (Below.refl _ _).alloc (Nat.le_refl _) o
  have HV := dHide fun W (hb : Below w.heap.size w W) => hv.below hb
  have HCV := dHide fun W (hb : Below w.heap.size w W) => hcv.below hb
  have HH := dHide fun W (hb : Below w.heap.size w W) => hH.below hb (Nat.le_refl _)
  have hlt : ∀ W, Below w.heap.size w W → ∀ ab, w.heap.size ≤ ab → bs = [] ∨ blockOf v ≠ ab := fun W hb ab hab => by
    by_cases h : bs = []
    · exact .inl h
    · exact .inr (by have := hv.lt h; omega)
  obtain ⟨ca, cc, rfl, -⟩ := formConfig hcv
  have CF := dHide fun W => registerForm_any ca c.1.length cc c.2 W
  have hq4 := rgRd_le bs
  have CU : Hid (∀ W cb, Below w.heap.size w W → Bx W cb [.slice ca c.1.length cc, .int .i64 c.2] → Calls Tryz.prog 26 #[.agg (registerFormL cb).toArray, v] W fun e w' => ∃ (ua : Option Addr) (n c' : Nat) (x : Int) (b : Bool), e = .returned (.tuple #[.agg #[.slice ua n c', .int .i64 x], .bool b]) ∧ UnPost (OReg W.heap.size) (RdG (rgRd bs).2.2 (rgRd bs).2.1 bs.length (regP c.1 c.2 (rgRm bs))) (rgRm bs) (.agg #[.slice none 0 0, .int .i64 0]) W (.agg #[.slice ua n c', .int .i64 x]) b w') := fun W cb hb hX => by
    have hvv : ∃ (va : Option Addr) (vn vcp : Nat), v = .slice va vn vcp := by
      obtain ⟨-, va, vcp, e, -⟩ := hv
      exact ⟨va, _, vcp, e⟩
    obtain ⟨va, vn, vcp, hvv⟩ := hvv
    refine unpackRegister cb v OReg OReg.far OReg.mono _ _ W (dUnhide HH W hb) (fun W1 hb1 => ?_) va vn vcp hvv
    refine recordInRegister cb v bs OReg OReg.far OReg.mono (rgRm bs) (regP c.1 c.2) (rgRd bs).2.1 (rgRd bs).2.2 W1 (dUnhide HV W1 (belowThen hb hb1)) hl (fun _ => hq4) (fun W2 ab hb2 hab hc => ?_) (fun W2 ua n c' x hb2 hok ho => ?_)
    · refine (register_any ab v bs W2 hc (fun W3 hw3 => dUnhide HV W3 (hw3.below (belowThen (belowThen hb hb1) hb2) (by have := (belowThen (belowThen hb hb1) hb2).size; omega) (by have := (belowThen hb hb1).size; omega))) hl (hlt W2 (belowThen (belowThen hb hb1) hb2) ab (by have := (belowThen hb hb1).size; omega))).mono ?_
      rintro e w' ⟨ua, n, c', x, m, rfl, ⟨rfl, rfl, h1⟩, h4, h5, h6⟩
      exact ⟨ua, _, c', _, m, rfl, ⟨ua, c', rfl, h1⟩, h4, h5, h6⟩
    · obtain ⟨ua', c'', e, h1⟩ := ho
      rw [e]
      exact registerForm1_any c ca cc _ ua' c'' cb W2 (dUnhide HCV W2 (belowThen (belowThen hb hb1) hb2)) ⟨_, rfl, (NAp.ow h1).rd⟩ okc (rgRm_ok bs) hsc (Nat.le_trans (rgRm_siz bs hok) hl) ((hX.below hb1).below hb2)
  have EY : Hid (_ → _) := rgR_yes c.1 c.2 bs
  have EN : Hid (_ → _) := rgR_no c.1 c.2 bs
  have EG := dHide (rdG_reg c.1 c.2 bs)
  rw [← dUnhide EG] at EY EN
  generalize RdG (rgRd bs).2.2 (rgRd bs).2.1 bs.length (regP c.1 c.2 (rgRm bs)) = G at *
  generalize rgR c.1 c.2 bs = CR at *
  generalize rgRm bs = MM at *
  have i1 : (w.alloc (.cells #[.slice ca c.1.length cc, .int .i64 c.2] 26)).heap.size = w.heap.size + 1 := by simp
  have G0 := (Bx.new w [.slice ca c.1.length cc, .int .i64 c.2] 26).below (ba _ (.cells #[.slice none 0 0, .int .i64 0] 29))
  have Z0 := BxZ.new (w.alloc (.cells #[.slice ca c.1.length cc, .int .i64 c.2] 26)) [.slice none 0 0, .int .i64 0] 29 (B := w.heap.size) (by omega)
  rw [i1] at Z0
  have B0 := belowThen (ba w (.cells #[.slice ca c.1.length cc, .int .i64 c.2] 26)) (ba _ (.cells #[.slice none 0 0, .int .i64 0] 29))
  have hs0 : ((w.alloc (.cells #[.slice ca c.1.length cc, .int .i64 c.2] 26)).alloc (.cells #[.slice none 0 0, .int .i64 0] 29)).heap.size = w.heap.size + 2 := by simp
  clear HV HCV HH hlt hq4 hv hH ba EG hcv okc hsc i1
  go_enter Tryz.func9, Tryz.ntmps9
  go_upto_region 1 with fail
  generalize (w.alloc (.cells #[.slice ca c.1.length cc, .int .i64 c.2] 26)).alloc (.cells #[.slice none 0 0, .int .i64 0] 29) = w0 at *
  have g0 := G0 0 _ rfl
  have g1 := G0 1 _ rfl
  go_wp2_with fail
  refine (dUnhide CF _).mono ?_
  rintro e w1 ⟨cb, rfl, hX1, b1⟩
  have B1 := belowThen B0 b1
  have Z1 := Z0.below b1
  have hs1 := b1.size
  have C1 := dHide (dUnhide CU w1 cb B1 hX1)
  clear CF CU Z0 B0 b1 g0 g1 G0 hX1
  unfold registerFormL at *
  go_wp2_with fail
  refine (dUnhide C1).mono ?_
  rintro e w2 ⟨ua, n, c', x, b, rfl, hy, hn, b2⟩
  have B2 := belowThen B1 b2
  have Z2 := Z1.below b2
  obtain ⟨z0, y0⟩ := Z2.2 0 _ rfl
  obtain ⟨z1, y1⟩ := Z2.2 1 _ rfl
  have FZ := dHide (And.intro ((Z2.put 0 (.slice ua n c')).put 1 (.int .i64 x)) (Below.setCell (p := ⟨w.heap.size + 1, 1, none⟩) (Below.setCell (p := ⟨w.heap.size + 1, 0, none⟩) B2 (by simp only; omega) (.slice ua n c')) (by simp only; omega) (.int .i64 x)))
  have HY := dHide hy
  have HN := dHide hn
  clear C1 Z1 Z2 B1 B2 b2 hy hn
  go_wp2
  have fin := dUnhide FZ
  have HO : ∀ xs, NAp w2 w1.heap.size (.slice ua n c') xs → NAp ((w2.setCell ⟨w.heap.size + 1, 0, none⟩ (.slice ua n c')).setCell ⟨w.heap.size + 1, 1, none⟩ (.int .i64 x)) w.heap.size (.slice ua n c') xs := fun xs h => NAp.mono (NAp.far (NAp.far h (b := w.heap.size + 1) (o := 0) (by omega) _) (b := w.heap.size + 1) (o := 1) (by omega) _) (by omega)
  generalize (w2.setCell ⟨w.heap.size + 1, 0, none⟩ (.slice ua n c')).setCell ⟨w.heap.size + 1, 1, none⟩ (.int .i64 x) = V at *
  obtain ⟨r, bb⟩ := fin
  have q0 := (r.2 0 _ rfl).1
  have q1 := (r.2 1 _ rfl).1
  refine bodyPost_ret (v := .tuple #[.agg #[.slice ua n c', .int .i64 x], .bool b]) (by simp [results, Tryz.results9, go_sem, q0, q1]) rfl ?_
  by_cases hG : G
  · obtain ⟨rfl, ua', c'', e, h1⟩ := dUnhide HY hG
    have eC := dUnhide EY hG
    subst eC
    simp only [Value.agg.injEq, Array.mk.injEq, List.cons.injEq, Value.slice.injEq, Value.int.injEq, true_and, and_true] at e
    obtain ⟨⟨rfl, rfl, rfl⟩, rfl⟩ := e
    exact ⟨⟨_, _, rfl, HO _ h1⟩, bb⟩
  · obtain ⟨rfl, e⟩ := dUnhide HN hG
    have eC := dUnhide EN hG
    subst eC
    simp only [Value.agg.injEq, Array.mk.injEq, List.cons.injEq, Value.slice.injEq, Value.int.injEq, true_and, and_true] at e
    obtain ⟨⟨rfl, rfl, rfl⟩, rfl⟩ := e
    exact ⟨⟨_, _, rfl, NAp.nil _ _ _⟩, bb⟩
end Go.Proofs.YthndkkjgjhgdnaaGreatDoor
namespace Go.Proofs.YthndkkjgjhgdnaaGreatDoor
open Go.ChangeShapes Go.WideShapes Go.ChangeAt Go.RowKit
set_option linter.unusedVariables false
set_option linter.unusedSimpArgs false
set_option maxRecDepth 100000

/-- Eras in memory from lo on; their lists may be shared. -/
def RdO (lo : Nat) (v : Value) (ms : List Er) (W : World) : Prop := ∃ rs : List (Nst Er), rs.map Nst.m = ms ∧ OwnRw 3 erCl W lo v rs ∧ ∀ p ∈ rs, OwnN W lo (Sv Er.nodes p) p.m.nodes
section
variable {lo lo' hi bk : Nat} {v : Value} {ms : List Er} {W W' : World}
theorem RdO.rd (h : RdO lo v ms W) : RdEraS v ms W := by
  obtain ⟨rs, h1, h2, h3⟩ := h
  exact ⟨rs, h1, h2.rw, fun p hp => (h3 p hp).bs⟩
theorem RdO.of (h : OwEraS lo hi v ms W) : RdO lo v ms W := by
  obtain ⟨rs, h1, h2, -, h4, -⟩ := h
  exact ⟨rs, h1, h2, fun p hp => (h4 p hp).1⟩
theorem RdO.mono (h : RdO lo v ms W) (hl : lo' ≤ lo) : RdO lo' v ms W := by
  obtain ⟨rs, h1, h2, h3⟩ := h
  exact ⟨rs, h1, h2.mono hl, fun p hp => (h3 p hp).mono hl⟩
theorem RdO.below (h : RdO lo v ms W) (hb : Below W.heap.size W W') : RdO lo v ms W' := by
  obtain ⟨rs, h1, h2, h3⟩ := h
  exact ⟨rs, h1, h2.below hb, fun p hp => (h3 p hp).below hb⟩
theorem OwnRw.drawnE {rs : List (Nst Er)} (h : OwnRw 3 erCl W lo v rs) (hd : Drawn bk W W') (hb : bk < lo) : OwnRw 3 erCl W' lo v rs := by
  obtain ⟨h0, a, cap, rfl, hcap, h⟩ := h
  refine ⟨h0, a, cap, rfl, hcap, ?_⟩
  rcases h with h | ⟨b, off, rfl, hl, hc⟩
  · exact .inl h
  · exact .inr ⟨b, off, rfl, hl, fun i hi j u hu => by
      obtain ⟨c1, c2⟩ := hc i hi j u hu
      exact ⟨hd.cell c1 (by omega), (hd.frozen (by omega) (dCell_lt c1)).trans c2⟩⟩
theorem RdO.drawn (h : RdO lo v ms W) (hd : Drawn bk W W') (hb : bk < lo) : RdO lo v ms W' := by
  obtain ⟨rs, h1, h2, h3⟩ := h
  exact ⟨rs, h1, h2.drawnE hd hb, fun p hp => (h3 p hp).drawn hd hb⟩
theorem OwnRw.farR {rs : List (Nst Er)} (h : OwnRw 3 erCl W lo v rs) {b o : Nat} (hb : b < lo) (u : Value) : OwnRw 3 erCl (W.setCell ⟨b, o, none⟩ u) lo v rs := by
  obtain ⟨h0, a, cap, rfl, hcap, h⟩ := h
  refine ⟨h0, a, cap, rfl, hcap, ?_⟩
  rcases h with h | ⟨b', off, rfl, hl, hc⟩
  · exact .inl h
  · exact .inr ⟨b', off, rfl, hl, fun i hi j x hx => by
      obtain ⟨c1, c2⟩ := hc i hi j x hx
      exact ⟨set_other c1 (.inl (by omega)), (World.frozen?_of_block (a := ⟨b', off + i * 3 + j, none⟩) (Below.heap_setCell W ⟨b, o, none⟩ u b' (by simp only; omega))).trans c2⟩⟩
theorem RdO.far (h : RdO lo v ms W) {b o : Nat} (hb : b < lo) (u : Value) : RdO lo v ms (W.setCell ⟨b, o, none⟩ u) := by
  obtain ⟨rs, h1, h2, h3⟩ := h
  exact ⟨rs, h1, h2.farR hb u, fun p hp => (h3 p hp).far hb u⟩
end
end Go.Proofs.YthndkkjgjhgdnaaGreatDoor
namespace Go.Proofs.YthndkkjgjhgdnaaGreatDoor
open Go.ChangeShapes Go.WideShapes Go.ChangeAt Go.RowKit
set_option linter.unusedVariables false

theorem cell_of_block {W : World} {g t : Nat} {cur : Array Value} {T : TypeId} {f : Nat × Nat} (h : W.heap[g]? = some (.cells cur T f)) : W.cell? ⟨g, t, none⟩ = cur[t]? := by
  simp [World.cell?, h]
theorem ApR.of_full {W : World} {lo c : Nat} {a : Option Addr} {rs : List (Nst Er)} (h : OwnRw 3 erCl W lo (.slice a rs.length c) rs) (hF : Full W lo (.slice a rs.length c)) : ApR 57 3 erCl W lo (.slice a rs.length c) rs := by
  rcases hF with ⟨a', e⟩ | ⟨g, n, cap, cur, e, h0, hg, hnc, hc, hs⟩
  · simp only [Value.slice.injEq] at e
    obtain ⟨rfl, e1, e2⟩ := e
    exact .inl ⟨List.eq_nil_of_length_eq_zero e1, a, by rw [e1, e2]⟩
  · simp only [Value.slice.injEq] at e
    obtain ⟨rfl, e1, e2⟩ := e
    subst e1
    subst e2
    refine .inr ⟨fcells_len erCl_len rs, .inr ⟨g, c, cur, rfl, h0, hg, hnc, hc, hs, ?_⟩⟩
    obtain ⟨-, a', c', e', -, h⟩ := h
    simp only [Value.slice.injEq] at e'
    obtain ⟨e1, -, rfl⟩ := e'
    have hl : (cur.toList.take (rs.length * 3)).length = rs.length * 3 := by
      have h1 : cur.toList.length = c * 3 := by simpa using hs
      rw [List.length_take, h1]
      have : rs.length * 3 ≤ c * 3 := Nat.mul_le_mul_right _ hnc
      omega
    refine List.ext_getElem? fun t => ?_
    rcases Nat.lt_or_ge t (rs.length * 3) with ht | ht
    · have hi : t / 3 < rs.length := by omega
      rcases h with h | ⟨b, off, hb, -, hc'⟩
      · subst h; simp at hi
      · rw [← e1] at hb
        simp only [Option.some.injEq, Addr.mk.injEq, and_true] at hb
        obtain ⟨rfl, rfl⟩ := hb
        have hj : t % 3 < (erCl rs[t / 3]).length := by rw [erCl_len]; omega
        have h1 := (hc' (t / 3) hi (t % 3) _ (List.getElem?_eq_getElem hj)).1
        have h2 := fcells_at erCl_len rs (t / 3) hi (t % 3) _ (List.getElem?_eq_getElem hj)
        have et : 0 + t / 3 * 3 + t % 3 = t := by omega
        have et' : t / 3 * 3 + t % 3 = t := by omega
        rw [et, cell_of_block hg] at h1
        rw [et'] at h2
        rw [h2, List.getElem?_take_of_lt ht, Array.getElem?_toList, h1]
    · rw [List.getElem?_eq_none (by omega), List.getElem?_eq_none (by rw [fcells_len erCl_len]; omega)]
end Go.Proofs.YthndkkjgjhgdnaaGreatDoor
namespace Go.Proofs.YthndkkjgjhgdnaaGreatDoor
open Go.ChangeShapes Go.WideShapes Go.ChangeAt Go.RowKit
set_option linter.unusedVariables false

/-- How many eras a box holds. -/
def eraLen (W : World) (b : Nat) : Nat := match W.cell? ⟨b, 0, none⟩ with
  | some (.slice _ n _) => n
  | _ => 0
theorem eraLen_of {W : World} {b n c : Nat} {a : Option Addr} (h : W.cell? ⟨b, 0, none⟩ = some (.slice a n c)) : eraLen W b = n := by unfold eraLen; rw [h]
theorem OwnN.setNe {w : World} {lo b o : Nat} {v : Value} {xs : List Int} (h : OwnN w lo v xs) (hb : xs = [] ∨ blockOf v ≠ b) (u : Value) : OwnN (w.setCell ⟨b, o, none⟩ u) lo v xs :=
  h.grown (grown_set w b o u) (by rcases hb with h | h; exact .inl h; exact .inr fun e => h (Option.some.inj e).symm)
structure DE7 (w : World) (bk rb lo : Nat) (W : World) (p : Nst Er) (ms : List Er) (tr : Int) (a : Option Addr) (c : Nat) : Prop where
  cur : Cur W bk
  drawn : Drawn bk w W
  res : BxZ W w.heap.size (w.heap.size + 1) [.slice none 0 0, .int .i64 0]
  box : BxZ W 0 rb [.slice a ms.length c, .int .i64 tr]
  row : ∃ rs : List (Nst Er), rs.map Nst.m = ms ∧ ApR 57 3 erCl W lo (.slice a ms.length c) rs ∧ ∀ q ∈ rs, OwnN W lo (Sv Er.nodes q) q.m.nodes ∧ (q.m.nodes = [] ∨ (touch (.slice a ms.length c) ≠ some (blockOf (Sv Er.nodes q)) ∧ blockOf (Sv Er.nodes q) ≠ rb))
  set : OwnN W lo (Sv Er.nodes p) p.m.nodes ∧ (p.m.nodes = [] ∨ (touch (.slice a ms.length c) ≠ some (blockOf (Sv Er.nodes p)) ∧ blockOf (Sv Er.nodes p) ≠ rb))
  away : touch (.slice a ms.length c) ≠ some rb
variable {w W W' : World} {bk rb lo : Nat} {p : Nst Er} {ms : List Er} {tr : Int} {a : Option Addr} {c : Nat}
theorem DE7.below (h : DE7 w bk rb lo W p ms tr a c) (hb : Below W.heap.size W W') : DE7 w bk rb lo W' p ms tr a c := by
  obtain ⟨rs, h1, h2, h3⟩ := h.row
  exact ⟨h.cur.below hb, h.drawn.trans (Drawn.of_below hb), h.res.below hb, h.box.below hb, ⟨rs, h1, h2.below hb, fun q hq => ⟨(h3 q hq).1.below hb, (h3 q hq).2⟩⟩, ⟨h.set.1.below hb, h.set.2⟩, h.away⟩
theorem DE7.move (h : DE7 w bk rb lo W p ms tr a c) (hk : bk < w.heap.size) (h1 : bk < lo) (h2 : rb ≠ bk) (hc : Cur W' bk) (hd : Drawn bk W W') : DE7 w bk rb lo W' p ms tr a c := by
  obtain ⟨rs, r1, r2, r3⟩ := h.row
  exact ⟨hc, h.drawn.trans hd, h.res.drawn hd (by omega), h.box.drawn hd h2, ⟨rs, r1, r2.kept elemR hd.row (.inr fun e => by have := (r2.touched elemR e).1; omega), fun q hq => ⟨(r3 q hq).1.drawn hd h1, (r3 q hq).2⟩⟩, ⟨h.set.1.drawn hd h1, h.set.2⟩, h.away⟩
theorem DE7.rd (h : DE7 w bk rb lo W p ms tr a c) : RdO lo (.slice a ms.length c) ms W := by
  obtain ⟨rs, r1, r2, r3⟩ := h.row
  exact ⟨rs, r1, r2.own elemR, fun q hq => (r3 q hq).1⟩
/-- One more era. -/
theorem DE7.push (h : DE7 w bk rb lo W p ms tr a c) (hk : bk < w.heap.size) (hl : w.heap.size + 1 < lo) (hr0 : w.heap.size + 1 < rb) (hlo : lo ≤ W.heap.size) (ty : TypeId) (sv : Value) (hs : Rw 3 erCl W sv [p]) (hn : ms.length ≤ 1000) :
    ∃ a' c' w', (Builtin.append_ #[27, 27] ty #[.slice a ms.length c, sv]).run Tryz.prog W = .ok (.slice a' (ms.length + 1) c') w' ∧ BxZ w' 0 rb [.slice a ms.length c, .int .i64 tr] ∧ DE7 w bk rb lo (w'.setCell ⟨rb, 0, none⟩ (.slice a' (ms.length + 1) c')) p (ms ++ [p.m]) tr a' c' := by
  obtain ⟨rs, r1, r2, r3⟩ := h.row
  have hrl : rs.length = ms.length := by rw [← r1, List.length_map]
  have hrb : rb < W.heap.size := dCell_lt (h.box.2 0 _ rfl).1
  obtain ⟨v', w', hr, P7, g7, t7⟩ := run_apR elemR ty r2 sv hs (by simp; omega) (by simp; omega) hlo
  obtain ⟨a', c', rfl⟩ := ApR.slice elemR P7
  have hln : (rs ++ [p]).length = ms.length + 1 := by simp [hrl]
  rw [hln] at hr P7 t7
  have tb : ∀ j, touch (.slice a ms.length c) = some j → lo ≤ j := fun j hj => (r2.touched elemR hj).1
  have N7 := h.box.grown g7 h.away
  have R7 := h.res.grown g7 (fun e => by have := tb _ e; omega)
  have C7 := h.cur.grown g7 (fun k hk' => by have := tb k hk'; omega)
  have D7 := h.drawn.grown g7 (fun k hk' => by have := tb k hk'; omega)
  have T7 : touch (.slice a' (ms.length + 1) c') ≠ some rb := fun e => by
    rcases t7 with h' | h'
    · exact h.away (h' ▸ e)
    · have := h' rb e; omega
  -- a list that stays
  have K : ∀ q : Nst Er, OwnN W lo (Sv Er.nodes q) q.m.nodes ∧ (q.m.nodes = [] ∨ (touch (.slice a ms.length c) ≠ some (blockOf (Sv Er.nodes q)) ∧ blockOf (Sv Er.nodes q) ≠ rb)) →
      OwnN (w'.setCell ⟨rb, 0, none⟩ (.slice a' (ms.length + 1) c')) lo (Sv Er.nodes q) q.m.nodes ∧ (q.m.nodes = [] ∨ (touch (.slice a' (ms.length + 1) c') ≠ some (blockOf (Sv Er.nodes q)) ∧ blockOf (Sv Er.nodes q) ≠ rb)) := by
    intro q ⟨q1, q2⟩
    have hlt := q1.bs.lt
    refine ⟨(q1.grown g7 (by rcases q2 with h | h; exact .inl h; exact .inr h.1)).setNe (by rcases q2 with h | h; exact .inl h; exact .inr h.2) _, ?_⟩
    rcases q2 with h | h
    · exact .inl h
    · rcases hlt with h' | h'
      · exact .inl h'
      · refine .inr ⟨fun e => ?_, h.2⟩
        rcases t7 with h'' | h''
        · exact h.1 (h'' ▸ e)
        · have := h'' _ e; omega
  refine ⟨a', c', w', hr, N7, ?_⟩
  have el : (ms ++ [p.m]).length = ms.length + 1 := by simp
  have B8 := N7.put 0 (.slice a' (ms.length + 1) c')
  refine ⟨C7.setNew4 (by omega) _ _, D7.setNew (by omega) _ _, R7.far (by omega) _, by rw [el]; exact B8, ⟨rs ++ [p], by rw [List.map_append, r1]; rfl, by rw [el]; exact ApR.put elemR P7 T7 _, fun q hq => ?_⟩, by rw [el]; exact K p h.set, by rw [el]; exact T7⟩
  rw [el]
  rcases List.mem_append.1 hq with hq | hq
  · exact K q (r3 q hq)
  · obtain rfl : q = p := by simpa using hq
    exact K q h.set
end Go.Proofs.YthndkkjgjhgdnaaGreatDoor
