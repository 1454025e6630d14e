/- Several texts in one: PrH, PuH, PrG, PrI. -/
import Derived.Test.YtioocibgfhgkhaaGreatDoorHr1
import Derived.Test.YtioocibgfhgkhaaGreatDoorRgA
import Derived.Deep.RegionHeld3
import Derived.Deep.DeepCutAuto
import Derived.Test.YtioocibgfhgkhaaGreatDoorHas
import Derived.Test.YtioocibgfhgkhaaGreatDoorHk1
namespace Go.Proofs.YtioocibgfhgkhaaGreatDoor
open Go.ChangeShapes Go.WideShapes Go.ChangeAt Go.RowKit
set_option linter.unusedVariables false
set_option linter.unusedSimpArgs false
set_option maxRecDepth 100000

set_option maxHeartbeats 8000000 in
theorem recordInRegister (cb : Nat) (v : Value) (bs : List UInt8) (O : Nat → Rg → Value → World → Prop) (hO : ∀ b m u, FarO b (O b m u)) (hOm : ∀ b b' m u W, b ≤ b' → O b' m u W → O b m u W) (M : Rg) (P : Rg → Prop) (q2 : Nat) (ok2 : Bool) (w : World) (hv : Bs w v bs) (hl : bs.length ≤ 1048576) (hq : ok2 = true → q2 ≤ bs.length)
    (HRD : ∀ W ab, Below w.heap.size w W → w.heap.size ≤ ab → Rc W ab v 0 true → Calls Tryz.prog 51 #[.pointer (some ⟨ab + 1, 0, none⟩)] W fun e w' => ∃ (ua : Option Addr) (n c : Nat) (x : Int) (m : Rg), e = .returned (.agg #[.slice ua n c, .int .i64 x]) ∧ O W.heap.size m (.agg #[.slice ua n c, .int .i64 x]) w' ∧ (ok2 = true → m = M) ∧ Rc w' ab v q2 ok2 ∧ Wr ab (ab + 2) W w')
    (HOK : ∀ W (ua : Option Addr) (n c : Nat) (x : Int), Below w.heap.size w W → ok2 = true → O w.heap.size M (.agg #[.slice ua n c, .int .i64 x]) W → Calls Tryz.prog 48 #[.agg #[.slice ua n c, .int .i64 x], .pointer (some ⟨cb, 0, none⟩)] W fun e w' => RetB (P M) e ∧ Below W.heap.size W w') :
    Calls Tryz.prog 52 #[.agg #[.func (.func 48) #[] #[.pointer (some ⟨cb, 0, none⟩)], .func (.func 50) #[] #[], .func (.func 51) #[] #[]], v] w fun e w' => ∃ (ua : Option Addr) (n c : Nat) (x : Int) (err : Value), e = .returned (.tuple #[.agg #[.slice ua n c, .int .i64 x], err]) ∧ RecPost (O w.heap.size) (RdG ok2 q2 bs.length (P M)) M w (.agg #[.slice ua n c, .int .i64 x]) err w' := by
  have ba : ∀ (w : World) o, Below w.heap.size w (w.alloc o) := fun w o => (Below.refl _ _).alloc (Nat.le_refl _) o
  have HV := dHide fun W (hb : Below w.heap.size w W) => hv.below hb
  replace HRD := dHide HRD
  replace HOK := dHide HOK
  replace hO := dHide hO
  replace hOm := dHide hOm
  obtain ⟨-, va, vcp, rfl, -⟩ := hv
  have e1 : (w.alloc (.cells #[.func (.func 48) #[] #[.pointer (some ⟨cb, 0, none⟩)], .func (.func 50) #[] #[], .func (.func 51) #[] #[]] 64)).heap.size = w.heap.size + 1 := by simp
  have X0 := (Bx.new w [.func (.func 48) #[] #[.pointer (some ⟨cb, 0, none⟩)], .func (.func 50) #[] #[], .func (.func 51) #[] #[]] 64).below (ba _ (.cells #[.slice none 0 0, .int .i64 0] 29))
  have Z0 := BxZ.new (B := w.heap.size) (w.alloc (.cells #[.func (.func 48) #[] #[.pointer (some ⟨cb, 0, none⟩)], .func (.func 50) #[] #[], .func (.func 51) #[] #[]] 64)) [.slice none 0 0, .int .i64 0] 29 (by simp)
  rw [e1] at Z0
  have B0 := belowThen (ba w (.cells #[.func (.func 48) #[] #[.pointer (some ⟨cb, 0, none⟩)], .func (.func 50) #[] #[], .func (.func 51) #[] #[]] 64)) (ba _ (.cells #[.slice none 0 0, .int .i64 0] 29))
  have e2 : ((w.alloc (.cells #[.func (.func 48) #[] #[.pointer (some ⟨cb, 0, none⟩)], .func (.func 50) #[] #[], .func (.func 51) #[] #[]] 64)).alloc (.cells #[.slice none 0 0, .int .i64 0] 29)).heap.size = w.heap.size + 2 := by simp
  obtain ⟨ab, hab⟩ : ∃ ab, w.heap.size + 2 = ab := ⟨_, rfl⟩
  have e2' := e2.trans hab
  have CN := dHide ((newReader_any (.slice va bs.length vcp) bs ((w.alloc (.cells #[.func (.func 48) #[] #[.pointer (some ⟨cb, 0, none⟩)], .func (.func 50) #[] #[], .func (.func 51) #[] #[]] 64)).alloc (.cells #[.slice none 0 0, .int .i64 0] 29)) (dUnhide HV _ B0)).mono fun e w' h => (⟨by rw [← e2']; exact h.1, by rw [← e2']; exact h.2.1, h.2.2⟩ : e = .returned (.pointer (some ⟨ab + 1, 0, none⟩)) ∧ Rc w' ab (.slice va bs.length vcp) 0 true ∧ Below ((w.alloc (.cells #[.func (.func 48) #[] #[.pointer (some ⟨cb, 0, none⟩)], .func (.func 50) #[] #[], .func (.func 51) #[] #[]] 64)).alloc (.cells #[.slice none 0 0, .int .i64 0] 29)).heap.size ((w.alloc (.cells #[.func (.func 48) #[] #[.pointer (some ⟨cb, 0, none⟩)], .func (.func 50) #[] #[], .func (.func 51) #[] #[]] 64)).alloc (.cells #[.slice none 0 0, .int .i64 0] 29)) w'))
  clear e1 e2
  go_enter Tryz.func52, Tryz.ntmps52
  go_upto_region 1 with fail
  generalize (w.alloc (.cells #[.func (.func 48) #[] #[.pointer (some ⟨cb, 0, none⟩)], .func (.func 50) #[] #[], .func (.func 51) #[] #[]] 64)).alloc (.cells #[.slice none 0 0, .int .i64 0] 29) = w0 at *
  go_wp2_with fail
  refine (dUnhide CN).mono ?_
  rintro e w1 ⟨rfl, hc1, b1⟩
  have B1 := belowThen B0 b1
  have X1 := X0.below b1
  have Z1 := dHide (Z0.below b1)
  have k2 := X1 2 _ rfl
  have HX1 := dHide X1
  have hs1 := b1.size
  have hs0 := e2'
  have C2 := dHide (dUnhide HRD w1 ab B1 (by omega) hc1)
  have hlt1 := hc1.lt
  clear CN X0 Z0 B0 b1 X1 hc1 HRD
  go_wp2_with fail
  refine (dUnhide C2).mono ?_
  rintro e w2 ⟨ua, n, c, x, m, rfl, hm2, hmM, hc2, hw2⟩
  have B2 : Below w.heap.size w w2 := hw2.below B1 (by omega) (by omega)
  have hs2 := hw2.size
  have Z2 := (dUnhide Z1)
  have Z2 : BxZ w2 w.heap.size (w.heap.size + 1) [.slice none 0 0, .int .i64 0] := ⟨Z2.1, fun i u hu => ⟨(World.cell?_of_block (a := ⟨w.heap.size + 1, i, none⟩) (hw2.block _ (dCell_lt (Z2.2 i u hu).1) (.inl (by simp only; omega)))).trans (Z2.2 i u hu).1, (World.frozen?_of_block (a := ⟨w.heap.size + 1, i, none⟩) (hw2.block _ (dCell_lt (Z2.2 i u hu).1) (.inl (by simp only; omega)))).trans (Z2.2 i u hu).2⟩⟩
  have X2 : Bx w2 w.heap.size [.func (.func 48) #[] #[.pointer (some ⟨cb, 0, none⟩)], .func (.func 50) #[] #[], .func (.func 51) #[] #[]] := fun i u hu => (World.cell?_of_block (a := ⟨w.heap.size, i, none⟩) (hw2.block _ (dCell_lt ((dUnhide HX1) i u hu)) (.inl (by simp only; omega)))).trans ((dUnhide HX1) i u hu)
  have b3 := ba w2 (.cells #[.slice ua n c, .int .i64 x] 29)
  have R3 := Bx.new w2 [.slice ua n c, .int .i64 x] 29
  have B3 := belowThen B2 b3
  have Z3 := dHide (Z2.below b3)
  have X3 := X2.below b3
  have hc3 := hc2.below b3
  have O3 := dHide ((dUnhide hO) _ _ _ _ _ hm2 b3.size (fun k _ hk => b3.block k hk))
  have hs3 : (w2.alloc (.cells #[.slice ua n c, .int .i64 x] 29)).heap.size = w2.heap.size + 1 := by simp
  have HM := dHide hmM
  clear C2 k2 HX1 Z1 B1 hw2 B2 Z2 X2 b3 hc2 hm2 hmM
  have HF := dHide fun (W : World) (hs : w2.heap.size + 1 ≤ W.heap.size) (hk : ∀ k, k < w2.heap.size + 1 → k < ab ∨ ab + 2 ≤ k → W.heap[k]? = (w2.alloc (.cells #[.slice ua n c, .int .i64 x] 29)).heap[k]?) (hb : Below w.heap.size w W) =>
    (⟨(dUnhide hO) _ _ _ _ W (dUnhide O3) (by rw [hs3]; exact hs) (fun k h1 h2 => hk k (by rw [hs3] at h2; exact h2) (.inr (by omega))),
      fun i u hu => (World.cell?_of_block (a := ⟨w2.heap.size, i, none⟩) (hk _ (by simp only; omega) (.inr (by simp only; omega)))).trans (R3 i u hu),
      ⟨(dUnhide Z3).1, fun i u hu => ⟨(World.cell?_of_block (a := ⟨w.heap.size + 1, i, none⟩) (hk _ (by simp only; omega) (.inl (by simp only; omega)))).trans ((dUnhide Z3).2 i u hu).1, (World.frozen?_of_block (a := ⟨w.heap.size + 1, i, none⟩) (hk _ (by simp only; omega) (.inl (by simp only; omega)))).trans ((dUnhide Z3).2 i u hu).2⟩⟩,
      fun i u hu => (World.cell?_of_block (a := ⟨w.heap.size, i, none⟩) (hk _ (by simp only; omega) (.inl (by simp only; omega)))).trans (X3 i u hu), hb⟩ :
      O w1.heap.size m (.agg #[.slice ua n c, .int .i64 x]) W ∧ Bx W w2.heap.size [.slice ua n c, .int .i64 x] ∧ BxZ W w.heap.size (w.heap.size + 1) [.slice none 0 0, .int .i64 0] ∧ Bx W w.heap.size [.func (.func 48) #[] #[.pointer (some ⟨cb, 0, none⟩)], .func (.func 50) #[] #[], .func (.func 51) #[] #[]] ∧ Below w.heap.size w W)
  have HF3 := dHide (dUnhide HF _ (by rw [hs3]; exact Nat.le_refl _) (fun _ _ _ => rfl) B3)
  have HFW := dHide fun (W : World) (hw : Wr ab (ab + 2) (w2.alloc (.cells #[.slice ua n c, .int .i64 x] 29)) W) => dUnhide HF W (by have := hw.size; rw [hs3] at this; exact this) (fun k hk hn => hw.block k (by rw [hs3]; exact hk) hn) (hw.below B3 (by rw [hs3]; omega) (by omega))
  clear Z3 R3 X3 O3 B3
  have HFIN := dHide fun (W : World) (oF : O w1.heap.size m (.agg #[.slice ua n c, .int .i64 x]) W) (zF : BxZ W w.heap.size (w.heap.size + 1) [.slice none 0 0, .int .i64 0]) (bF : Below w.heap.size w W) =>
    (⟨(dUnhide hOm) w.heap.size w1.heap.size m _ _ (by omega) ((dUnhide hO) _ _ _ W ((W.setCell ⟨w.heap.size + 1, 0, none⟩ (.slice ua n c)).setCell ⟨w.heap.size + 1, 1, none⟩ (.int .i64 x)).drew oF (by simp) (fun k h1 h2 => by
      show ((W.setCell ⟨w.heap.size + 1, 0, none⟩ (.slice ua n c)).setCell ⟨w.heap.size + 1, 1, none⟩ (.int .i64 x)).heap[k]? = _
      rw [Below.heap_setCell _ _ _ k (by simp only; omega), Below.heap_setCell _ _ _ k (by simp only; omega)])), (show BxZ ((W.setCell ⟨w.heap.size + 1, 0, none⟩ (.slice ua n c)).setCell ⟨w.heap.size + 1, 1, none⟩ (.int .i64 x)) _ _ _ from ((zF.put 0 (.slice ua n c)).put 1 (.int .i64 x))).drew', (show Below _ _ ((W.setCell ⟨w.heap.size + 1, 0, none⟩ (.slice ua n c)).setCell ⟨w.heap.size + 1, 1, none⟩ (.int .i64 x)) from (Below.setCell (p := ⟨w.heap.size + 1, 1, none⟩) (Below.setCell (p := ⟨w.heap.size + 1, 0, none⟩) bF (by simp only; omega) (.slice ua n c)) (by simp only; omega) (.int .i64 x))).drew⟩ :
      O w.heap.size m (.agg #[.slice ua n c, .int .i64 x]) ((W.setCell ⟨w.heap.size + 1, 0, none⟩ (.slice ua n c)).setCell ⟨w.heap.size + 1, 1, none⟩ (.int .i64 x)).drew ∧ BxZ ((W.setCell ⟨w.heap.size + 1, 0, none⟩ (.slice ua n c)).setCell ⟨w.heap.size + 1, 1, none⟩ (.int .i64 x)).drew w.heap.size (w.heap.size + 1) [.slice ua n c, .int .i64 x] ∧ Below w.heap.size w ((W.setCell ⟨w.heap.size + 1, 0, none⟩ (.slice ua n c)).setCell ⟨w.heap.size + 1, 1, none⟩ (.int .i64 x)).drew)
  cases ok2 with
  | true =>
    have h3 := hc3.isYes
    have hq2 := hq rfl
    obtain rfl := dUnhide HM rfl
    have d1 := (h3.1.2 1 _ rfl).1
    have d2 := (h3.1.2 2 _ rfl).1
    have dy := h3.2.1
    by_cases hlt : (q2 : Int) < (bs.length : Int)
    · go_upto_region 4 with fail
      generalize w2.alloc (.cells #[.slice ua n c, .int .i64 x] 29) = w3 at *
      have CR := dHide (refuse_new ab _ _ (q2 : Int) w3 h3)
      clear d2
      go_wp2_with fail
      refine (dUnhide CR).mono ?_
      rintro e w4 ⟨rfl, hc4, hw4⟩
      obtain ⟨oF, rF, zF, xF, bF⟩ := dUnhide HFW w4 hw4
      have dw := (hc4.1.2 2 _ rfl).1
      unfold wrg at dw
      have r0 := rF 0 _ rfl
      have r1 := rF 1 _ rfl
      obtain ⟨z0, y0⟩ := zF.2 0 _ rfl
      obtain ⟨z1, y1⟩ := zF.2 1 _ rfl
      have FIN := dHide (dUnhide HFIN _ oF zF bF)
      go_wp2_with fail
      go_region
      go_wp2
      have fin := dUnhide FIN
      generalize ((w4.setCell ⟨w.heap.size + 1, 0, none⟩ (.slice ua n c)).setCell ⟨w.heap.size + 1, 1, none⟩ (.int .i64 x)).drew = V at *
      obtain ⟨o, r, b⟩ := fin
      have qq0 := (r.2 0 _ rfl).1
      have qq1 := (r.2 1 _ rfl).1
      exact bodyPost_ret (v := .tuple #[.agg #[.slice ua n c, .int .i64 x], .iface 97 (.agg #[.int .i64 ((q2 : Nat))])]) (by simp [results, Tryz.results52, go_sem, qq0, qq1]) rfl ⟨_, _, _, _, _, rfl, _, o, (fun h => absurd h.2.1 (by omega)), (fun _ => ⟨_, rfl⟩), b⟩
    · have hql : q2 = bs.length := by omega
      obtain ⟨oF3, rF3, zF3, xF3, bF3⟩ := dUnhide HF3
      go_upto_region 5 with fail
      generalize w2.alloc (.cells #[.slice ua n c, .int .i64 x] 29) = w3 at *
      have c0 := rF3 0 _ rfl
      have c1 := rF3 1 _ rfl
      have x0 := xF3 0 _ rfl
      have CK := dHide (dUnhide HOK w3 ua n c x bF3 (by first | trivial | rfl) ((dUnhide hOm) _ w1.heap.size _ _ _ (by omega) oF3))
      clear oF3 rF3 zF3 xF3 bF3 HF3
      go_wp2_with fail
      refine (dUnhide CK).mono ?_
      rintro e w4 ⟨hr, b4⟩
      have h4 := h3.below b4
      by_cases hP : P m
      · obtain rfl := hr.of_yes hP
        obtain ⟨oF, rF, zF, xF, bF⟩ := dUnhide HFW w4 (Wr.of_below b4)
        have dw := (h4.1.2 2 _ rfl).1
        have r0 := rF 0 _ rfl
        have r1 := rF 1 _ rfl
        obtain ⟨z0, y0⟩ := zF.2 0 _ rfl
        obtain ⟨z1, y1⟩ := zF.2 1 _ rfl
        have FIN := dHide (dUnhide HFIN _ oF zF bF)
        clear hr CK h3 d1 d2 dy x0 c0 c1
        go_wp2_with fail
        go_region
        go_wp2
        have fin := dUnhide FIN
        generalize ((w4.setCell ⟨w.heap.size + 1, 0, none⟩ (.slice ua n c)).setCell ⟨w.heap.size + 1, 1, none⟩ (.int .i64 x)).drew = V at *
        obtain ⟨o, r, b⟩ := fin
        have qq0 := (r.2 0 _ rfl).1
        have qq1 := (r.2 1 _ rfl).1
        exact bodyPost_ret (v := .tuple #[.agg #[.slice ua n c, .int .i64 x], .nilIface]) (by simp [results, Tryz.results52, go_sem, qq0, qq1]) rfl ⟨_, _, _, _, _, rfl, _, o, (fun _ => ⟨rfl, rfl⟩), (fun h => absurd ⟨rfl, hql, hP⟩ h), b⟩
      · obtain rfl := hr.of_no hP
        have CR := dHide (refuse_new ab _ _ 0 w4 h4)
        clear hr CK h3 d1 d2 dy x0 c0 c1
        go_wp2_with fail
        refine (dUnhide CR).mono ?_
        rintro e w5 ⟨rfl, hc5, hw5⟩
        obtain ⟨oF, rF, zF, xF, bF⟩ := dUnhide HFW w5 ((Wr.of_below b4).trans hw5)
        have dw := (hc5.1.2 2 _ rfl).1
        unfold wrg at dw
        have r0 := rF 0 _ rfl
        have r1 := rF 1 _ rfl
        obtain ⟨z0, y0⟩ := zF.2 0 _ rfl
        obtain ⟨z1, y1⟩ := zF.2 1 _ rfl
        have FIN := dHide (dUnhide HFIN _ oF zF bF)
        go_wp2_with fail
        go_region
        go_wp2
        have fin := dUnhide FIN
        generalize ((w5.setCell ⟨w.heap.size + 1, 0, none⟩ (.slice ua n c)).setCell ⟨w.heap.size + 1, 1, none⟩ (.int .i64 x)).drew = V at *
        obtain ⟨o, r, b⟩ := fin
        have qq0 := (r.2 0 _ rfl).1
        have qq1 := (r.2 1 _ rfl).1
        exact bodyPost_ret (v := .tuple #[.agg #[.slice ua n c, .int .i64 x], .iface 97 (.agg #[.int .i64 (0)])]) (by simp [results, Tryz.results52, go_sem, qq0, qq1]) rfl ⟨_, _, _, _, _, rfl, _, o, (fun h => absurd h.2.2 hP), (fun _ => ⟨_, rfl⟩), b⟩
  | false =>
    obtain ⟨p, y, h3⟩ := hc3.isNo
    have d1 := (h3.1.2 1 _ rfl).1
    have d2 := (h3.1.2 2 _ rfl).1
    have dy := h3.2.1
    have CR := dHide (refuse_old ab _ y y p _ h3)
    obtain ⟨oF, rF, zF, xF, bF⟩ := dUnhide HF3
    unfold wrg at d2
    by_cases hlt : y < (bs.length : Int)
    · go_upto_region 4 with fail
      generalize w2.alloc (.cells #[.slice ua n c, .int .i64 x] 29) = w3 at *
      go_wp2_with fail
      refine (dUnhide CR).mono ?_
      rintro e w4 ⟨rfl, rfl⟩
      have r0 := rF 0 _ rfl
      have r1 := rF 1 _ rfl
      obtain ⟨z0, y0⟩ := zF.2 0 _ rfl
      obtain ⟨z1, y1⟩ := zF.2 1 _ rfl
      have FIN := dHide (dUnhide HFIN _ oF zF bF)
      go_wp2_with fail
      go_region
      go_wp2
      have fin := dUnhide FIN
      generalize ((w4.setCell ⟨w.heap.size + 1, 0, none⟩ (.slice ua n c)).setCell ⟨w.heap.size + 1, 1, none⟩ (.int .i64 x)).drew = V at *
      obtain ⟨o, r, b⟩ := fin
      have qq0 := (r.2 0 _ rfl).1
      have qq1 := (r.2 1 _ rfl).1
      exact bodyPost_ret (v := .tuple #[.agg #[.slice ua n c, .int .i64 x], .iface 97 (.agg #[.int .i64 (p)])]) (by simp [results, Tryz.results52, go_sem, qq0, qq1]) rfl ⟨_, _, _, _, _, rfl, _, o, (fun h => by cases h.1), (fun _ => ⟨_, rfl⟩), b⟩
    · go_upto_region 5 with fail
      generalize w2.alloc (.cells #[.slice ua n c, .int .i64 x] 29) = w3 at *
      have r0 := rF 0 _ rfl
      have r1 := rF 1 _ rfl
      obtain ⟨z0, y0⟩ := zF.2 0 _ rfl
      obtain ⟨z1, y1⟩ := zF.2 1 _ rfl
      have FIN := dHide (dUnhide HFIN _ oF zF bF)
      go_wp2_with fail
      go_region
      go_wp2
      have fin := dUnhide FIN
      generalize ((w3.setCell ⟨w.heap.size + 1, 0, none⟩ (.slice ua n c)).setCell ⟨w.heap.size + 1, 1, none⟩ (.int .i64 x)).drew = V at *
      obtain ⟨o, r, b⟩ := fin
      have qq0 := (r.2 0 _ rfl).1
      have qq1 := (r.2 1 _ rfl).1
      exact bodyPost_ret (v := .tuple #[.agg #[.slice ua n c, .int .i64 x], .iface 97 (.agg #[.int .i64 (p)])]) (by simp [results, Tryz.results52, go_sem, qq0, qq1]) rfl ⟨_, _, _, _, _, rfl, _, o, (fun h => by cases h.1), (fun _ => ⟨_, rfl⟩), b⟩
end Go.Proofs.YtioocibgfhgkhaaGreatDoor
namespace Go.Proofs.YtioocibgfhgkhaaGreatDoor
open Go.ChangeShapes Go.WideShapes Go.ChangeAt Go.RowKit
set_option linter.unusedVariables false
set_option linter.unusedSimpArgs false
set_option maxRecDepth 100000

set_option maxHeartbeats 8000000 in
theorem unpackRegister (cb : Nat) (v : Value) (O : Nat → Rg → Value → World → Prop) (hO : ∀ b m u, FarO b (O b m u)) (hOm : ∀ b b' m u W, b ≤ b' → O b' m u W → O b m u W) (G : Prop) (M : Rg) (w : World) (hH : Hnd w)
    (CI : ∀ W, Below w.heap.size w W → Calls Tryz.prog 52 #[.agg #[.func (.func 48) #[] #[.pointer (some ⟨cb, 0, none⟩)], .func (.func 50) #[] #[], .func (.func 51) #[] #[]], v] W fun e w' => ∃ (ua : Option Addr) (n c : Nat) (x : Int) (err : Value), e = .returned (.tuple #[.agg #[.slice ua n c, .int .i64 x], err]) ∧ RecPost (O W.heap.size) G M W (.agg #[.slice ua n c, .int .i64 x]) err w') (va : Option Addr) (vn vcp : Nat) (hvv : v = .slice va vn vcp) :
    Calls Tryz.prog 29 #[.agg #[.func (.func 48) #[] #[.pointer (some ⟨cb, 0, none⟩)], .func (.func 50) #[] #[], .func (.func 51) #[] #[]], v] w fun e w' => ∃ (ua : Option Addr) (n c : Nat) (x : Int) (b : Bool), e = .returned (.tuple #[.agg #[.slice ua n c, .int .i64 x], .bool b]) ∧ UnPost (O w.heap.size) G M (.agg #[.slice none 0 0, .int .i64 0]) w (.agg #[.slice ua n c, .int .i64 x]) b w' := by
  have ba : ∀ (w : World) o, Below w.heap.size w (w.alloc o) := fun w o => (Below.refl _ _).alloc (Nat.le_refl _) o
  subst hvv
  replace CI := dHide CI
  replace hO := dHide hO
  replace hOm := dHide hOm
  have e1 : (w.alloc (.cells #[.func (.func 48) #[] #[.pointer (some ⟨cb, 0, none⟩)], .func (.func 50) #[] #[], .func (.func 51) #[] #[]] 64)).heap.size = w.heap.size + 1 := by simp
  have X0 := (Bx.new w [.func (.func 48) #[] #[.pointer (some ⟨cb, 0, none⟩)], .func (.func 50) #[] #[], .func (.func 51) #[] #[]] 64).below (ba _ (.cells #[.slice none 0 0, .int .i64 0] 29))
  have Z0 := BxZ.new (B := w.heap.size) (w.alloc (.cells #[.func (.func 48) #[] #[.pointer (some ⟨cb, 0, none⟩)], .func (.func 50) #[] #[], .func (.func 51) #[] #[]] 64)) [.slice none 0 0, .int .i64 0] 29 (by simp)
  rw [e1] at Z0
  have B0 := belowThen (ba w (.cells #[.func (.func 48) #[] #[.pointer (some ⟨cb, 0, none⟩)], .func (.func 50) #[] #[], .func (.func 51) #[] #[]] 64)) (ba _ (.cells #[.slice none 0 0, .int .i64 0] 29))
  have e2 : ((w.alloc (.cells #[.func (.func 48) #[] #[.pointer (some ⟨cb, 0, none⟩)], .func (.func 50) #[] #[], .func (.func 51) #[] #[]] 64)).alloc (.cells #[.slice none 0 0, .int .i64 0] 29)).heap.size = w.heap.size + 2 := by simp
  have hH := dHide fun (W : World) (hb : Below w.heap.size w W) => hH.below hb (Nat.le_refl _)
  clear e1
  go_enter Tryz.func29, Tryz.ntmps29
  go_upto_region 1 with fail
  generalize (w.alloc (.cells #[.func (.func 48) #[] #[.pointer (some ⟨cb, 0, none⟩)], .func (.func 50) #[] #[], .func (.func 51) #[] #[]] 64)).alloc (.cells #[.slice none 0 0, .int .i64 0] 29) = w0 at *
  have f0 := X0 0 _ rfl
  have f1 := X0 1 _ rfl
  have f2 := X0 2 _ rfl
  have C1 := dHide (dUnhide CI w0 B0)
  clear CI X0
  go_wp2_with fail
  refine (dUnhide C1).mono ?_
  rintro e w1 ⟨ua, n, c, x, err, rfl, m, hm, hy, hn, b1⟩
  have B1 := belowThen B0 b1
  have Z1 := Z0.below b1
  have hs1 := b1.size
  have b2 := ba w1 (.cells #[.slice ua n c, .int .i64 x] 29)
  have b3 := ba (w1.alloc (.cells #[.slice ua n c, .int .i64 x] 29)) (.cells #[.int .i64 0] 97)
  have R2 := (Bx.new w1 [.slice ua n c, .int .i64 x] 29).below b3
  have T3 := BxZ.new (B := w.heap.size) (w1.alloc (.cells #[.slice ua n c, .int .i64 x] 29)) [.int .i64 0] 97 (by simp; omega)
  have hs2 : (w1.alloc (.cells #[.slice ua n c, .int .i64 x] 29)).heap.size = w1.heap.size + 1 := by simp
  have hs3 : ((w1.alloc (.cells #[.slice ua n c, .int .i64 x] 29)).alloc (.cells #[.int .i64 0] 97)).heap.size = w1.heap.size + 2 := by simp
  rw [hs2] at T3
  have B3 := belowThen (belowThen B1 b2) b3
  have Z3 := (Z1.below b2).below b3
  have O3 := dHide ((dUnhide hO) _ _ _ _ _ ((dUnhide hO) _ _ _ _ _ hm b2.size (fun k _ hk => b2.block k hk)) b3.size (fun k _ hk => b3.block k hk))
  have H3 := (dUnhide hH) _ B3
  by_cases hG : G
  · obtain ⟨rfl, rfl⟩ := hy hG
    have CA := dHide (as_nil (.iface 99 (.pointer (some ⟨w1.heap.size + 1, 0, none⟩))) ((w1.alloc (.cells #[.slice ua n c, .int .i64 x] 29)).alloc (.cells #[.int .i64 0] 97)))
    clear C1 f0 f1 f2 hy hn hm H3 T3 b2 b3 b1 Z0 B0 Z1 B1
    go_upto_region 3 with fail
    go_wp2_with fail
    generalize (w1.alloc (.cells #[.slice ua n c, .int .i64 x] 29)).alloc (.cells #[.int .i64 0] 97) = w3 at *
    refine (dUnhide CA).mono ?_
    rintro e w4 ⟨rfl, rfl⟩
    have FIN := dHide (⟨(dUnhide hOm) w.heap.size _ _ _ _ (by omega) ((dUnhide hO) _ _ _ _ ((w4.setCell ⟨w.heap.size + 1, 0, none⟩ (.slice ua n c)).setCell ⟨w.heap.size + 1, 1, none⟩ (.int .i64 x)) (dUnhide O3) (by simp) (fun k h1 h2 => by
      show ((w4.setCell ⟨w.heap.size + 1, 0, none⟩ (.slice ua n c)).setCell ⟨w.heap.size + 1, 1, none⟩ (.int .i64 x)).heap[k]? = _
      rw [Below.heap_setCell _ _ _ k (by simp only; omega), Below.heap_setCell _ _ _ k (by simp only; omega)])), (show BxZ ((w4.setCell ⟨w.heap.size + 1, 0, none⟩ (.slice ua n c)).setCell ⟨w.heap.size + 1, 1, none⟩ (.int .i64 x)) _ _ _ from ((Z3.put 0 (.slice ua n c)).put 1 (.int .i64 x))), (show Below _ _ ((w4.setCell ⟨w.heap.size + 1, 0, none⟩ (.slice ua n c)).setCell ⟨w.heap.size + 1, 1, none⟩ (.int .i64 x)) from (Below.setCell (p := ⟨w.heap.size + 1, 1, none⟩) (Below.setCell (p := ⟨w.heap.size + 1, 0, none⟩) B3 (by simp only; omega) (.slice ua n c)) (by simp only; omega) (.int .i64 x)))⟩ :
      O w.heap.size m (.agg #[.slice ua n c, .int .i64 x]) ((w4.setCell ⟨w.heap.size + 1, 0, none⟩ (.slice ua n c)).setCell ⟨w.heap.size + 1, 1, none⟩ (.int .i64 x)) ∧ BxZ ((w4.setCell ⟨w.heap.size + 1, 0, none⟩ (.slice ua n c)).setCell ⟨w.heap.size + 1, 1, none⟩ (.int .i64 x)) w.heap.size (w.heap.size + 1) [.slice ua n c, .int .i64 x] ∧ Below w.heap.size w ((w4.setCell ⟨w.heap.size + 1, 0, none⟩ (.slice ua n c)).setCell ⟨w.heap.size + 1, 1, none⟩ (.int .i64 x)))
    clear CA
    have r0 := R2 0 _ rfl
    have r1 := R2 1 _ rfl
    obtain ⟨z0, y0⟩ := Z3.2 0 _ rfl
    obtain ⟨z1, y1⟩ := Z3.2 1 _ rfl
    go_wp2
    have fin := dUnhide FIN
    generalize ((w4.setCell ⟨w.heap.size + 1, 0, none⟩ (.slice ua n c)).setCell ⟨w.heap.size + 1, 1, none⟩ (.int .i64 x)) = V at *
    obtain ⟨o, r, b⟩ := fin
    have qq0 := (r.2 0 _ rfl).1
    have qq1 := (r.2 1 _ rfl).1
    exact bodyPost_ret (v := .tuple #[.agg #[.slice ua n c, .int .i64 x], .bool true]) (by simp [results, Tryz.results29, go_sem, qq0, qq1]) rfl ⟨_, _, _, _, _, rfl, fun _ => ⟨rfl, o⟩, fun h => absurd hG h, b⟩
  · obtain ⟨p, rfl⟩ := hn hG
    have CA := dHide (as_bad (w1.heap.size + 1) p 0 ((w1.alloc (.cells #[.slice ua n c, .int .i64 x] 29)).alloc (.cells #[.int .i64 0] 97)) H3 (T3.2 0 _ rfl).1 (T3.2 0 _ rfl).2)
    unfold wrg
    clear C1 f0 f1 f2 hy hn hm H3 b2 b3 b1 Z0 B0 Z1 B1 O3 R2
    go_upto_region 3 with fail
    go_wp2_with fail
    generalize (w1.alloc (.cells #[.slice ua n c, .int .i64 x] 29)).alloc (.cells #[.int .i64 0] 97) = w3 at *
    refine (dUnhide CA).mono ?_
    rintro e w4 ⟨rfl, d4⟩
    have B4 : Below w.heap.size w w4 := d4.below B3 (by omega) (by omega)
    have Z4 := Z3.drawn d4 (by omega)
    have b5 := ba w4 (.cells #[.slice none 0 0, .int .i64 0] 29)
    have B5 := belowThen B4 b5
    have Z5 := Z4.below b5
    have R5 := Bx.new w4 [.slice none 0 0, .int .i64 0] 29
    have FIN := dHide (⟨trivial, (show BxZ (((w4.alloc (.cells #[.slice none 0 0, .int .i64 0] 29)).setCell ⟨w.heap.size + 1, 0, none⟩ (.slice none 0 0)).setCell ⟨w.heap.size + 1, 1, none⟩ (.int .i64 0)) _ _ _ from ((Z5.put 0 (.slice none 0 0)).put 1 (.int .i64 0))), (show Below _ _ (((w4.alloc (.cells #[.slice none 0 0, .int .i64 0] 29)).setCell ⟨w.heap.size + 1, 0, none⟩ (.slice none 0 0)).setCell ⟨w.heap.size + 1, 1, none⟩ (.int .i64 0)) from (Below.setCell (p := ⟨w.heap.size + 1, 1, none⟩) (Below.setCell (p := ⟨w.heap.size + 1, 0, none⟩) B5 (by simp only; omega) (.slice none 0 0)) (by simp only; omega) (.int .i64 0)))⟩ :
      True ∧ BxZ (((w4.alloc (.cells #[.slice none 0 0, .int .i64 0] 29)).setCell ⟨w.heap.size + 1, 0, none⟩ (.slice none 0 0)).setCell ⟨w.heap.size + 1, 1, none⟩ (.int .i64 0)) w.heap.size (w.heap.size + 1) [.slice none 0 0, .int .i64 0] ∧ Below w.heap.size w (((w4.alloc (.cells #[.slice none 0 0, .int .i64 0] 29)).setCell ⟨w.heap.size + 1, 0, none⟩ (.slice none 0 0)).setCell ⟨w.heap.size + 1, 1, none⟩ (.int .i64 0)))
    clear CA d4 B4 Z4 Z3 B3 T3
    have r0 := R5 0 _ rfl
    have r1 := R5 1 _ rfl
    obtain ⟨z0, y0⟩ := Z5.2 0 _ rfl
    obtain ⟨z1, y1⟩ := Z5.2 1 _ rfl
    go_wp2
    have fin := dUnhide FIN
    generalize (((w4.alloc (.cells #[.slice none 0 0, .int .i64 0] 29)).setCell ⟨w.heap.size + 1, 0, none⟩ (.slice none 0 0)).setCell ⟨w.heap.size + 1, 1, none⟩ (.int .i64 0)) = V at *
    obtain ⟨o, r, b⟩ := fin
    have qq0 := (r.2 0 _ rfl).1
    have qq1 := (r.2 1 _ rfl).1
    exact bodyPost_ret (v := .tuple #[.agg #[.slice none 0 0, .int .i64 0], .bool false]) (by simp [results, Tryz.results29, go_sem, qq0, qq1]) rfl ⟨_, _, _, _, _, rfl, fun h => absurd h hG, fun _ => ⟨rfl, rfl⟩, b⟩
end Go.Proofs.YtioocibgfhgkhaaGreatDoor
namespace Go.Proofs.YtioocibgfhgkhaaGreatDoor
open Go.ChangeShapes Go.WideShapes Go.ChangeAt Go.RowKit
set_option linter.unusedVariables false
set_option linter.unusedSimpArgs false
set_option maxRecDepth 100000

theorem BxZ.wrZ {W W' : World} {B b ab : Nat} {vs : List Value} (h : BxZ W B b vs) (hw : Wr ab (ab + 2) W W') (hb : ab + 2 ≤ b) : BxZ W' B b vs :=
  ⟨h.1, fun i u hu => ⟨(World.cell?_of_block (a := ⟨b, i, none⟩) (hw.block _ (dCell_lt (h.2 i u hu).1) (.inr hb))).trans (h.2 i u hu).1, (World.frozen?_of_block (a := ⟨b, i, none⟩) (hw.block _ (dCell_lt (h.2 i u hu).1) (.inr hb))).trans (h.2 i u hu).2⟩⟩
theorem OwnN.wr17 {lo hi base : Nat} {w w' : World} {v : Value} {xs : List Int} (h : OwnN w base v xs) (hd : Wr lo hi w w') (hb : hi ≤ base) : OwnN w' base v xs := OwnN.farO base v xs w w' h hd.size (fun k h1 h2 => hd.block k h2 (.inr (by omega)))
theorem ApR.farR {n : Nat} {u : Value} {rs : List (Nst Er)} {W W' : World} (h : ApR 56 3 erCl W n u rs) (hs : W.heap.size ≤ W'.heap.size) (hk : ∀ k, n ≤ k → k < W.heap.size → W'.heap[k]? = W.heap[k]?) : ApR 56 3 erCl W' n u rs := by
  rcases h with h | h
  · exact .inl h
  · refine .inr ?_
    rcases h.2 with h0 | ⟨g, cap, cur, h1, h2, h3, h4⟩
    · exact ⟨h.1, .inl h0⟩
    · exact ⟨h.1, .inr ⟨g, cap, cur, h1, h2, (hk g h2 (Array.getElem?_eq_some_iff.1 h3).1).trans h3, h4⟩⟩
theorem ApR.wrR {lo hi n : Nat} {u : Value} {rs : List (Nst Er)} {W W' : World} (h : ApR 56 3 erCl W n u rs) (hd : Wr lo hi W W') (hb : hi ≤ n) : ApR 56 3 erCl W' n u rs := h.farR hd.size (fun k h1 h2 => hd.block k h2 (.inr (by omega)))
theorem NAp.farO (n : Nat) (u : Value) (ms : List Er) : FarO n (fun W => NAp W n u ms) := fun W W' h hs hk => by
  obtain ⟨rs, h1, h2, h3, h4, h5⟩ := h
  exact ⟨rs, h1, h2.farR hs hk, fun p hp => OwnN.farO n _ _ W W' (h3 p hp) hs hk, h4, h5⟩
theorem NAp.wr {lo hi base : Nat} {w w' : World} {v : Value} {ms : List Er} (h : NAp w base v ms) (hd : Wr lo hi w w') (hb : hi ≤ base) : NAp w' base v ms := NAp.farO base v ms w w' h hd.size (fun k h1 h2 => hd.block k h2 (.inr (by omega)))
/-- A list of eras is read. -/
def rdErl (bs : List UInt8) (q : Nat) (ok : Bool) : List Er × Nat × Bool := rdErs bs (rdN bs q ok).1.toNat (rdN bs q ok).2.1 (rdN bs q ok).2.2
set_option maxHeartbeats 4000000 in
theorem flag_any (ab : Nat) (v : Value) (bs : List UInt8) (q : Nat) (ok : Bool) (w : World) (hc : Rc w ab v q ok) (hv : Bs w v bs) (hne : bs = [] ∨ blockOf v ≠ ab) :
    Calls Tryz.prog 104 #[.pointer (some ⟨ab + 1, 0, none⟩)] w fun e w' => ∃ b : Bool, e = .returned (.bool b) ∧ (((rdN bs q ok).2.2 && decide ((rdN bs q ok).1 ≤ 1)) = true → b = ((rdN bs q ok).1 == 1)) ∧ Rc w' ab v (rdN bs q ok).2.1 ((rdN bs q ok).2.2 && decide ((rdN bs q ok).1 ≤ 1)) ∧ Wr ab (ab + 2) w w' := by
  have C1 := dHide (number_any ab v bs q ok w hc hv hne)
  have hd1 : ∃ y, w.cell? ⟨ab + 1, 1, none⟩ = some (.pointer (some ⟨ab, 0, none⟩)) ∧ w.cell? ⟨ab, 0, none⟩ = some (.int .i64 y) := by
    cases ok
    · obtain ⟨p, y, h⟩ := hc.isNo
      exact ⟨y, (h.1.2 1 _ rfl).1, h.2.1⟩
    · exact ⟨_, (hc.isYes.1.2 1 _ rfl).1, hc.isYes.2.1⟩
  obtain ⟨y, d1, d2⟩ := hd1
  generalize rdN bs q ok = R at *
  obtain ⟨cz, q1, o1⟩ := R
  simp only at C1 ⊢
  clear hc hv
  have FR : Hid (∀ p w1, Rc w1 ab v q1 o1 → (o1 && decide (cz ≤ 1)) = false → Calls Tryz.prog 80 #[.pointer (some ⟨ab + 1, 0, none⟩), .int .i64 p] w1 fun e w' => e = .returned (.tuple #[]) ∧ Rc w' ab v q1 (o1 && decide (cz ≤ 1)) ∧ Wr ab (ab + 2) w1 w') := fun p w1 h hF => by
    rw [hF]
    cases o1
    · obtain ⟨p', y', h'⟩ := h.isNo
      exact (refuse_old ab v y' p p' w1 h').mono fun e w' k => ⟨k.1, by rw [k.2]; exact h, by rw [k.2]; exact Wr.refl _ _ _⟩
    · exact (refuse_new ab v _ p w1 h.isYes).mono fun e w' k => ⟨k.1, Rc.no k.2.1, k.2.2⟩
  have FK : Hid (∀ w1 (x : Int), Rc w1 ab v q1 o1 → (o1 = true → x = cz) → x ≤ 1 → Rc w1 ab v q1 (o1 && decide (cz ≤ 1))) := fun w1 x h hx h1 => by
    cases o1
    · exact h
    · rw [Bool.true_and, decide_eq_true (by rw [← hx rfl]; exact h1)]; exact h
  go_enter Tryz.func104, Tryz.ntmps104
  go_wp2_with fail
  refine (dUnhide C1).mono ?_
  rintro e w1 ⟨x, rfl, hxb, hx, hc1, hw1⟩
  have HX := dHide hx
  have HC1 := dHide hc1
  have HW1 := dHide hw1
  have HF : Hid (1 < x → (o1 && decide (cz ≤ 1)) = false) := fun h => by
    cases o1
    · rfl
    · rw [Bool.true_and, decide_eq_false (by rw [← hx rfl]; omega)]
  have HB : Hid ((o1 && decide (cz ≤ 1)) = true → (x == 1) = (cz == 1)) := fun h => by
    rw [Bool.and_eq_true] at h
    rw [hx h.1]
  clear C1 hx hc1 hw1 d1 d2
  by_cases hgt : 1 < x
  · have C2 := dHide (dUnhide FR y w1 (dUnhide HC1) (dUnhide HF hgt))
    clear FR FK
    go_wp2_with fail
    refine (dUnhide C2).mono ?_
    rintro e w2 ⟨rfl, hc2, hw2⟩
    have F := dHide (And.intro hc2 ((dUnhide HW1).trans hw2))
    clear C2 hc2 hw2
    go_wp2
    go_ret
    exact ⟨_, rfl, dUnhide HB, (dUnhide F).1, (dUnhide F).2⟩
  · have F := dHide (And.intro (dUnhide FK w1 x (dUnhide HC1) (dUnhide HX) (by omega)) (dUnhide HW1))
    clear FR FK
    go_wp2
    go_ret
    exact ⟨_, rfl, dUnhide HB, (dUnhide F).1, (dUnhide F).2⟩
set_option maxHeartbeats 4000000 in
theorem era_any (ab : Nat) (v : Value) (bs : List UInt8) (q : Nat) (ok : Bool) (w : World) (hc : Rc w ab v q ok) (HV : ∀ W, Wr ab (ab + 2) w W → Bs W v bs) (hl : bs.length ≤ 1048576) (hq : q ≤ bs.length) (hne : bs = [] ∨ blockOf v ≠ ab) :
    Calls Tryz.prog 78 #[.pointer (some ⟨ab + 1, 0, none⟩)] w fun e w' => ∃ m : Nst Er, e = .returned (.agg #[.slice m.a m.m.nodes.length m.c, .bool m.m.closed, .int .i64 m.m.last]) ∧ OwnN w' w.heap.size (Sv Er.nodes m) m.m.nodes ∧ ((rdEr bs q ok).2.2 = true → m.m = (rdEr bs q ok).1) ∧ Rc w' ab v (rdEr bs q ok).2.1 (rdEr bs q ok).2.2 ∧ Wr ab (ab + 2) w w' := by
  have hab := hc.lt
  have ba : Below w.heap.size w (w.alloc (.cells #[.slice none 0 0, .bool false, .int .i64 0] 56)) := (Below.refl _ _).alloc (Nat.le_refl _) _
  have Z0 := BxZ.new (B := w.heap.size) w [.slice none 0 0, .bool false, .int .i64 0] 56 (Nat.le_refl _)
  have HV := dHide HV
  have CL := dHide fun W (hd : Wr ab (ab + 2) w W) (hc : Rc W ab v q ok) => listOfI_any ab v bs q ok W hc (fun W' hW' => dUnhide HV W' (hd.trans hW')) hl hq hne
  have CF := dHide fun W (hd : Wr ab (ab + 2) w W) (hc : Rc W ab v (rdL bs q ok).2.1 (rdL bs q ok).2.2) => flag_any ab v bs _ _ W hc (dUnhide HV W hd) hne
  have CN := dHide fun W (hd : Wr ab (ab + 2) w W) (hc : Rc W ab v (rdN bs (rdL bs q ok).2.1 (rdL bs q ok).2.2).2.1 ((rdN bs (rdL bs q ok).2.1 (rdL bs q ok).2.2).2.2 && decide ((rdN bs (rdL bs q ok).2.1 (rdL bs q ok).2.2).1 ≤ 1))) => number_any ab v bs _ _ W hc (dUnhide HV W hd) hne
  have W0 := Wr.of_below (lo := ab) (hi := ab + 2) ba
  have V0 := Wr.refl ab (ab + 2) (w.alloc (.cells #[.slice none 0 0, .bool false, .int .i64 0] 56))
  have hs0 : (w.alloc (.cells #[.slice none 0 0, .bool false, .int .i64 0] 56)).heap.size = w.heap.size + 1 := by simp
  have K1 : Hid ((rdN bs (rdL bs q ok).2.1 (rdL bs q ok).2.2).2.2 = true → (rdL bs q ok).2.2 = true) := rdN_was
  have K3 : Hid (((rdN bs (rdL bs q ok).2.1 (rdL bs q ok).2.2).2.2 && decide ((rdN bs (rdL bs q ok).2.1 (rdL bs q ok).2.2).1 ≤ 1)) = true → rdN bs (rdN bs (rdL bs q ok).2.1 (rdL bs q ok).2.2).2.1 ((rdN bs (rdL bs q ok).2.1 (rdL bs q ok).2.2).2.2 && decide ((rdN bs (rdL bs q ok).2.1 (rdL bs q ok).2.2).1 ≤ 1)) = rdN bs (rdN bs (rdL bs q ok).2.1 (rdL bs q ok).2.2).2.1 (rdN bs (rdL bs q ok).2.1 (rdL bs q ok).2.2).2.2) := fun h => by
    have h' := h
    rw [Bool.and_eq_true] at h'
    rw [h, h'.1]
  have K4 : Hid ((rdN bs (rdN bs (rdL bs q ok).2.1 (rdL bs q ok).2.2).2.1 (rdN bs (rdL bs q ok).2.1 (rdL bs q ok).2.2).2.2).2.2 = true → (rdN bs (rdL bs q ok).2.1 (rdL bs q ok).2.2).2.2 = true) := rdN_was
  have K5 : Hid (((rdN bs (rdL bs q ok).2.1 (rdL bs q ok).2.2).2.2 && decide ((rdN bs (rdL bs q ok).2.1 (rdL bs q ok).2.2).1 ≤ 1)) = false → (rdN bs (rdN bs (rdL bs q ok).2.1 (rdL bs q ok).2.2).2.1 ((rdN bs (rdL bs q ok).2.1 (rdL bs q ok).2.2).2.2 && decide ((rdN bs (rdL bs q ok).2.1 (rdL bs q ok).2.2).1 ≤ 1))).2.2 = false) := fun h => by rw [h]; rfl
  have EE : Hid (rdEr bs q ok = (⟨(rdL bs q ok).1, (rdN bs (rdL bs q ok).2.1 (rdL bs q ok).2.2).1 == 1, (rdN bs (rdN bs (rdL bs q ok).2.1 (rdL bs q ok).2.2).2.1 (rdN bs (rdL bs q ok).2.1 (rdL bs q ok).2.2).2.2).1⟩, (rdN bs (rdN bs (rdL bs q ok).2.1 (rdL bs q ok).2.2).2.1 (rdN bs (rdL bs q ok).2.1 (rdL bs q ok).2.2).2.2).2.1, (rdN bs (rdN bs (rdL bs q ok).2.1 (rdL bs q ok).2.2).2.1 (rdN bs (rdL bs q ok).2.1 (rdL bs q ok).2.2).2.2).2.2 && decide ((rdN bs (rdL bs q ok).2.1 (rdL bs q ok).2.2).1 ≤ 1))) := rfl
  generalize rdEr bs q ok = RE at *
  generalize (rdN bs (rdN bs (rdL bs q ok).2.1 (rdL bs q ok).2.2).2.1 (rdN bs (rdL bs q ok).2.1 (rdL bs q ok).2.2).2.2) = T3 at *
  generalize (rdN bs (rdN bs (rdL bs q ok).2.1 (rdL bs q ok).2.2).2.1 ((rdN bs (rdL bs q ok).2.1 (rdL bs q ok).2.2).2.2 && decide ((rdN bs (rdL bs q ok).2.1 (rdL bs q ok).2.2).1 ≤ 1))) = T4 at *
  generalize (rdN bs (rdL bs q ok).2.1 (rdL bs q ok).2.2) = N2 at *
  generalize (rdL bs q ok) = N1 at *
  have eE := dUnhide EE
  subst eE
  obtain ⟨ns, p1, o1⟩ := N1
  obtain ⟨cz, p2, o2⟩ := N2
  obtain ⟨lz, p3, o3⟩ := T3
  obtain ⟨l4, p4, o4⟩ := T4
  simp only at CL CF CN K1 K3 K4 K5 ⊢
  have hc0 := hc.below ba
  clear EE hc
  go_enter Tryz.func78, Tryz.ntmps78
  go_upto_region 1 with fail
  generalize w.alloc (.cells #[.slice none 0 0, .bool false, .int .i64 0] 56) = w0 at *
  have D1 := dHide (dUnhide CL w0 W0 hc0)
  clear CL hc0
  go_wp2_with fail
  refine (dUnhide D1).mono ?_
  rintro e w1 ⟨u, xs, rfl, O1, hx0, hc1, hw1⟩
  have W1 := W0.trans hw1
  have V1 := V0.trans hw1
  have hs1 := hw1.size
  obtain ⟨-, ua, uc, rfl, -⟩ := O1.bs
  have D2 := dHide (dUnhide CF w1 W1 hc1)
  have HX0 := dHide hx0
  clear D1 CF hc1 hw1 hx0
  go_wp2_with fail
  refine (dUnhide D2).mono ?_
  rintro e w2 ⟨x1, rfl, hx1, hc2, hw2⟩
  have W2 := W1.trans hw2
  have V2 := V1.trans hw2
  have O2 := O1.wr17 hw2 (by omega)
  have D3 := dHide (dUnhide CN w2 W2 hc2)
  have HX1 := dHide hx1
  clear D2 CN hc2 hw2 hx1 O1
  go_wp2_with fail
  refine (dUnhide D3).mono ?_
  rintro e w3 ⟨x2, rfl, hb2, hx2, hc3, hw3⟩
  have W3 := W2.trans hw3
  have V3 := V2.trans hw3
  have O3 := dHide (O2.wr17 hw3 (by omega))
  have HX2 := dHide hx2
  have hs3 := W3.size
  have Z3 : BxZ w3 w.heap.size w.heap.size [.slice none 0 0, .bool false, .int .i64 0] := Z0.wrZ V3 hab
  have HC3 := dHide hc3
  clear D3 hx2 hw3 W1 W2 O2 hc3
  go_wp2_with (refine wp_putW rfl _ _ _ rfl rfl [.slice ua xs.length uc, .bool x1, .int .i64 x2] rfl rfl Z3 rfl (by kernel_rfl) (by kernel_rfl) ?_; intro w4 Y4 s4 g4 b4)
  refine bodyPost_ret (results_box Tryz.results78 _ _ _ [.slice ua xs.length uc, .bool x1, .int .i64 x2] _ rfl Y4.bx Tryz.underlying56 rfl (by kernel_rfl)) rfl ⟨⟨ua, uc, ⟨xs, x1, x2⟩⟩, rfl, ?_, fun h => ?_, ?_, W3.new (Nat.le_refl _) g4 s4 b4⟩
  · exact (OwnN.farO _ _ _ w3 w4 (dUnhide O3) (by rw [s4]; exact Nat.le_refl _) (fun k h1 h2 => g4 k (by omega))).mono (by omega)
  · have h' := h
    rw [Bool.and_eq_true] at h'
    have h2 := dUnhide K4 h'.1
    have hF : (o2 && decide (cz ≤ 1)) = true := by rw [Bool.and_eq_true]; exact ⟨h2, h'.2⟩
    have e3 := dUnhide K3 hF
    simp only [Prod.mk.injEq] at e3
    obtain ⟨rfl, rfl, rfl⟩ := e3
    rw [dUnhide HX0 (dUnhide K1 h2), dUnhide HX1 hF, dUnhide HX2 h'.1]
  · have hR := (dUnhide HC3).wr (row := some w.heap.size) ⟨b4.os, b4.tape, b4.output, by rw [s4]; exact Nat.le_refl _, fun k hk hn => g4 k (by rintro rfl; exact hn rfl)⟩ (by intro e; simp only [Option.some.injEq] at e; omega) (by intro e; simp only [Option.some.injEq] at e; omega)
    cases hF : (o2 && decide (cz ≤ 1)) with
    | true =>
      have e3 := dUnhide K3 hF
      simp only [Prod.mk.injEq] at e3
      obtain ⟨rfl, rfl, rfl⟩ := e3
      rw [Bool.and_eq_true] at hF
      rw [hF.2, Bool.and_true]
      exact hR
    | false =>
      have e4 := dUnhide K5 hF
      subst e4
      have e5 : (o3 && decide (cz ≤ 1)) = false := by
        cases ho : o3 with
        | false => rfl
        | true =>
          have h2 := dUnhide K4 ho
          rw [h2] at hF
          exact hF
      rw [e5]
      obtain ⟨pp, yy, hr⟩ := hR.isNo
      exact Rc.no hr
set_option maxHeartbeats 8000000 in
theorem listOfR_any (ab : Nat) (v : Value) (bs : List UInt8) (q : Nat) (ok : Bool) (w : World) (hc : Rc w ab v q ok) (HV : ∀ W, Wr ab (ab + 2) w W → Bs W v bs) (hl : bs.length ≤ 1048576) (hq : q ≤ bs.length) (hne : bs = [] ∨ blockOf v ≠ ab) :
    Calls Tryz.prog 77 #[.pointer (some ⟨ab + 1, 0, none⟩), .func (.func 78) #[.pointer (some ⟨ab + 1, 0, none⟩)] #[]] w fun e w' => ∃ u xs, e = .returned u ∧ NAp w' w.heap.size u xs ∧ ((rdErl bs q ok).2.2 = true → xs = (rdErl bs q ok).1) ∧ Rc w' ab v (rdErl bs q ok).2.1 (rdErl bs q ok).2.2 ∧ Wr ab (ab + 2) w w' := by
  have hab := hc.lt
  have HV := dHide HV
  have CN := dHide fun q ok W (hd : Wr ab (ab + 2) w W) (hc : Rc W ab v q ok) (hq : q ≤ bs.length) => era_any ab v bs q ok W hc (fun W' hW' => dUnhide HV W' (hd.trans hW')) hl hq hne
  have C1 := dHide (number_any ab v bs q ok w hc (dUnhide HV w (Wr.refl _ _ _)) hne)
  have HS : Hid ((rdN bs q ok).2.1 ≤ bs.length ∧ (∀ x : Int, ((rdN bs q ok).2.2 = true → x = (rdN bs q ok).1) → (rdN bs q ok).2.2 = true → rdErl bs q ok = rdErs bs x.toNat (rdN bs q ok).2.1 true) ∧ ((rdN bs q ok).2.2 = false → (rdErl bs q ok).2.2 = false)) := by
    refine ⟨rdN_le bs q ok hq, fun x hx h => ?_, fun h => ?_⟩
    · rw [hx h]; unfold rdErl; rw [h]
    · unfold rdErl; rw [h, rdErs_off]
  generalize rdN bs q ok = R at *
  generalize rdErl bs q ok = L at *
  obtain ⟨nI, q1, ok1⟩ := R
  obtain ⟨hq1, hL1, hL0⟩ := dUnhide HS
  simp only at hq1 hL1 hL0 C1
  have HL1 := dHide hL1
  have HL0 := dHide hL0
  clear hc HS hq hL1 hL0
  go_enter Tryz.func77, Tryz.ntmps77
  go_wp2_with fail
  refine (dUnhide C1).mono ?_
  rintro e w1 ⟨x, rfl, ⟨hx0, hx1⟩, hx, hc1, hd1⟩
  obtain ⟨n, rfl⟩ := Int.eq_ofNat_of_zero_le hx0
  have E1 : Hid (ok1 = true → L = rdErs bs n q1 true) := fun h => dUnhide HL1 (n : Int) hx h
  have E0 := HL0
  have hs1 := hd1.size
  have HC1 := dHide hc1
  have HD1 := dHide hd1
  clear HL1 HL0 hx hc1 hd1 C1
  go_wp2
  go_loopw [5, 6] (fun ov xv wr => ∃ (k : Nat) (xs : List Er) (p : Nat) (okb : Bool), xv = .int .i64 ((n : Int) - (k : Int)) ∧ xs.length = k ∧ k ≤ n ∧ k ≤ bs.length + 1 ∧ (okb = true → k ≤ p) ∧ p ≤ bs.length ∧ Hid (okb = true → L = (xs ++ (rdErs bs (n - k) p true).1, (rdErs bs (n - k) p true).2)) ∧ Hid (okb = false → L.2.2 = false) ∧ NAp wr w1.heap.size ov xs ∧ Hid (Rc wr ab v p okb) ∧ Hid (Wr ab (ab + 2) w wr) ∧ w1.heap.size ≤ wr.heap.size) (fun _ xv _ => (intOf xv).toNat)
  case atStart => exact ⟨0, [], q1, ok1, by simp, rfl, Nat.zero_le _, Nat.zero_le _, fun _ => Nat.zero_le _, hq1, by simpa [Hid] using dUnhide E1, E0, NAp.nil _ _ _, HC1, HD1, Nat.le_refl _⟩
  case round =>
    clear HC1 HD1 E1 E0
    obtain ⟨k, xs, p, okb, rfl, hxl, hkn, hkb, hkp, hp, HK, HZ, hown, HC, HD, hsz⟩ := hrel
    obtain ⟨p2, k2⟩ := (dUnhide HC).cell2
    have GO : Hid ((okb = true → k = n) → (∃ u xs, Ending.returned u5 = .returned u ∧ NAp wr w.heap.size u xs ∧ (L.2.2 = true → xs = L.1) ∧ Rc wr ab v L.2.1 L.2.2 ∧ Wr ab (ab + 2) w wr)) := by
      intro e
      cases okb with
      | true =>
        have e2 : L = (xs, p, true) := by
          have := dUnhide HK rfl
          rw [e rfl, Nat.sub_self, rdErs_zero] at this
          simpa using this
        rw [e2]
        exact ⟨_, xs, rfl, NAp.mono hown hs1, fun _ => rfl, dUnhide HC, dUnhide HD⟩
      | false =>
        have e2 := dUnhide HZ rfl
        obtain ⟨L1, L2, L3⟩ := L
        simp only at e2
        subst e2
        obtain ⟨pp, yy, hr⟩ := (dUnhide HC).isNo
        exact ⟨_, xs, rfl, NAp.mono hown hs1, fun h => (by cases h), Rc.no hr, dUnhide HD⟩
    by_cases hlt : (0 : Int) < (n : Int) - (k : Int)
    · cases okb
      · have G := dHide (dUnhide GO (fun h => (by cases h)))
        simp only [Bool.false_eq_true, if_false] at k2
        unfold wrg at k2
        clear GO HK HZ HC HD CN HV
        go_wp2
        go_ret
        exact dUnhide G
      · simp only [if_true] at k2
        have hkp2 : k ≤ p := hkp rfl
        have C2 := dHide (dUnhide CN p true wr (dUnhide HD) (dUnhide HC) hp)
        have HS : Hid (p ≤ (rdEr bs p true).2.1 ∧ (rdEr bs p true).2.1 ≤ bs.length ∧ ((rdEr bs p true).2.2 = true → p + 1 ≤ (rdEr bs p true).2.1)) := by
          obtain ⟨a1, a2, a3, -⟩ := rdEr_go bs p true hp
          exact ⟨a1, a2, fun h => by have := a3 h; omega⟩
        obtain ⟨j, hj⟩ : ∃ j, n - k = j + 1 := ⟨n - k - 1, by omega⟩
        have hj2 : n - (k + 1) = j := by omega
        have HK2 : Hid (L = (xs ++ [(rdEr bs p true).1] ++ (rdErs bs j (rdEr bs p true).2.1 (rdEr bs p true).2.2).1, (rdErs bs j (rdEr bs p true).2.1 (rdEr bs p true).2.2).2)) := by
          have := dUnhide HK rfl
          rw [hj, rdErs_succ] at this
          rw [Hid, this]
          simp
        generalize rdEr bs p true = R at *
        obtain ⟨y, p', ok'⟩ := R
        obtain ⟨hpp, hpl, hpk⟩ := dUnhide HS
        simp only at hpp hpl hpk HK2 C2
        have HK3 : Hid (∀ y' : Er, (ok' = true → y' = y) → (ok' = true → L = (xs ++ [y'] ++ (rdErs bs j p' true).1, (rdErs bs j p' true).2)) ∧ (ok' = false → L.2.2 = false)) := fun y' h' => by
          refine ⟨fun h => ?_, fun h => ?_⟩
          · rw [h' h, dUnhide HK2, h]
          · rw [dUnhide HK2, h, rdErs_off]
        have HO := dHide hown
        clear GO HK HK2 HZ HS CN HV HC hown
        go_wp2_with fail
        refine (dUnhide C2).mono ?_
        rintro e w3 ⟨y', rfl, hyb, hye, hc3, hd3⟩
        have HK4 := dHide (dUnhide HK3 y'.m hye)
        obtain ⟨un, nc, ns, cl, la⟩ := y'
        simp only [Sv] at hyb
        have HYB := dHide hyb
        obtain ⟨rs, s1, s2, s3, s4, s5⟩ := dUnhide HO
        have ho3 := NAp.wr (dUnhide HO) hd3 (by omega)
        clear C2 k2 HK3 hye hyb
        have hlt' : ∀ b, touch u5 = some b → w1.heap.size ≤ b := fun b e => (ApR.touched elemR s2 e).1
        have HC3 := dHide hc3
        have HD3 := dHide ((dUnhide HD).trans hd3)
        have hs3 := hd3.size
        have ba3 : Below w3.heap.size w3 (w3.alloc (.cells #[.slice un ns.length nc, .bool cl, .int .i64 la] 56)) := (Below.refl _ _).alloc (Nat.le_refl _) _
        have RO := dHide (rwR_one w3 ⟨un, nc, ⟨ns, cl, la⟩⟩ 56 1 (by omega))
        have hsA : (w3.alloc (.cells #[.slice un ns.length nc, .bool cl, .int .i64 la] 56)).heap.size = w3.heap.size + 1 := by simp
        have HA3 := dHide (ApR.below (ApR.wrR s2 hd3 (by omega)) ba3)
        have hN3 := dHide fun p hp => ((s3 p hp).wr17 hd3 (by omega)).below ba3
        have HYB3 := dHide ((dUnhide HYB).below ba3)
        have RS1 := dHide s1
        have RS2 := dHide s2
        have RS3 := dHide s3
        have RS4 := dHide s4
        have RS5 := dHide s5
        have HRL : Hid (rs.length = k) := by rw [Hid, ← hxl, ← s1, List.length_map]
        have hlt' := dHide hlt'
        clear hc3 hd3 HD ho3 HO s1 s2 s3 s4 s5 HYB
        go_wp2_with (at_builtin; refine wp_apR elemR rfl _ _ rfl w1.heap.size _ rs rfl (dUnhide HA3) _ [⟨un, nc, ⟨ns, cl, la⟩⟩] rfl (dUnhide RO) ?c1 ?c2 ?c3 ?_)
        case c1 => rw [dUnhide HRL]; simp; omega
        case c2 => rw [dUnhide HRL]; simp; omega
        case c3 => simp; omega
        intro v' w4 hown' hgrow T10
        have NP := NAp.push (p := (⟨un, nc, ⟨ns, cl, la⟩⟩ : Nst Er)) (dUnhide RS1) (dUnhide RS2) (dUnhide RS3) (dUnhide RS4) (dUnhide RS5) (dUnhide hN3) (by rw [hsA]; omega) hsz (dUnhide HYB3) hown' hgrow (by rw [hsA]; exact T10)
        have hs4 : w1.heap.size ≤ w4.heap.size := by have := hgrow.size; simp at this; omega
        have HC4 := dHide (Rc.wr (Rc.below (dUnhide HC3) ba3) hgrow (fun e => by have := (dUnhide hlt' _ e); omega) (fun e => by have := (dUnhide hlt' _ e); omega))
        have HD4 := dHide (((dUnhide HD3).trans (Wr.of_below ba3)).grown hgrow (fun k hk => by have := (dUnhide hlt' k hk); omega))
        have hown4 := NP
        clear hown' hgrow hlt' HC3 HD3 HA3 RO NP T10 RS1 RS2 RS3 RS4 RS5 hN3 HYB3
        go_wp2
        go_roundw
        case rel => exact ⟨k + 1, xs ++ [(⟨ns, cl, la⟩ : Er)], p', ok', by go_num, by simp [hxl], by omega, by omega, fun h => by have := hpk h; omega, hpl, by rw [hj2]; exact (dUnhide HK4).1, (dUnhide HK4).2, hown4, HC4, HD4, hs4⟩
        case measure => simp [intOf]; omega
    · have G := dHide (dUnhide GO (fun h => by omega))
      clear GO HK HZ HC HD CN HV
      go_wp2
      go_ret
      obtain ⟨u, xs, ga, gb⟩ := dUnhide G
      exact ⟨u, ga, xs, gb⟩
end Go.Proofs.YtioocibgfhgkhaaGreatDoor
namespace Go.Proofs.YtioocibgfhgkhaaGreatDoor
open Go.ChangeShapes Go.WideShapes Go.ChangeAt Go.RowKit
set_option linter.unusedVariables false
set_option linter.unusedSimpArgs false
set_option maxRecDepth 100000

set_option maxHeartbeats 4000000 in
theorem register_any (ab : Nat) (v : Value) (bs : List UInt8) (w : World) (hc : Rc w ab v 0 true) (HV : ∀ W, Wr ab (ab + 2) w W → Bs W v bs) (hl : bs.length ≤ 1048576) (hne : bs = [] ∨ blockOf v ≠ ab) :
    Calls Tryz.prog 51 #[.pointer (some ⟨ab + 1, 0, none⟩)] w fun e w' => ∃ (ua : Option Addr) (n c : Nat) (x : Int) (m : Rg), e = .returned (.agg #[.slice ua n c, .int .i64 x]) ∧ (x = m.trim ∧ n = m.eras.length ∧ NAp w' w.heap.size (.slice ua m.eras.length c) m.eras) ∧ ((rgRd bs).2.2 = true → m = rgRm bs) ∧ Rc w' ab v (rgRd bs).2.1 (rgRd bs).2.2 ∧ Wr ab (ab + 2) w w' := by
  have hab := hc.lt
  have ba : Below w.heap.size w (w.alloc (.cells #[.slice none 0 0, .int .i64 0] 29)) := (Below.refl _ _).alloc (Nat.le_refl _) _
  have Z0 := BxZ.new (B := w.heap.size) w [.slice none 0 0, .int .i64 0] 29 (Nat.le_refl _)
  have HV := dHide HV
  have CN := dHide fun q ok W (hd : Wr ab (ab + 2) w W) (hc : Rc W ab v q ok) => number_any ab v bs q ok W hc (dUnhide HV W hd) hne
  have CL := dHide fun q ok W (hd : Wr ab (ab + 2) w W) (hc : Rc W ab v q ok) (hq : q ≤ bs.length) => listOfR_any ab v bs q ok W hc (fun W' hW' => dUnhide HV W' (hd.trans hW')) hl hq hne
  have W0 := Wr.of_below (lo := ab) (hi := ab + 2) ba
  have V0 := Wr.refl ab (ab + 2) (w.alloc (.cells #[.slice none 0 0, .int .i64 0] 29))
  have hs0 : (w.alloc (.cells #[.slice none 0 0, .int .i64 0] 29)).heap.size = w.heap.size + 1 := by simp
  have C1 := dHide fun (W : World) (hd : Wr ab (ab + 2) w W) (hc : Rc W ab v 0 true) => (show Calls Tryz.prog 76 #[.pointer (some ⟨ab + 1, 0, none⟩)] W fun e w' => ∃ x : Int, e = .returned (.int .i64 x) ∧ (0 ≤ x ∧ x ≤ 9223372036854775807) ∧ ((rgRa bs).2.2 = true → x = (rgRa bs).1) ∧ Rc w' ab v (rgRa bs).2.1 (rgRa bs).2.2 ∧ Wr ab (ab + 2) W w' from dUnhide CN 0 true W hd hc)
  have la := rdN_le bs 0 true (Nat.zero_le _)
  have C3 := dHide fun (W : World) (hd : Wr ab (ab + 2) w W) (hc : Rc W ab v (rgRa bs).2.1 (rgRa bs).2.2) => (show Calls Tryz.prog 77 #[.pointer (some ⟨ab + 1, 0, none⟩), .func (.func 78) #[.pointer (some ⟨ab + 1, 0, none⟩)] #[]] W fun e w' => ∃ u xs, e = .returned u ∧ NAp w' W.heap.size u xs ∧ ((rgRd bs).2.2 = true → xs = (rgRd bs).1) ∧ Rc w' ab v (rgRd bs).2.1 (rgRd bs).2.2 ∧ Wr ab (ab + 2) W w' from dUnhide CL (rgRa bs).2.1 (rgRa bs).2.2 W hd hc la)
  have K2 : Hid ((rgRd bs).2.2 = true → (rgRa bs).2.2 = true) := fun h => rdN_was (rdErs_was h)
  have EM : Hid (rgRm bs = ⟨(rgRd bs).1, (rgRa bs).1⟩) := rfl
  generalize rgRm bs = MM at *
  generalize rgRd bs = MD at *
  generalize rgRa bs = MA at *
  have hc0 := hc.below ba
  clear CN CL hc la
  go_enter Tryz.func51, Tryz.ntmps51
  go_upto_region 1 with fail
  generalize w.alloc (.cells #[.slice none 0 0, .int .i64 0] 29) = w0 at *
  have D1 := dHide (dUnhide C1 w0 W0 hc0)
  clear C1 hc0
  go_wp2_with fail
  refine (dUnhide D1).mono ?_
  rintro e w1 ⟨x0, rfl, hb0, hx0, hc1, hw1⟩
  have W1 := W0.trans hw1
  have V1 := V0.trans hw1
  have D3 := dHide (dUnhide C3 w1 W1 hc1)
  have HX0 := dHide hx0
  have hs2 := V1.size
  clear D1 C3 hc1 hw1 hx0
  go_wp2_with fail
  refine (dUnhide D3).mono ?_
  rintro e w3 ⟨u, xs, rfl, ha, hx2, hc3, hw3⟩
  have W3 := W1.trans hw3
  have V3 := V1.trans hw3
  have HX2 := dHide hx2
  have hs3 := W3.size
  have Z3 : BxZ w3 w.heap.size w.heap.size [.slice none 0 0, .int .i64 0] := Z0.wrZ V3 hab
  obtain ⟨ua, uc, rfl⟩ := NAp.slice ha
  have HA := dHide ha
  clear D3 hx2 hw3 W1 ha
  go_wp2_with (refine wp_putW rfl _ _ _ rfl rfl [.slice ua xs.length uc, .int .i64 x0] rfl rfl Z3 rfl (by kernel_rfl) (by kernel_rfl) ?_; intro w4 Y4 s4 g4 b4)
  refine bodyPost_ret (results_box Tryz.results51 _ _ _ [.slice ua xs.length uc, .int .i64 x0] _ rfl Y4.bx Tryz.underlying29 rfl (by kernel_rfl)) rfl ⟨ua, xs.length, uc, x0, ⟨xs, x0⟩, rfl, ⟨rfl, rfl, ?_⟩, fun h => ?_, ?_, W3.new (Nat.le_refl _) g4 s4 b4⟩
  · exact NAp.mono (NAp.farO _ _ _ w3 w4 (dUnhide HA) (by rw [s4]; exact Nat.le_refl _) (fun k h1 h2 => g4 k (by omega))) (by omega)
  · have h2 := dUnhide K2 h
    rw [dUnhide EM, dUnhide HX0 h2, dUnhide HX2 h]
  · exact hc3.wr (row := some w.heap.size) ⟨b4.os, b4.tape, b4.output, by rw [s4]; exact Nat.le_refl _, fun k hk hn => g4 k (by rintro rfl; exact hn rfl)⟩ (by intro e; simp only [Option.some.injEq] at e; omega) (by intro e; simp only [Option.some.injEq] at e; omega)
end Go.Proofs.YtioocibgfhgkhaaGreatDoor
