/- Several texts in one: PrJ, PuJ. -/
import Derived.Test.YthndkkjgjhgdnaaGreatDoorGk72
import Derived.Test.YthndkkjgjhgdnaaGreatDoorGk83
import Derived.Deep.RegionHeld3
import Derived.Deep.DeepCutAuto
import Derived.Test.YthndkkjgjhgdnaaGreatDoorGk68
namespace Go.Proofs.YthndkkjgjhgdnaaGreatDoor
open Go.ChangeShapes Go.WideShapes Go.ChangeAt Go.RowKit
set_option linter.unusedVariables false
set_option linter.unusedSimpArgs false
set_option maxRecDepth 100000

set_option maxHeartbeats 8000000 in
theorem recordInWriter (cb : Nat) (v : Value) (bs : List UInt8) (O : Nat → Wt → Value → World → Prop) (hO : ∀ b m u, FarO b (O b m u)) (hOm : ∀ b b' m u W, b ≤ b' → O b' m u W → O b m u W) (M : Wt) (P : Wt → Prop) (q2 : Nat) (ok2 : Bool) (w : World) (hv : Bs w v bs) (hl : bs.length ≤ 1048576) (hq : ok2 = true → q2 ≤ bs.length)
    (HRD : ∀ W ab, Below w.heap.size w W → w.heap.size ≤ ab → Rc W ab v 0 true → Calls Tryz.prog 70 #[.pointer (some ⟨ab + 1, 0, none⟩), .pointer (some ⟨cb, 0, none⟩)] W fun e w' => ∃ (x : Int) (ua : Option Addr) (n c : Nat) (m : Wt), e = .returned (.agg #[.int .i64 x, .slice ua n c]) ∧ O W.heap.size m (.agg #[.int .i64 x, .slice ua n c]) w' ∧ (ok2 = true → m = M) ∧ Rc w' ab v q2 ok2 ∧ Wr ab (ab + 2) W w')
    (HOK : ∀ W (x : Int) (ua : Option Addr) (n c : Nat), Below w.heap.size w W → ok2 = true → O w.heap.size M (.agg #[.int .i64 x, .slice ua n c]) W → Calls Tryz.prog 67 #[.agg #[.int .i64 x, .slice ua n c], .pointer (some ⟨cb, 0, none⟩)] W fun e w' => RetB (P M) e ∧ Below W.heap.size W w') :
    Calls Tryz.prog 73 #[.agg #[.func (.func 67) #[] #[.pointer (some ⟨cb, 0, none⟩)], .func (.func 69) #[] #[], .func (.func 70) #[] #[.pointer (some ⟨cb, 0, none⟩)]], v] w fun e w' => ∃ (x : Int) (ua : Option Addr) (n c : Nat) (err : Value), e = .returned (.tuple #[.agg #[.int .i64 x, .slice ua n c], err]) ∧ RecPost (O w.heap.size) (RdG ok2 q2 bs.length (P M)) M w (.agg #[.int .i64 x, .slice ua n c]) err w' := by
  have ba : ∀ (w : World) o, Below w.heap.size w (w.alloc o) := fun w o => (Below.refl _ _).alloc (Nat.le_refl _) o
  have HV := dHide fun W (hb : Below w.heap.size w W) => hv.below hb
  replace HRD := dHide HRD
  replace HOK := dHide HOK
  replace hO := dHide hO
  replace hOm := dHide hOm
  obtain ⟨-, va, vcp, rfl, -⟩ := hv
  have e1 : (w.alloc (.cells #[.func (.func 67) #[] #[.pointer (some ⟨cb, 0, none⟩)], .func (.func 69) #[] #[], .func (.func 70) #[] #[.pointer (some ⟨cb, 0, none⟩)]] 76)).heap.size = w.heap.size + 1 := by simp
  have X0 := (Bx.new w [.func (.func 67) #[] #[.pointer (some ⟨cb, 0, none⟩)], .func (.func 69) #[] #[], .func (.func 70) #[] #[.pointer (some ⟨cb, 0, none⟩)]] 76).below (ba _ (.cells #[.int .i64 0, .slice none 0 0] 40))
  have Z0 := BxZ.new (B := w.heap.size) (w.alloc (.cells #[.func (.func 67) #[] #[.pointer (some ⟨cb, 0, none⟩)], .func (.func 69) #[] #[], .func (.func 70) #[] #[.pointer (some ⟨cb, 0, none⟩)]] 76)) [.int .i64 0, .slice none 0 0] 40 (by simp)
  rw [e1] at Z0
  have B0 := belowThen (ba w (.cells #[.func (.func 67) #[] #[.pointer (some ⟨cb, 0, none⟩)], .func (.func 69) #[] #[], .func (.func 70) #[] #[.pointer (some ⟨cb, 0, none⟩)]] 76)) (ba _ (.cells #[.int .i64 0, .slice none 0 0] 40))
  have e2 : ((w.alloc (.cells #[.func (.func 67) #[] #[.pointer (some ⟨cb, 0, none⟩)], .func (.func 69) #[] #[], .func (.func 70) #[] #[.pointer (some ⟨cb, 0, none⟩)]] 76)).alloc (.cells #[.int .i64 0, .slice none 0 0] 40)).heap.size = w.heap.size + 2 := by simp
  obtain ⟨ab, hab⟩ : ∃ ab, w.heap.size + 2 = ab := ⟨_, rfl⟩
  have e2' := e2.trans hab
  have CN := dHide ((newReader_any (.slice va bs.length vcp) bs ((w.alloc (.cells #[.func (.func 67) #[] #[.pointer (some ⟨cb, 0, none⟩)], .func (.func 69) #[] #[], .func (.func 70) #[] #[.pointer (some ⟨cb, 0, none⟩)]] 76)).alloc (.cells #[.int .i64 0, .slice none 0 0] 40)) (dUnhide HV _ B0)).mono fun e w' h => (⟨by rw [← e2']; exact h.1, by rw [← e2']; exact h.2.1, h.2.2⟩ : e = .returned (.pointer (some ⟨ab + 1, 0, none⟩)) ∧ Rc w' ab (.slice va bs.length vcp) 0 true ∧ Below ((w.alloc (.cells #[.func (.func 67) #[] #[.pointer (some ⟨cb, 0, none⟩)], .func (.func 69) #[] #[], .func (.func 70) #[] #[.pointer (some ⟨cb, 0, none⟩)]] 76)).alloc (.cells #[.int .i64 0, .slice none 0 0] 40)).heap.size ((w.alloc (.cells #[.func (.func 67) #[] #[.pointer (some ⟨cb, 0, none⟩)], .func (.func 69) #[] #[], .func (.func 70) #[] #[.pointer (some ⟨cb, 0, none⟩)]] 76)).alloc (.cells #[.int .i64 0, .slice none 0 0] 40)) w'))
  clear e1 e2
  go_enter Tryz.func73, Tryz.ntmps73
  go_upto_region 1 with fail
  generalize (w.alloc (.cells #[.func (.func 67) #[] #[.pointer (some ⟨cb, 0, none⟩)], .func (.func 69) #[] #[], .func (.func 70) #[] #[.pointer (some ⟨cb, 0, none⟩)]] 76)).alloc (.cells #[.int .i64 0, .slice none 0 0] 40) = w0 at *
  go_wp2_with fail
  refine (dUnhide CN).mono ?_
  rintro e w1 ⟨rfl, hc1, b1⟩
  have B1 := belowThen B0 b1
  have X1 := X0.below b1
  have Z1 := dHide (Z0.below b1)
  have k2 := X1 2 _ rfl
  have HX1 := dHide X1
  have hs1 := b1.size
  have hs0 := e2'
  have C2 := dHide (dUnhide HRD w1 ab B1 (by omega) hc1)
  have hlt1 := hc1.lt
  clear CN X0 Z0 B0 b1 X1 hc1 HRD
  go_wp2_with fail
  refine (dUnhide C2).mono ?_
  rintro e w2 ⟨x, ua, n, c, m, rfl, hm2, hmM, hc2, hw2⟩
  have B2 : Below w.heap.size w w2 := hw2.below B1 (by omega) (by omega)
  have hs2 := hw2.size
  have Z2 := (dUnhide Z1)
  have Z2 : BxZ w2 w.heap.size (w.heap.size + 1) [.int .i64 0, .slice none 0 0] := ⟨Z2.1, fun i u hu => ⟨(World.cell?_of_block (a := ⟨w.heap.size + 1, i, none⟩) (hw2.block _ (dCell_lt (Z2.2 i u hu).1) (.inl (by simp only; omega)))).trans (Z2.2 i u hu).1, (World.frozen?_of_block (a := ⟨w.heap.size + 1, i, none⟩) (hw2.block _ (dCell_lt (Z2.2 i u hu).1) (.inl (by simp only; omega)))).trans (Z2.2 i u hu).2⟩⟩
  have X2 : Bx w2 w.heap.size [.func (.func 67) #[] #[.pointer (some ⟨cb, 0, none⟩)], .func (.func 69) #[] #[], .func (.func 70) #[] #[.pointer (some ⟨cb, 0, none⟩)]] := fun i u hu => (World.cell?_of_block (a := ⟨w.heap.size, i, none⟩) (hw2.block _ (dCell_lt ((dUnhide HX1) i u hu)) (.inl (by simp only; omega)))).trans ((dUnhide HX1) i u hu)
  have b3 := ba w2 (.cells #[.int .i64 x, .slice ua n c] 40)
  have R3 := Bx.new w2 [.int .i64 x, .slice ua n c] 40
  have B3 := belowThen B2 b3
  have Z3 := dHide (Z2.below b3)
  have X3 := X2.below b3
  have hc3 := hc2.below b3
  have O3 := dHide ((dUnhide hO) _ _ _ _ _ hm2 b3.size (fun k _ hk => b3.block k hk))
  have hs3 : (w2.alloc (.cells #[.int .i64 x, .slice ua n c] 40)).heap.size = w2.heap.size + 1 := by simp
  have HM := dHide hmM
  clear C2 k2 HX1 Z1 B1 hw2 B2 Z2 X2 b3 hc2 hm2 hmM
  have HF := dHide fun (W : World) (hs : w2.heap.size + 1 ≤ W.heap.size) (hk : ∀ k, k < w2.heap.size + 1 → k < ab ∨ ab + 2 ≤ k → W.heap[k]? = (w2.alloc (.cells #[.int .i64 x, .slice ua n c] 40)).heap[k]?) (hb : Below w.heap.size w W) =>
    (⟨(dUnhide hO) _ _ _ _ W (dUnhide O3) (by rw [hs3]; exact hs) (fun k h1 h2 => hk k (by rw [hs3] at h2; exact h2) (.inr (by omega))),
      fun i u hu => (World.cell?_of_block (a := ⟨w2.heap.size, i, none⟩) (hk _ (by simp only; omega) (.inr (by simp only; omega)))).trans (R3 i u hu),
      ⟨(dUnhide Z3).1, fun i u hu => ⟨(World.cell?_of_block (a := ⟨w.heap.size + 1, i, none⟩) (hk _ (by simp only; omega) (.inl (by simp only; omega)))).trans ((dUnhide Z3).2 i u hu).1, (World.frozen?_of_block (a := ⟨w.heap.size + 1, i, none⟩) (hk _ (by simp only; omega) (.inl (by simp only; omega)))).trans ((dUnhide Z3).2 i u hu).2⟩⟩,
      fun i u hu => (World.cell?_of_block (a := ⟨w.heap.size, i, none⟩) (hk _ (by simp only; omega) (.inl (by simp only; omega)))).trans (X3 i u hu), hb⟩ :
      O w1.heap.size m (.agg #[.int .i64 x, .slice ua n c]) W ∧ Bx W w2.heap.size [.int .i64 x, .slice ua n c] ∧ BxZ W w.heap.size (w.heap.size + 1) [.int .i64 0, .slice none 0 0] ∧ Bx W w.heap.size [.func (.func 67) #[] #[.pointer (some ⟨cb, 0, none⟩)], .func (.func 69) #[] #[], .func (.func 70) #[] #[.pointer (some ⟨cb, 0, none⟩)]] ∧ Below w.heap.size w W)
  have HF3 := dHide (dUnhide HF _ (by rw [hs3]; exact Nat.le_refl _) (fun _ _ _ => rfl) B3)
  have HFW := dHide fun (W : World) (hw : Wr ab (ab + 2) (w2.alloc (.cells #[.int .i64 x, .slice ua n c] 40)) W) => dUnhide HF W (by have := hw.size; rw [hs3] at this; exact this) (fun k hk hn => hw.block k (by rw [hs3]; exact hk) hn) (hw.below B3 (by rw [hs3]; omega) (by omega))
  clear Z3 R3 X3 O3 B3
  have HFIN := dHide fun (W : World) (oF : O w1.heap.size m (.agg #[.int .i64 x, .slice ua n c]) W) (zF : BxZ W w.heap.size (w.heap.size + 1) [.int .i64 0, .slice none 0 0]) (bF : Below w.heap.size w W) =>
    (⟨(dUnhide hOm) w.heap.size w1.heap.size m _ _ (by omega) ((dUnhide hO) _ _ _ W ((W.setCell ⟨w.heap.size + 1, 0, none⟩ (.int .i64 x)).setCell ⟨w.heap.size + 1, 1, none⟩ (.slice ua n c)).drew oF (by simp) (fun k h1 h2 => by
      show ((W.setCell ⟨w.heap.size + 1, 0, none⟩ (.int .i64 x)).setCell ⟨w.heap.size + 1, 1, none⟩ (.slice ua n c)).heap[k]? = _
      rw [Below.heap_setCell _ _ _ k (by simp only; omega), Below.heap_setCell _ _ _ k (by simp only; omega)])), (show BxZ ((W.setCell ⟨w.heap.size + 1, 0, none⟩ (.int .i64 x)).setCell ⟨w.heap.size + 1, 1, none⟩ (.slice ua n c)) _ _ _ from ((zF.put 0 (.int .i64 x)).put 1 (.slice ua n c))).drew', (show Below _ _ ((W.setCell ⟨w.heap.size + 1, 0, none⟩ (.int .i64 x)).setCell ⟨w.heap.size + 1, 1, none⟩ (.slice ua n c)) from (Below.setCell (p := ⟨w.heap.size + 1, 1, none⟩) (Below.setCell (p := ⟨w.heap.size + 1, 0, none⟩) bF (by simp only; omega) (.int .i64 x)) (by simp only; omega) (.slice ua n c))).drew⟩ :
      O w.heap.size m (.agg #[.int .i64 x, .slice ua n c]) ((W.setCell ⟨w.heap.size + 1, 0, none⟩ (.int .i64 x)).setCell ⟨w.heap.size + 1, 1, none⟩ (.slice ua n c)).drew ∧ BxZ ((W.setCell ⟨w.heap.size + 1, 0, none⟩ (.int .i64 x)).setCell ⟨w.heap.size + 1, 1, none⟩ (.slice ua n c)).drew w.heap.size (w.heap.size + 1) [.int .i64 x, .slice ua n c] ∧ Below w.heap.size w ((W.setCell ⟨w.heap.size + 1, 0, none⟩ (.int .i64 x)).setCell ⟨w.heap.size + 1, 1, none⟩ (.slice ua n c)).drew)
  cases ok2 with
  | true =>
    have h3 := hc3.isYes
    have hq2 := hq rfl
    obtain rfl := dUnhide HM rfl
    have d1 := (h3.1.2 1 _ rfl).1
    have d2 := (h3.1.2 2 _ rfl).1
    have dy := h3.2.1
    by_cases hlt : (q2 : Int) < (bs.length : Int)
    · go_upto_region 4 with fail
      generalize w2.alloc (.cells #[.int .i64 x, .slice ua n c] 40) = w3 at *
      have CR := dHide (refuse_new ab _ _ (q2 : Int) w3 h3)
      clear d2
      go_wp2_with fail
      refine (dUnhide CR).mono ?_
      rintro e w4 ⟨rfl, hc4, hw4⟩
      obtain ⟨oF, rF, zF, xF, bF⟩ := dUnhide HFW w4 hw4
      have dw := (hc4.1.2 2 _ rfl).1
      unfold wrg at dw
      have r0 := rF 0 _ rfl
      have r1 := rF 1 _ rfl
      obtain ⟨z0, y0⟩ := zF.2 0 _ rfl
      obtain ⟨z1, y1⟩ := zF.2 1 _ rfl
      have FIN := dHide (dUnhide HFIN _ oF zF bF)
      go_wp2_with fail
      go_region
      go_wp2
      have fin := dUnhide FIN
      generalize ((w4.setCell ⟨w.heap.size + 1, 0, none⟩ (.int .i64 x)).setCell ⟨w.heap.size + 1, 1, none⟩ (.slice ua n c)).drew = V at *
      obtain ⟨o, r, b⟩ := fin
      have qq0 := (r.2 0 _ rfl).1
      have qq1 := (r.2 1 _ rfl).1
      exact bodyPost_ret (v := .tuple #[.agg #[.int .i64 x, .slice ua n c], .iface 105 (.agg #[.int .i64 ((q2 : Nat))])]) (by simp [results, Tryz.results73, go_sem, qq0, qq1]) rfl ⟨_, _, _, _, _, rfl, _, o, (fun h => absurd h.2.1 (by omega)), (fun _ => ⟨_, rfl⟩), b⟩
    · have hql : q2 = bs.length := by omega
      obtain ⟨oF3, rF3, zF3, xF3, bF3⟩ := dUnhide HF3
      go_upto_region 5 with fail
      generalize w2.alloc (.cells #[.int .i64 x, .slice ua n c] 40) = w3 at *
      have c0 := rF3 0 _ rfl
      have c1 := rF3 1 _ rfl
      have x0 := xF3 0 _ rfl
      have CK := dHide (dUnhide HOK w3 x ua n c bF3 (by first | trivial | rfl) ((dUnhide hOm) _ w1.heap.size _ _ _ (by omega) oF3))
      clear oF3 rF3 zF3 xF3 bF3 HF3
      go_wp2_with fail
      refine (dUnhide CK).mono ?_
      rintro e w4 ⟨hr, b4⟩
      have h4 := h3.below b4
      by_cases hP : P m
      · obtain rfl := hr.of_yes hP
        obtain ⟨oF, rF, zF, xF, bF⟩ := dUnhide HFW w4 (Wr.of_below b4)
        have dw := (h4.1.2 2 _ rfl).1
        have r0 := rF 0 _ rfl
        have r1 := rF 1 _ rfl
        obtain ⟨z0, y0⟩ := zF.2 0 _ rfl
        obtain ⟨z1, y1⟩ := zF.2 1 _ rfl
        have FIN := dHide (dUnhide HFIN _ oF zF bF)
        clear hr CK h3 d1 d2 dy x0 c0 c1
        go_wp2_with fail
        go_region
        go_wp2
        have fin := dUnhide FIN
        generalize ((w4.setCell ⟨w.heap.size + 1, 0, none⟩ (.int .i64 x)).setCell ⟨w.heap.size + 1, 1, none⟩ (.slice ua n c)).drew = V at *
        obtain ⟨o, r, b⟩ := fin
        have qq0 := (r.2 0 _ rfl).1
        have qq1 := (r.2 1 _ rfl).1
        exact bodyPost_ret (v := .tuple #[.agg #[.int .i64 x, .slice ua n c], .nilIface]) (by simp [results, Tryz.results73, go_sem, qq0, qq1]) rfl ⟨_, _, _, _, _, rfl, _, o, (fun _ => ⟨rfl, rfl⟩), (fun h => absurd ⟨rfl, hql, hP⟩ h), b⟩
      · obtain rfl := hr.of_no hP
        have CR := dHide (refuse_new ab _ _ 0 w4 h4)
        clear hr CK h3 d1 d2 dy x0 c0 c1
        go_wp2_with fail
        refine (dUnhide CR).mono ?_
        rintro e w5 ⟨rfl, hc5, hw5⟩
        obtain ⟨oF, rF, zF, xF, bF⟩ := dUnhide HFW w5 ((Wr.of_below b4).trans hw5)
        have dw := (hc5.1.2 2 _ rfl).1
        unfold wrg at dw
        have r0 := rF 0 _ rfl
        have r1 := rF 1 _ rfl
        obtain ⟨z0, y0⟩ := zF.2 0 _ rfl
        obtain ⟨z1, y1⟩ := zF.2 1 _ rfl
        have FIN := dHide (dUnhide HFIN _ oF zF bF)
        go_wp2_with fail
        go_region
        go_wp2
        have fin := dUnhide FIN
        generalize ((w5.setCell ⟨w.heap.size + 1, 0, none⟩ (.int .i64 x)).setCell ⟨w.heap.size + 1, 1, none⟩ (.slice ua n c)).drew = V at *
        obtain ⟨o, r, b⟩ := fin
        have qq0 := (r.2 0 _ rfl).1
        have qq1 := (r.2 1 _ rfl).1
        exact bodyPost_ret (v := .tuple #[.agg #[.int .i64 x, .slice ua n c], .iface 105 (.agg #[.int .i64 (0)])]) (by simp [results, Tryz.results73, go_sem, qq0, qq1]) rfl ⟨_, _, _, _, _, rfl, _, o, (fun h => absurd h.2.2 hP), (fun _ => ⟨_, rfl⟩), b⟩
  | false =>
    obtain ⟨p, y, h3⟩ := hc3.isNo
    have d1 := (h3.1.2 1 _ rfl).1
    have d2 := (h3.1.2 2 _ rfl).1
    have dy := h3.2.1
    have CR := dHide (refuse_old ab _ y y p _ h3)
    obtain ⟨oF, rF, zF, xF, bF⟩ := dUnhide HF3
    unfold wrg at d2
    by_cases hlt : y < (bs.length : Int)
    · go_upto_region 4 with fail
      generalize w2.alloc (.cells #[.int .i64 x, .slice ua n c] 40) = w3 at *
      go_wp2_with fail
      refine (dUnhide CR).mono ?_
      rintro e w4 ⟨rfl, rfl⟩
      have r0 := rF 0 _ rfl
      have r1 := rF 1 _ rfl
      obtain ⟨z0, y0⟩ := zF.2 0 _ rfl
      obtain ⟨z1, y1⟩ := zF.2 1 _ rfl
      have FIN := dHide (dUnhide HFIN _ oF zF bF)
      go_wp2_with fail
      go_region
      go_wp2
      have fin := dUnhide FIN
      generalize ((w4.setCell ⟨w.heap.size + 1, 0, none⟩ (.int .i64 x)).setCell ⟨w.heap.size + 1, 1, none⟩ (.slice ua n c)).drew = V at *
      obtain ⟨o, r, b⟩ := fin
      have qq0 := (r.2 0 _ rfl).1
      have qq1 := (r.2 1 _ rfl).1
      exact bodyPost_ret (v := .tuple #[.agg #[.int .i64 x, .slice ua n c], .iface 105 (.agg #[.int .i64 (p)])]) (by simp [results, Tryz.results73, go_sem, qq0, qq1]) rfl ⟨_, _, _, _, _, rfl, _, o, (fun h => by cases h.1), (fun _ => ⟨_, rfl⟩), b⟩
    · go_upto_region 5 with fail
      generalize w2.alloc (.cells #[.int .i64 x, .slice ua n c] 40) = w3 at *
      have r0 := rF 0 _ rfl
      have r1 := rF 1 _ rfl
      obtain ⟨z0, y0⟩ := zF.2 0 _ rfl
      obtain ⟨z1, y1⟩ := zF.2 1 _ rfl
      have FIN := dHide (dUnhide HFIN _ oF zF bF)
      go_wp2_with fail
      go_region
      go_wp2
      have fin := dUnhide FIN
      generalize ((w3.setCell ⟨w.heap.size + 1, 0, none⟩ (.int .i64 x)).setCell ⟨w.heap.size + 1, 1, none⟩ (.slice ua n c)).drew = V at *
      obtain ⟨o, r, b⟩ := fin
      have qq0 := (r.2 0 _ rfl).1
      have qq1 := (r.2 1 _ rfl).1
      exact bodyPost_ret (v := .tuple #[.agg #[.int .i64 x, .slice ua n c], .iface 105 (.agg #[.int .i64 (p)])]) (by simp [results, Tryz.results73, go_sem, qq0, qq1]) rfl ⟨_, _, _, _, _, rfl, _, o, (fun h => by cases h.1), (fun _ => ⟨_, rfl⟩), b⟩
end Go.Proofs.YthndkkjgjhgdnaaGreatDoor
namespace Go.Proofs.YthndkkjgjhgdnaaGreatDoor
open Go.ChangeShapes Go.WideShapes Go.ChangeAt Go.RowKit
set_option linter.unusedVariables false
set_option linter.unusedSimpArgs false
set_option maxRecDepth 100000

set_option maxHeartbeats 8000000 in
theorem unpackWriter (cb : Nat) (v : Value) (O : Nat → Wt → Value → World → Prop) (hO : ∀ b m u, FarO b (O b m u)) (hOm : ∀ b b' m u W, b ≤ b' → O b' m u W → O b m u W) (G : Prop) (M : Wt) (w : World) (hH : Hnd w)
    (CI : ∀ W, Below w.heap.size w W → Calls Tryz.prog 73 #[.agg #[.func (.func 67) #[] #[.pointer (some ⟨cb, 0, none⟩)], .func (.func 69) #[] #[], .func (.func 70) #[] #[.pointer (some ⟨cb, 0, none⟩)]], v] W fun e w' => ∃ (x : Int) (ua : Option Addr) (n c : Nat) (err : Value), e = .returned (.tuple #[.agg #[.int .i64 x, .slice ua n c], err]) ∧ RecPost (O W.heap.size) G M W (.agg #[.int .i64 x, .slice ua n c]) err w') (va : Option Addr) (vn vcp : Nat) (hvv : v = .slice va vn vcp) :
    Calls Tryz.prog 39 #[.agg #[.func (.func 67) #[] #[.pointer (some ⟨cb, 0, none⟩)], .func (.func 69) #[] #[], .func (.func 70) #[] #[.pointer (some ⟨cb, 0, none⟩)]], v] w fun e w' => ∃ (x : Int) (ua : Option Addr) (n c : Nat) (b : Bool), e = .returned (.tuple #[.agg #[.int .i64 x, .slice ua n c], .bool b]) ∧ UnPost (O w.heap.size) G M (.agg #[.int .i64 0, .slice none 0 0]) w (.agg #[.int .i64 x, .slice ua n c]) b w' := by
  have ba : ∀ (w : World) o, Below w.heap.size w (w.alloc o) := fun w o => (Below.refl _ _).alloc (Nat.le_refl _) o
  subst hvv
  replace CI := dHide CI
  replace hO := dHide hO
  replace hOm := dHide hOm
  have e1 : (w.alloc (.cells #[.func (.func 67) #[] #[.pointer (some ⟨cb, 0, none⟩)], .func (.func 69) #[] #[], .func (.func 70) #[] #[.pointer (some ⟨cb, 0, none⟩)]] 76)).heap.size = w.heap.size + 1 := by simp
  have X0 := (Bx.new w [.func (.func 67) #[] #[.pointer (some ⟨cb, 0, none⟩)], .func (.func 69) #[] #[], .func (.func 70) #[] #[.pointer (some ⟨cb, 0, none⟩)]] 76).below (ba _ (.cells #[.int .i64 0, .slice none 0 0] 40))
  have Z0 := BxZ.new (B := w.heap.size) (w.alloc (.cells #[.func (.func 67) #[] #[.pointer (some ⟨cb, 0, none⟩)], .func (.func 69) #[] #[], .func (.func 70) #[] #[.pointer (some ⟨cb, 0, none⟩)]] 76)) [.int .i64 0, .slice none 0 0] 40 (by simp)
  rw [e1] at Z0
  have B0 := belowThen (ba w (.cells #[.func (.func 67) #[] #[.pointer (some ⟨cb, 0, none⟩)], .func (.func 69) #[] #[], .func (.func 70) #[] #[.pointer (some ⟨cb, 0, none⟩)]] 76)) (ba _ (.cells #[.int .i64 0, .slice none 0 0] 40))
  have e2 : ((w.alloc (.cells #[.func (.func 67) #[] #[.pointer (some ⟨cb, 0, none⟩)], .func (.func 69) #[] #[], .func (.func 70) #[] #[.pointer (some ⟨cb, 0, none⟩)]] 76)).alloc (.cells #[.int .i64 0, .slice none 0 0] 40)).heap.size = w.heap.size + 2 := by simp
  have hH := dHide fun (W : World) (hb : Below w.heap.size w W) => hH.below hb (Nat.le_refl _)
  clear e1
  go_enter Tryz.func39, Tryz.ntmps39
  go_upto_region 1 with fail
  generalize (w.alloc (.cells #[.func (.func 67) #[] #[.pointer (some ⟨cb, 0, none⟩)], .func (.func 69) #[] #[], .func (.func 70) #[] #[.pointer (some ⟨cb, 0, none⟩)]] 76)).alloc (.cells #[.int .i64 0, .slice none 0 0] 40) = w0 at *
  have f0 := X0 0 _ rfl
  have f1 := X0 1 _ rfl
  have f2 := X0 2 _ rfl
  have C1 := dHide (dUnhide CI w0 B0)
  clear CI X0
  go_wp2_with fail
  refine (dUnhide C1).mono ?_
  rintro e w1 ⟨x, ua, n, c, err, rfl, m, hm, hy, hn, b1⟩
  have B1 := belowThen B0 b1
  have Z1 := Z0.below b1
  have hs1 := b1.size
  have b2 := ba w1 (.cells #[.int .i64 x, .slice ua n c] 40)
  have b3 := ba (w1.alloc (.cells #[.int .i64 x, .slice ua n c] 40)) (.cells #[.int .i64 0] 105)
  have R2 := (Bx.new w1 [.int .i64 x, .slice ua n c] 40).below b3
  have T3 := BxZ.new (B := w.heap.size) (w1.alloc (.cells #[.int .i64 x, .slice ua n c] 40)) [.int .i64 0] 105 (by simp; omega)
  have hs2 : (w1.alloc (.cells #[.int .i64 x, .slice ua n c] 40)).heap.size = w1.heap.size + 1 := by simp
  have hs3 : ((w1.alloc (.cells #[.int .i64 x, .slice ua n c] 40)).alloc (.cells #[.int .i64 0] 105)).heap.size = w1.heap.size + 2 := by simp
  rw [hs2] at T3
  have B3 := belowThen (belowThen B1 b2) b3
  have Z3 := (Z1.below b2).below b3
  have O3 := dHide ((dUnhide hO) _ _ _ _ _ ((dUnhide hO) _ _ _ _ _ hm b2.size (fun k _ hk => b2.block k hk)) b3.size (fun k _ hk => b3.block k hk))
  have H3 := (dUnhide hH) _ B3
  by_cases hG : G
  · obtain ⟨rfl, rfl⟩ := hy hG
    have CA := dHide (as_nil (.iface 107 (.pointer (some ⟨w1.heap.size + 1, 0, none⟩))) ((w1.alloc (.cells #[.int .i64 x, .slice ua n c] 40)).alloc (.cells #[.int .i64 0] 105)))
    clear C1 f0 f1 f2 hy hn hm H3 T3 b2 b3 b1 Z0 B0 Z1 B1
    go_upto_region 3 with fail
    go_wp2_with fail
    generalize (w1.alloc (.cells #[.int .i64 x, .slice ua n c] 40)).alloc (.cells #[.int .i64 0] 105) = w3 at *
    refine (dUnhide CA).mono ?_
    rintro e w4 ⟨rfl, rfl⟩
    have FIN := dHide (⟨(dUnhide hOm) w.heap.size _ _ _ _ (by omega) ((dUnhide hO) _ _ _ _ ((w4.setCell ⟨w.heap.size + 1, 0, none⟩ (.int .i64 x)).setCell ⟨w.heap.size + 1, 1, none⟩ (.slice ua n c)) (dUnhide O3) (by simp) (fun k h1 h2 => by
      show ((w4.setCell ⟨w.heap.size + 1, 0, none⟩ (.int .i64 x)).setCell ⟨w.heap.size + 1, 1, none⟩ (.slice ua n c)).heap[k]? = _
      rw [Below.heap_setCell _ _ _ k (by simp only; omega), Below.heap_setCell _ _ _ k (by simp only; omega)])), (show BxZ ((w4.setCell ⟨w.heap.size + 1, 0, none⟩ (.int .i64 x)).setCell ⟨w.heap.size + 1, 1, none⟩ (.slice ua n c)) _ _ _ from ((Z3.put 0 (.int .i64 x)).put 1 (.slice ua n c))), (show Below _ _ ((w4.setCell ⟨w.heap.size + 1, 0, none⟩ (.int .i64 x)).setCell ⟨w.heap.size + 1, 1, none⟩ (.slice ua n c)) from (Below.setCell (p := ⟨w.heap.size + 1, 1, none⟩) (Below.setCell (p := ⟨w.heap.size + 1, 0, none⟩) B3 (by simp only; omega) (.int .i64 x)) (by simp only; omega) (.slice ua n c)))⟩ :
      O w.heap.size m (.agg #[.int .i64 x, .slice ua n c]) ((w4.setCell ⟨w.heap.size + 1, 0, none⟩ (.int .i64 x)).setCell ⟨w.heap.size + 1, 1, none⟩ (.slice ua n c)) ∧ BxZ ((w4.setCell ⟨w.heap.size + 1, 0, none⟩ (.int .i64 x)).setCell ⟨w.heap.size + 1, 1, none⟩ (.slice ua n c)) w.heap.size (w.heap.size + 1) [.int .i64 x, .slice ua n c] ∧ Below w.heap.size w ((w4.setCell ⟨w.heap.size + 1, 0, none⟩ (.int .i64 x)).setCell ⟨w.heap.size + 1, 1, none⟩ (.slice ua n c)))
    clear CA
    have r0 := R2 0 _ rfl
    have r1 := R2 1 _ rfl
    obtain ⟨z0, y0⟩ := Z3.2 0 _ rfl
    obtain ⟨z1, y1⟩ := Z3.2 1 _ rfl
    go_wp2
    have fin := dUnhide FIN
    generalize ((w4.setCell ⟨w.heap.size + 1, 0, none⟩ (.int .i64 x)).setCell ⟨w.heap.size + 1, 1, none⟩ (.slice ua n c)) = V at *
    obtain ⟨o, r, b⟩ := fin
    have qq0 := (r.2 0 _ rfl).1
    have qq1 := (r.2 1 _ rfl).1
    exact bodyPost_ret (v := .tuple #[.agg #[.int .i64 x, .slice ua n c], .bool true]) (by simp [results, Tryz.results39, go_sem, qq0, qq1]) rfl ⟨_, _, _, _, _, rfl, fun _ => ⟨rfl, o⟩, fun h => absurd hG h, b⟩
  · obtain ⟨p, rfl⟩ := hn hG
    have CA := dHide (as_bad (w1.heap.size + 1) p 0 ((w1.alloc (.cells #[.int .i64 x, .slice ua n c] 40)).alloc (.cells #[.int .i64 0] 105)) H3 (T3.2 0 _ rfl).1 (T3.2 0 _ rfl).2)
    unfold wrg
    clear C1 f0 f1 f2 hy hn hm H3 b2 b3 b1 Z0 B0 Z1 B1 O3 R2
    go_upto_region 3 with fail
    go_wp2_with fail
    generalize (w1.alloc (.cells #[.int .i64 x, .slice ua n c] 40)).alloc (.cells #[.int .i64 0] 105) = w3 at *
    refine (dUnhide CA).mono ?_
    rintro e w4 ⟨rfl, d4⟩
    have B4 : Below w.heap.size w w4 := d4.below B3 (by omega) (by omega)
    have Z4 := Z3.drawn d4 (by omega)
    have b5 := ba w4 (.cells #[.int .i64 0, .slice none 0 0] 40)
    have B5 := belowThen B4 b5
    have Z5 := Z4.below b5
    have R5 := Bx.new w4 [.int .i64 0, .slice none 0 0] 40
    have FIN := dHide (⟨trivial, (show BxZ (((w4.alloc (.cells #[.int .i64 0, .slice none 0 0] 40)).setCell ⟨w.heap.size + 1, 0, none⟩ (.int .i64 0)).setCell ⟨w.heap.size + 1, 1, none⟩ (.slice none 0 0)) _ _ _ from ((Z5.put 0 (.int .i64 0)).put 1 (.slice none 0 0))), (show Below _ _ (((w4.alloc (.cells #[.int .i64 0, .slice none 0 0] 40)).setCell ⟨w.heap.size + 1, 0, none⟩ (.int .i64 0)).setCell ⟨w.heap.size + 1, 1, none⟩ (.slice none 0 0)) from (Below.setCell (p := ⟨w.heap.size + 1, 1, none⟩) (Below.setCell (p := ⟨w.heap.size + 1, 0, none⟩) B5 (by simp only; omega) (.int .i64 0)) (by simp only; omega) (.slice none 0 0)))⟩ :
      True ∧ BxZ (((w4.alloc (.cells #[.int .i64 0, .slice none 0 0] 40)).setCell ⟨w.heap.size + 1, 0, none⟩ (.int .i64 0)).setCell ⟨w.heap.size + 1, 1, none⟩ (.slice none 0 0)) w.heap.size (w.heap.size + 1) [.int .i64 0, .slice none 0 0] ∧ Below w.heap.size w (((w4.alloc (.cells #[.int .i64 0, .slice none 0 0] 40)).setCell ⟨w.heap.size + 1, 0, none⟩ (.int .i64 0)).setCell ⟨w.heap.size + 1, 1, none⟩ (.slice none 0 0)))
    clear CA d4 B4 Z4 Z3 B3 T3
    have r0 := R5 0 _ rfl
    have r1 := R5 1 _ rfl
    obtain ⟨z0, y0⟩ := Z5.2 0 _ rfl
    obtain ⟨z1, y1⟩ := Z5.2 1 _ rfl
    go_wp2
    have fin := dUnhide FIN
    generalize (((w4.alloc (.cells #[.int .i64 0, .slice none 0 0] 40)).setCell ⟨w.heap.size + 1, 0, none⟩ (.int .i64 0)).setCell ⟨w.heap.size + 1, 1, none⟩ (.slice none 0 0)) = V at *
    obtain ⟨o, r, b⟩ := fin
    have qq0 := (r.2 0 _ rfl).1
    have qq1 := (r.2 1 _ rfl).1
    exact bodyPost_ret (v := .tuple #[.agg #[.int .i64 0, .slice none 0 0], .bool false]) (by simp [results, Tryz.results39, go_sem, qq0, qq1]) rfl ⟨_, _, _, _, _, rfl, fun h => absurd h hG, fun _ => ⟨rfl, rfl⟩, b⟩
end Go.Proofs.YthndkkjgjhgdnaaGreatDoor
