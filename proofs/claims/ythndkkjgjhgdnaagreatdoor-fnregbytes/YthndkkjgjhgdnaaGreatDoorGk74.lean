/- Several texts in one: PrG, RgI, RgJ, WitA. -/
import Derived.Test.YthndkkjgjhgdnaaGreatDoorGk72
import Derived.Test.YthndkkjgjhgdnaaGreatDoorPkP
import Derived.Test.YthndkkjgjhgdnaaGreatDoorGk63
import Derived.Test.YthndkkjgjhgdnaaGreatDoorGaC
import Derived.Test.YthndkkjgjhgdnaaGreatDoorGaA
import Derived.Test.YthndkkjgjhgdnaaGreatDoorGk60
import Derived.Test.YthndkkjgjhgdnaaGreatDoorRgH
import Derived.Test.YthndkkjgjhgdnaaGreatDoorGk69
namespace Go.Proofs.YthndkkjgjhgdnaaGreatDoor
open Go.ChangeShapes Go.WideShapes Go.ChangeAt Go.RowKit
set_option linter.unusedVariables false
set_option linter.unusedSimpArgs false
set_option maxRecDepth 100000

theorem BxZ.wrZ {W W' : World} {B b ab : Nat} {vs : List Value} (h : BxZ W B b vs) (hw : Wr ab (ab + 2) W W') (hb : ab + 2 ≤ b) : BxZ W' B b vs :=
  ⟨h.1, fun i u hu => ⟨(World.cell?_of_block (a := ⟨b, i, none⟩) (hw.block _ (dCell_lt (h.2 i u hu).1) (.inr hb))).trans (h.2 i u hu).1, (World.frozen?_of_block (a := ⟨b, i, none⟩) (hw.block _ (dCell_lt (h.2 i u hu).1) (.inr hb))).trans (h.2 i u hu).2⟩⟩
theorem OwnN.wr17 {lo hi base : Nat} {w w' : World} {v : Value} {xs : List Int} (h : OwnN w base v xs) (hd : Wr lo hi w w') (hb : hi ≤ base) : OwnN w' base v xs := OwnN.farO base v xs w w' h hd.size (fun k h1 h2 => hd.block k h2 (.inr (by omega)))
theorem ApR.farR {n : Nat} {u : Value} {rs : List (Nst Er)} {W W' : World} (h : ApR 57 3 erCl W n u rs) (hs : W.heap.size ≤ W'.heap.size) (hk : ∀ k, n ≤ k → k < W.heap.size → W'.heap[k]? = W.heap[k]?) : ApR 57 3 erCl W' n u rs := by
  rcases h with h | h
  · exact .inl h
  · refine .inr ?_
    rcases h.2 with h0 | ⟨g, cap, cur, h1, h2, h3, h4⟩
    · exact ⟨h.1, .inl h0⟩
    · exact ⟨h.1, .inr ⟨g, cap, cur, h1, h2, (hk g h2 (Array.getElem?_eq_some_iff.1 h3).1).trans h3, h4⟩⟩
theorem ApR.wrR {lo hi n : Nat} {u : Value} {rs : List (Nst Er)} {W W' : World} (h : ApR 57 3 erCl W n u rs) (hd : Wr lo hi W W') (hb : hi ≤ n) : ApR 57 3 erCl W' n u rs := h.farR hd.size (fun k h1 h2 => hd.block k h2 (.inr (by omega)))
theorem NAp.farO (n : Nat) (u : Value) (ms : List Er) : FarO n (fun W => NAp W n u ms) := fun W W' h hs hk => by
  obtain ⟨rs, h1, h2, h3, h4, h5⟩ := h
  exact ⟨rs, h1, h2.farR hs hk, fun p hp => OwnN.farO n _ _ W W' (h3 p hp) hs hk, h4, h5⟩
theorem NAp.wr {lo hi base : Nat} {w w' : World} {v : Value} {ms : List Er} (h : NAp w base v ms) (hd : Wr lo hi w w') (hb : hi ≤ base) : NAp w' base v ms := NAp.farO base v ms w w' h hd.size (fun k h1 h2 => hd.block k h2 (.inr (by omega)))
/-- A list of eras is read. -/
def rdErl (bs : List UInt8) (q : Nat) (ok : Bool) : List Er × Nat × Bool := rdErs bs (rdN bs q ok).1.toNat (rdN bs q ok).2.1 (rdN bs q ok).2.2
set_option maxHeartbeats 4000000 in
theorem flag_any (ab : Nat) (v : Value) (bs : List UInt8) (q : Nat) (ok : Bool) (w : World) (hc : Rc w ab v q ok) (hv : Bs w v bs) (hne : bs = [] ∨ blockOf v ≠ ab) :
    Calls Tryz.prog 125 #[.pointer (some ⟨ab + 1, 0, none⟩)] w fun e w' => ∃ b : Bool, e = .returned (.bool b) ∧ (((rdN bs q ok).2.2 && decide ((rdN bs q ok).1 ≤ 1)) = true → b = ((rdN bs q ok).1 == 1)) ∧ Rc w' ab v (rdN bs q ok).2.1 ((rdN bs q ok).2.2 && decide ((rdN bs q ok).1 ≤ 1)) ∧ Wr ab (ab + 2) w w' := by
  have C1 := dHide (number_any ab v bs q ok w hc hv hne)
  have hd1 : ∃ y, w.cell? ⟨ab + 1, 1, none⟩ = some (.pointer (some ⟨ab, 0, none⟩)) ∧ w.cell? ⟨ab, 0, none⟩ = some (.int .i64 y) := by
    cases ok
    · obtain ⟨p, y, h⟩ := hc.isNo
      exact ⟨y, (h.1.2 1 _ rfl).1, h.2.1⟩
    · exact ⟨_, (hc.isYes.1.2 1 _ rfl).1, hc.isYes.2.1⟩
  obtain ⟨y, d1, d2⟩ := hd1
  generalize rdN bs q ok = R at *
  obtain ⟨cz, q1, o1⟩ := R
  simp only at C1 ⊢
  clear hc hv
  have FR : Hid (∀ p w1, Rc w1 ab v q1 o1 → (o1 && decide (cz ≤ 1)) = false → Calls Tryz.prog 96 #[.pointer (some ⟨ab + 1, 0, none⟩), .int .i64 p] w1 fun e w' => e = .returned (.tuple #[]) ∧ Rc w' ab v q1 (o1 && decide (cz ≤ 1)) ∧ Wr ab (ab + 2) w1 w') := fun p w1 h hF => by
    rw [hF]
    cases o1
    · obtain ⟨p', y', h'⟩ := h.isNo
      exact (refuse_old ab v y' p p' w1 h').mono fun e w' k => ⟨k.1, by rw [k.2]; exact h, by rw [k.2]; exact Wr.refl _ _ _⟩
    · exact (refuse_new ab v _ p w1 h.isYes).mono fun e w' k => ⟨k.1, Rc.no k.2.1, k.2.2⟩
  have FK : Hid (∀ w1 (x : Int), Rc w1 ab v q1 o1 → (o1 = true → x = cz) → x ≤ 1 → Rc w1 ab v q1 (o1 && decide (cz ≤ 1))) := fun w1 x h hx h1 => by
    cases o1
    · exact h
    · rw [Bool.true_and, decide_eq_true (by rw [← hx rfl]; exact h1)]; exact h
  go_enter Tryz.func125, Tryz.ntmps125
  go_wp2_with fail
  refine (dUnhide C1).mono ?_
  rintro e w1 ⟨x, rfl, hxb, hx, hc1, hw1⟩
  have HX := dHide hx
  have HC1 := dHide hc1
  have HW1 := dHide hw1
  have HF : Hid (1 < x → (o1 && decide (cz ≤ 1)) = false) := fun h => by
    cases o1
    · rfl
    · rw [Bool.true_and, decide_eq_false (by rw [← hx rfl]; omega)]
  have HB : Hid ((o1 && decide (cz ≤ 1)) = true → (x == 1) = (cz == 1)) := fun h => by
    rw [Bool.and_eq_true] at h
    rw [hx h.1]
  clear C1 hx hc1 hw1 d1 d2
  by_cases hgt : 1 < x
  · have C2 := dHide (dUnhide FR y w1 (dUnhide HC1) (dUnhide HF hgt))
    clear FR FK
    go_wp2_with fail
    refine (dUnhide C2).mono ?_
    rintro e w2 ⟨rfl, hc2, hw2⟩
    have F := dHide (And.intro hc2 ((dUnhide HW1).trans hw2))
    clear C2 hc2 hw2
    go_wp2
    go_ret
    exact ⟨_, rfl, dUnhide HB, (dUnhide F).1, (dUnhide F).2⟩
  · have F := dHide (And.intro (dUnhide FK w1 x (dUnhide HC1) (dUnhide HX) (by omega)) (dUnhide HW1))
    clear FR FK
    go_wp2
    go_ret
    exact ⟨_, rfl, dUnhide HB, (dUnhide F).1, (dUnhide F).2⟩
set_option maxHeartbeats 4000000 in
theorem era_any (ab : Nat) (v : Value) (bs : List UInt8) (q : Nat) (ok : Bool) (w : World) (hc : Rc w ab v q ok) (HV : ∀ W, Wr ab (ab + 2) w W → Bs W v bs) (hl : bs.length ≤ 1048576) (hq : q ≤ bs.length) (hne : bs = [] ∨ blockOf v ≠ ab) :
    Calls Tryz.prog 94 #[.pointer (some ⟨ab + 1, 0, none⟩)] w fun e w' => ∃ m : Nst Er, e = .returned (.agg #[.slice m.a m.m.nodes.length m.c, .bool m.m.closed, .int .i64 m.m.last]) ∧ OwnN w' w.heap.size (Sv Er.nodes m) m.m.nodes ∧ ((rdEr bs q ok).2.2 = true → m.m = (rdEr bs q ok).1) ∧ Rc w' ab v (rdEr bs q ok).2.1 (rdEr bs q ok).2.2 ∧ Wr ab (ab + 2) w w' := by
  have hab := hc.lt
  have ba : Below w.heap.size w (w.alloc (.cells #[.slice none 0 0, .bool false, .int .i64 0] 57)) := (Below.refl _ _).alloc (Nat.le_refl _) _
  have Z0 := BxZ.new (B := w.heap.size) w [.slice none 0 0, .bool false, .int .i64 0] 57 (Nat.le_refl _)
  have HV := dHide HV
  have CL := dHide fun W (hd : Wr ab (ab + 2) w W) (hc : Rc W ab v q ok) => listOfI_any ab v bs q ok W hc (fun W' hW' => dUnhide HV W' (hd.trans hW')) hl hq hne
  have CF := dHide fun W (hd : Wr ab (ab + 2) w W) (hc : Rc W ab v (rdL bs q ok).2.1 (rdL bs q ok).2.2) => flag_any ab v bs _ _ W hc (dUnhide HV W hd) hne
  have CN := dHide fun W (hd : Wr ab (ab + 2) w W) (hc : Rc W ab v (rdN bs (rdL bs q ok).2.1 (rdL bs q ok).2.2).2.1 ((rdN bs (rdL bs q ok).2.1 (rdL bs q ok).2.2).2.2 && decide ((rdN bs (rdL bs q ok).2.1 (rdL bs q ok).2.2).1 ≤ 1))) => number_any ab v bs _ _ W hc (dUnhide HV W hd) hne
  have W0 := Wr.of_below (lo := ab) (hi := ab + 2) ba
  have V0 := Wr.refl ab (ab + 2) (w.alloc (.cells #[.slice none 0 0, .bool false, .int .i64 0] 57))
  have hs0 : (w.alloc (.cells #[.slice none 0 0, .bool false, .int .i64 0] 57)).heap.size = w.heap.size + 1 := by simp
  have K1 : Hid ((rdN bs (rdL bs q ok).2.1 (rdL bs q ok).2.2).2.2 = true → (rdL bs q ok).2.2 = true) := rdN_was
  have K3 : Hid (((rdN bs (rdL bs q ok).2.1 (rdL bs q ok).2.2).2.2 && decide ((rdN bs (rdL bs q ok).2.1 (rdL bs q ok).2.2).1 ≤ 1)) = true → rdN bs (rdN bs (rdL bs q ok).2.1 (rdL bs q ok).2.2).2.1 ((rdN bs (rdL bs q ok).2.1 (rdL bs q ok).2.2).2.2 && decide ((rdN bs (rdL bs q ok).2.1 (rdL bs q ok).2.2).1 ≤ 1)) = rdN bs (rdN bs (rdL bs q ok).2.1 (rdL bs q ok).2.2).2.1 (rdN bs (rdL bs q ok).2.1 (rdL bs q ok).2.2).2.2) := fun h => by
    have h' := h
    rw [Bool.and_eq_true] at h'
    rw [h, h'.1]
  have K4 : Hid ((rdN bs (rdN bs (rdL bs q ok).2.1 (rdL bs q ok).2.2).2.1 (rdN bs (rdL bs q ok).2.1 (rdL bs q ok).2.2).2.2).2.2 = true → (rdN bs (rdL bs q ok).2.1 (rdL bs q ok).2.2).2.2 = true) := rdN_was
  have K5 : Hid (((rdN bs (rdL bs q ok).2.1 (rdL bs q ok).2.2).2.2 && decide ((rdN bs (rdL bs q ok).2.1 (rdL bs q ok).2.2).1 ≤ 1)) = false → (rdN bs (rdN bs (rdL bs q ok).2.1 (rdL bs q ok).2.2).2.1 ((rdN bs (rdL bs q ok).2.1 (rdL bs q ok).2.2).2.2 && decide ((rdN bs (rdL bs q ok).2.1 (rdL bs q ok).2.2).1 ≤ 1))).2.2 = false) := fun h => by rw [h]; rfl
  have EE : Hid (rdEr bs q ok = (⟨(rdL bs q ok).1, (rdN bs (rdL bs q ok).2.1 (rdL bs q ok).2.2).1 == 1, (rdN bs (rdN bs (rdL bs q ok).2.1 (rdL bs q ok).2.2).2.1 (rdN bs (rdL bs q ok).2.1 (rdL bs q ok).2.2).2.2).1⟩, (rdN bs (rdN bs (rdL bs q ok).2.1 (rdL bs q ok).2.2).2.1 (rdN bs (rdL bs q ok).2.1 (rdL bs q ok).2.2).2.2).2.1, (rdN bs (rdN bs (rdL bs q ok).2.1 (rdL bs q ok).2.2).2.1 (rdN bs (rdL bs q ok).2.1 (rdL bs q ok).2.2).2.2).2.2 && decide ((rdN bs (rdL bs q ok).2.1 (rdL bs q ok).2.2).1 ≤ 1))) := rfl
  generalize rdEr bs q ok = RE at *
  generalize (rdN bs (rdN bs (rdL bs q ok).2.1 (rdL bs q ok).2.2).2.1 (rdN bs (rdL bs q ok).2.1 (rdL bs q ok).2.2).2.2) = T3 at *
  generalize (rdN bs (rdN bs (rdL bs q ok).2.1 (rdL bs q ok).2.2).2.1 ((rdN bs (rdL bs q ok).2.1 (rdL bs q ok).2.2).2.2 && decide ((rdN bs (rdL bs q ok).2.1 (rdL bs q ok).2.2).1 ≤ 1))) = T4 at *
  generalize (rdN bs (rdL bs q ok).2.1 (rdL bs q ok).2.2) = N2 at *
  generalize (rdL bs q ok) = N1 at *
  have eE := dUnhide EE
  subst eE
  obtain ⟨ns, p1, o1⟩ := N1
  obtain ⟨cz, p2, o2⟩ := N2
  obtain ⟨lz, p3, o3⟩ := T3
  obtain ⟨l4, p4, o4⟩ := T4
  simp only at CL CF CN K1 K3 K4 K5 ⊢
  have hc0 := hc.below ba
  clear EE hc
  go_enter Tryz.func94, Tryz.ntmps94
  go_upto_region 1 with fail
  generalize w.alloc (.cells #[.slice none 0 0, .bool false, .int .i64 0] 57) = w0 at *
  have D1 := dHide (dUnhide CL w0 W0 hc0)
  clear CL hc0
  go_wp2_with fail
  refine (dUnhide D1).mono ?_
  rintro e w1 ⟨u, xs, rfl, O1, hx0, hc1, hw1⟩
  have W1 := W0.trans hw1
  have V1 := V0.trans hw1
  have hs1 := hw1.size
  obtain ⟨-, ua, uc, rfl, -⟩ := O1.bs
  have D2 := dHide (dUnhide CF w1 W1 hc1)
  have HX0 := dHide hx0
  clear D1 CF hc1 hw1 hx0
  go_wp2_with fail
  refine (dUnhide D2).mono ?_
  rintro e w2 ⟨x1, rfl, hx1, hc2, hw2⟩
  have W2 := W1.trans hw2
  have V2 := V1.trans hw2
  have O2 := O1.wr17 hw2 (by omega)
  have D3 := dHide (dUnhide CN w2 W2 hc2)
  have HX1 := dHide hx1
  clear D2 CN hc2 hw2 hx1 O1
  go_wp2_with fail
  refine (dUnhide D3).mono ?_
  rintro e w3 ⟨x2, rfl, hb2, hx2, hc3, hw3⟩
  have W3 := W2.trans hw3
  have V3 := V2.trans hw3
  have O3 := dHide (O2.wr17 hw3 (by omega))
  have HX2 := dHide hx2
  have hs3 := W3.size
  have Z3 : BxZ w3 w.heap.size w.heap.size [.slice none 0 0, .bool false, .int .i64 0] := Z0.wrZ V3 hab
  have HC3 := dHide hc3
  clear D3 hx2 hw3 W1 W2 O2 hc3
  go_wp2_with (refine wp_putW rfl _ _ _ rfl rfl [.slice ua xs.length uc, .bool x1, .int .i64 x2] rfl rfl Z3 rfl (by kernel_rfl) (by kernel_rfl) ?_; intro w4 Y4 s4 g4 b4)
  refine bodyPost_ret (results_box Tryz.results94 _ _ _ [.slice ua xs.length uc, .bool x1, .int .i64 x2] _ rfl Y4.bx Tryz.underlying57 rfl (by kernel_rfl)) rfl ⟨⟨ua, uc, ⟨xs, x1, x2⟩⟩, rfl, ?_, fun h => ?_, ?_, W3.new (Nat.le_refl _) g4 s4 b4⟩
  · exact (OwnN.farO _ _ _ w3 w4 (dUnhide O3) (by rw [s4]; exact Nat.le_refl _) (fun k h1 h2 => g4 k (by omega))).mono (by omega)
  · have h' := h
    rw [Bool.and_eq_true] at h'
    have h2 := dUnhide K4 h'.1
    have hF : (o2 && decide (cz ≤ 1)) = true := by rw [Bool.and_eq_true]; exact ⟨h2, h'.2⟩
    have e3 := dUnhide K3 hF
    simp only [Prod.mk.injEq] at e3
    obtain ⟨rfl, rfl, rfl⟩ := e3
    rw [dUnhide HX0 (dUnhide K1 h2), dUnhide HX1 hF, dUnhide HX2 h'.1]
  · have hR := (dUnhide HC3).wr (row := some w.heap.size) ⟨b4.os, b4.tape, b4.output, by rw [s4]; exact Nat.le_refl _, fun k hk hn => g4 k (by rintro rfl; exact hn rfl)⟩ (by intro e; simp only [Option.some.injEq] at e; omega) (by intro e; simp only [Option.some.injEq] at e; omega)
    cases hF : (o2 && decide (cz ≤ 1)) with
    | true =>
      have e3 := dUnhide K3 hF
      simp only [Prod.mk.injEq] at e3
      obtain ⟨rfl, rfl, rfl⟩ := e3
      rw [Bool.and_eq_true] at hF
      rw [hF.2, Bool.and_true]
      exact hR
    | false =>
      have e4 := dUnhide K5 hF
      subst e4
      have e5 : (o3 && decide (cz ≤ 1)) = false := by
        cases ho : o3 with
        | false => rfl
        | true =>
          have h2 := dUnhide K4 ho
          rw [h2] at hF
          exact hF
      rw [e5]
      obtain ⟨pp, yy, hr⟩ := hR.isNo
      exact Rc.no hr
set_option maxHeartbeats 8000000 in
theorem listOfR_any (ab : Nat) (v : Value) (bs : List UInt8) (q : Nat) (ok : Bool) (w : World) (hc : Rc w ab v q ok) (HV : ∀ W, Wr ab (ab + 2) w W → Bs W v bs) (hl : bs.length ≤ 1048576) (hq : q ≤ bs.length) (hne : bs = [] ∨ blockOf v ≠ ab) :
    Calls Tryz.prog 93 #[.pointer (some ⟨ab + 1, 0, none⟩), .func (.func 94) #[.pointer (some ⟨ab + 1, 0, none⟩)] #[]] w fun e w' => ∃ u xs, e = .returned u ∧ NAp w' w.heap.size u xs ∧ ((rdErl bs q ok).2.2 = true → xs = (rdErl bs q ok).1) ∧ Rc w' ab v (rdErl bs q ok).2.1 (rdErl bs q ok).2.2 ∧ Wr ab (ab + 2) w w' := by
  have hab := hc.lt
  have HV := dHide HV
  have CN := dHide fun q ok W (hd : Wr ab (ab + 2) w W) (hc : Rc W ab v q ok) (hq : q ≤ bs.length) => era_any ab v bs q ok W hc (fun W' hW' => dUnhide HV W' (hd.trans hW')) hl hq hne
  have C1 := dHide (number_any ab v bs q ok w hc (dUnhide HV w (Wr.refl _ _ _)) hne)
  have HS : Hid ((rdN bs q ok).2.1 ≤ bs.length ∧ (∀ x : Int, ((rdN bs q ok).2.2 = true → x = (rdN bs q ok).1) → (rdN bs q ok).2.2 = true → rdErl bs q ok = rdErs bs x.toNat (rdN bs q ok).2.1 true) ∧ ((rdN bs q ok).2.2 = false → (rdErl bs q ok).2.2 = false)) := by
    refine ⟨rdN_le bs q ok hq, fun x hx h => ?_, fun h => ?_⟩
    · rw [hx h]; unfold rdErl; rw [h]
    · unfold rdErl; rw [h, rdErs_off]
  generalize rdN bs q ok = R at *
  generalize rdErl bs q ok = L at *
  obtain ⟨nI, q1, ok1⟩ := R
  obtain ⟨hq1, hL1, hL0⟩ := dUnhide HS
  simp only at hq1 hL1 hL0 C1
  have HL1 := dHide hL1
  have HL0 := dHide hL0
  clear hc HS hq hL1 hL0
  go_enter Tryz.func93, Tryz.ntmps93
  go_wp2_with fail
  refine (dUnhide C1).mono ?_
  rintro e w1 ⟨x, rfl, ⟨hx0, hx1⟩, hx, hc1, hd1⟩
  obtain ⟨n, rfl⟩ := Int.eq_ofNat_of_zero_le hx0
  have E1 : Hid (ok1 = true → L = rdErs bs n q1 true) := fun h => dUnhide HL1 (n : Int) hx h
  have E0 := HL0
  have hs1 := hd1.size
  have HC1 := dHide hc1
  have HD1 := dHide hd1
  clear HL1 HL0 hx hc1 hd1 C1
  go_wp2
  go_loopw [5, 6] (fun ov xv wr => ∃ (k : Nat) (xs : List Er) (p : Nat) (okb : Bool), xv = .int .i64 ((n : Int) - (k : Int)) ∧ xs.length = k ∧ k ≤ n ∧ k ≤ bs.length + 1 ∧ (okb = true → k ≤ p) ∧ p ≤ bs.length ∧ Hid (okb = true → L = (xs ++ (rdErs bs (n - k) p true).1, (rdErs bs (n - k) p true).2)) ∧ Hid (okb = false → L.2.2 = false) ∧ NAp wr w1.heap.size ov xs ∧ Hid (Rc wr ab v p okb) ∧ Hid (Wr ab (ab + 2) w wr) ∧ w1.heap.size ≤ wr.heap.size) (fun _ xv _ => (intOf xv).toNat)
  case atStart => exact ⟨0, [], q1, ok1, by simp, rfl, Nat.zero_le _, Nat.zero_le _, fun _ => Nat.zero_le _, hq1, by simpa [Hid] using dUnhide E1, E0, NAp.nil _ _ _, HC1, HD1, Nat.le_refl _⟩
  case round =>
    clear HC1 HD1 E1 E0
    obtain ⟨k, xs, p, okb, rfl, hxl, hkn, hkb, hkp, hp, HK, HZ, hown, HC, HD, hsz⟩ := hrel
    obtain ⟨p2, k2⟩ := (dUnhide HC).cell2
    have GO : Hid ((okb = true → k = n) → (∃ u xs, Ending.returned u5 = .returned u ∧ NAp wr w.heap.size u xs ∧ (L.2.2 = true → xs = L.1) ∧ Rc wr ab v L.2.1 L.2.2 ∧ Wr ab (ab + 2) w wr)) := by
      intro e
      cases okb with
      | true =>
        have e2 : L = (xs, p, true) := by
          have := dUnhide HK rfl
          rw [e rfl, Nat.sub_self, rdErs_zero] at this
          simpa using this
        rw [e2]
        exact ⟨_, xs, rfl, NAp.mono hown hs1, fun _ => rfl, dUnhide HC, dUnhide HD⟩
      | false =>
        have e2 := dUnhide HZ rfl
        obtain ⟨L1, L2, L3⟩ := L
        simp only at e2
        subst e2
        obtain ⟨pp, yy, hr⟩ := (dUnhide HC).isNo
        exact ⟨_, xs, rfl, NAp.mono hown hs1, fun h => (by cases h), Rc.no hr, dUnhide HD⟩
    by_cases hlt : (0 : Int) < (n : Int) - (k : Int)
    · cases okb
      · have G := dHide (dUnhide GO (fun h => (by cases h)))
        simp only [Bool.false_eq_true, if_false] at k2
        unfold wrg at k2
        clear GO HK HZ HC HD CN HV
        go_wp2
        go_ret
        exact dUnhide G
      · simp only [if_true] at k2
        have hkp2 : k ≤ p := hkp rfl
        have C2 := dHide (dUnhide CN p true wr (dUnhide HD) (dUnhide HC) hp)
        have HS : Hid (p ≤ (rdEr bs p true).2.1 ∧ (rdEr bs p true).2.1 ≤ bs.length ∧ ((rdEr bs p true).2.2 = true → p + 1 ≤ (rdEr bs p true).2.1)) := by
          obtain ⟨a1, a2, a3, -⟩ := rdEr_go bs p true hp
          exact ⟨a1, a2, fun h => by have := a3 h; omega⟩
        obtain ⟨j, hj⟩ : ∃ j, n - k = j + 1 := ⟨n - k - 1, by omega⟩
        have hj2 : n - (k + 1) = j := by omega
        have HK2 : Hid (L = (xs ++ [(rdEr bs p true).1] ++ (rdErs bs j (rdEr bs p true).2.1 (rdEr bs p true).2.2).1, (rdErs bs j (rdEr bs p true).2.1 (rdEr bs p true).2.2).2)) := by
          have := dUnhide HK rfl
          rw [hj, rdErs_succ] at this
          rw [Hid, this]
          simp
        generalize rdEr bs p true = R at *
        obtain ⟨y, p', ok'⟩ := R
        obtain ⟨hpp, hpl, hpk⟩ := dUnhide HS
        simp only at hpp hpl hpk HK2 C2
        have HK3 : Hid (∀ y' : Er, (ok' = true → y' = y) → (ok' = true → L = (xs ++ [y'] ++ (rdErs bs j p' true).1, (rdErs bs j p' true).2)) ∧ (ok' = false → L.2.2 = false)) := fun y' h' => by
          refine ⟨fun h => ?_, fun h => ?_⟩
          · rw [h' h, dUnhide HK2, h]
          · rw [dUnhide HK2, h, rdErs_off]
        have HO := dHide hown
        clear GO HK HK2 HZ HS CN HV HC hown
        go_wp2_with fail
        refine (dUnhide C2).mono ?_
        rintro e w3 ⟨y', rfl, hyb, hye, hc3, hd3⟩
        have HK4 := dHide (dUnhide HK3 y'.m hye)
        obtain ⟨un, nc, ns, cl, la⟩ := y'
        simp only [Sv] at hyb
        have HYB := dHide hyb
        obtain ⟨rs, s1, s2, s3, s4, s5⟩ := dUnhide HO
        have ho3 := NAp.wr (dUnhide HO) hd3 (by omega)
        clear C2 k2 HK3 hye hyb
        have hlt' : ∀ b, touch u5 = some b → w1.heap.size ≤ b := fun b e => (ApR.touched elemR s2 e).1
        have HC3 := dHide hc3
        have HD3 := dHide ((dUnhide HD).trans hd3)
        have hs3 := hd3.size
        have ba3 : Below w3.heap.size w3 (w3.alloc (.cells #[.slice un ns.length nc, .bool cl, .int .i64 la] 57)) := (Below.refl _ _).alloc (Nat.le_refl _) _
        have RO := dHide (rwR_one w3 ⟨un, nc, ⟨ns, cl, la⟩⟩ 57 1 (by omega))
        have hsA : (w3.alloc (.cells #[.slice un ns.length nc, .bool cl, .int .i64 la] 57)).heap.size = w3.heap.size + 1 := by simp
        have HA3 := dHide (ApR.below (ApR.wrR s2 hd3 (by omega)) ba3)
        have hN3 := dHide fun p hp => ((s3 p hp).wr17 hd3 (by omega)).below ba3
        have HYB3 := dHide ((dUnhide HYB).below ba3)
        have RS1 := dHide s1
        have RS2 := dHide s2
        have RS3 := dHide s3
        have RS4 := dHide s4
        have RS5 := dHide s5
        have HRL : Hid (rs.length = k) := by rw [Hid, ← hxl, ← s1, List.length_map]
        have hlt' := dHide hlt'
        clear hc3 hd3 HD ho3 HO s1 s2 s3 s4 s5 HYB
        go_wp2_with (at_builtin; refine wp_apR elemR rfl _ _ rfl w1.heap.size _ rs rfl (dUnhide HA3) _ [⟨un, nc, ⟨ns, cl, la⟩⟩] rfl (dUnhide RO) ?c1 ?c2 ?c3 ?_)
        case c1 => rw [dUnhide HRL]; simp; omega
        case c2 => rw [dUnhide HRL]; simp; omega
        case c3 => simp; omega
        intro v' w4 hown' hgrow T10
        have NP := NAp.push (p := (⟨un, nc, ⟨ns, cl, la⟩⟩ : Nst Er)) (dUnhide RS1) (dUnhide RS2) (dUnhide RS3) (dUnhide RS4) (dUnhide RS5) (dUnhide hN3) (by rw [hsA]; omega) hsz (dUnhide HYB3) hown' hgrow (by rw [hsA]; exact T10)
        have hs4 : w1.heap.size ≤ w4.heap.size := by have := hgrow.size; simp at this; omega
        have HC4 := dHide (Rc.wr (Rc.below (dUnhide HC3) ba3) hgrow (fun e => by have := (dUnhide hlt' _ e); omega) (fun e => by have := (dUnhide hlt' _ e); omega))
        have HD4 := dHide (((dUnhide HD3).trans (Wr.of_below ba3)).grown hgrow (fun k hk => by have := (dUnhide hlt' k hk); omega))
        have hown4 := NP
        clear hown' hgrow hlt' HC3 HD3 HA3 RO NP T10 RS1 RS2 RS3 RS4 RS5 hN3 HYB3
        go_wp2
        go_roundw
        case rel => exact ⟨k + 1, xs ++ [(⟨ns, cl, la⟩ : Er)], p', ok', by go_num, by simp [hxl], by omega, by omega, fun h => by have := hpk h; omega, hpl, by rw [hj2]; exact (dUnhide HK4).1, (dUnhide HK4).2, hown4, HC4, HD4, hs4⟩
        case measure => simp [intOf]; omega
    · have G := dHide (dUnhide GO (fun h => by omega))
      clear GO HK HZ HC HD CN HV
      go_wp2
      go_ret
      obtain ⟨u, xs, ga, gb⟩ := dUnhide G
      exact ⟨u, ga, xs, gb⟩
end Go.Proofs.YthndkkjgjhgdnaaGreatDoor
namespace Go.Proofs.YthndkkjgjhgdnaaGreatDoor
open Go.ChangeShapes Go.WideShapes Go.ChangeAt Go.RowKit
set_option linter.unusedVariables false
set_option linter.unusedSimpArgs false
set_option maxRecDepth 100000

set_option maxHeartbeats 4000000 in
theorem l7DrawSet_any (bk : Nat) (sv : Value) (ds : List Int) (cop : Int) (w : World) (hc : Cur w bk) (hv : Ns w sv ds) (hl : ds.length ≤ 9) (hne : ds = [] ∨ blockOf sv ≠ bk) :
    Calls Tryz.prog 60 #[.pointer (some ⟨bk, 0, none⟩), .agg #[sv, .int .i64 cop]] w fun e w' => (∃ (u : Value) (zs : List Int), e = .returned u ∧ OwnN w' w.heap.size u zs ∧ zs.length ≤ 40 ∧ (∀ z ∈ zs, -1 ≤ z ∧ z ≤ 9)) ∧ Cur w' bk ∧ Drawn bk w w' := by
  have hlt := hc.lt
  have ba : ∀ (w : World) o, Below w.heap.size w (w.alloc o) := fun w o => (Below.refl _ _).alloc (Nat.le_refl _) o
  have HV := dHide hv
  obtain ⟨-, a, cap, rfl, -, -⟩ := hv
  have b0 := ba w (.cells #[.slice a ds.length cap, .int .i64 cop] 26)
  have X0 := Bx.new w [.slice a ds.length cap, .int .i64 cop] 26
  have hc0 := hc.below b0
  have V0 := (dUnhide HV).below b0
  clear hc HV
  go_enter Tryz.func60, Tryz.ntmps60
  go_wp2_with fail
  generalize w.alloc (.cells #[.slice a ds.length cap, .int .i64 cop] 26) = w0 at *
  refine (l4DrawNodes_any bk _ ds cop w0 hc0 V0 hl).mono ?_
  rintro e w1 ⟨⟨u1, zs1, rfl, O1, hz1, A1⟩, hc1, hd1⟩
  have X1 := dHide (X0.drawn hd1 (by omega))
  have V1 := dHide (V0.drawn hd1 hne)
  have D1 := dHide ((Drawn.of_below b0).trans hd1)
  have N1 := dHide ((ownN_of_row O1).mono (base' := w.heap.size) b0.size)
  have C1 := dHide hc1
  clear X0 V0 hc0 O1 hd1 hc1 hne
  go_wp2
  go_loopw [5, 6] (fun o xi wr => ∃ (k : Nat) (zs : List Int), xi = .int .i64 (k : Int) ∧ k ≤ ds.length ∧ Hid (OwnN wr w.heap.size o zs) ∧ zs.length ≤ 20 + k ∧ Hid (∀ z ∈ zs, -1 ≤ z ∧ z ≤ 9) ∧ Hid (Below w1.heap.size w1 wr)) (fun _ xi _ => ds.length - (intOf xi).toNat)
  case atStart => exact ⟨0, zs1, rfl, Nat.zero_le _, N1, by omega, A1, Below.refl _ _⟩
  case round =>
    obtain ⟨k, zs, rfl, hk, HO, hzl, HA, HB⟩ := hrel
    have X2 := (dUnhide X1).below (dUnhide HB)
    have x0 := X2 0 _ rfl
    have x1 := X2 1 _ rfl
    by_cases hkn : (k : Int) < (ds.length : Int)
    · have CH := dHide (specHolds_any _ _ ds zs cop wr ((dUnhide V1).below (dUnhide HB)) (dUnhide HO).bs (by omega))
      go_wp2_with fail
      refine (dUnhide CH).mono ?_
      rintro e w3 ⟨hr3, b3⟩
      have HB3 := dHide (belowThen (dUnhide HB) b3)
      have HO3 := dHide ((dUnhide HO).below b3)
      clear CH HB HO X2 x0 x1
      by_cases hh : holdsP ds cop zs
      · obtain rfl := hr3.of_yes hh
        have C3 := dHide ((dUnhide C1).below (dUnhide HB3))
        have D3 := dHide ((dUnhide D1).trans (Drawn.of_below (dUnhide HB3)))
        have HA := dUnhide HA
        go_wp2
        go_ret
        first | exact ⟨⟨_, zs, rfl, dUnhide HO3, by omega, HA⟩, dUnhide C3, dUnhide D3⟩ | exact ⟨⟨_, rfl, zs, dUnhide HO3, by omega, HA⟩, dUnhide C3, dUnhide D3⟩
      · obtain rfl := hr3.of_no hh
        have PT := dHide (l4Put_any _ zs (k : Int) w3 (dUnhide HO3).bs (by omega))
        clear hr3 hh
        go_wp2_with fail
        refine (dUnhide PT).mono ?_
        rintro e w4 ⟨⟨u4, zs4, rfl, O4, hz4, P4⟩, b4⟩
        have HB4 := dHide (belowThen (dUnhide HB3) b4)
        have hs3 := (dUnhide HB3).size
        have O4' := dHide ((ownN_of_row O4).mono (base' := w.heap.size) (by have := (dUnhide D1).size; omega))
        have HA4 : Hid (∀ z ∈ zs4, -1 ≤ z ∧ z ≤ 9) := fun z h => by
          rcases P4 z h with h1 | h1
          · rw [h1]; omega
          · exact dUnhide HA z h1
        clear PT HB3 HO3 O4 P4 b4 HA
        go_wp2
        go_roundw
        case rel => exact ⟨k + 1, zs4, by go_num, by omega, O4', by omega, HA4, HB4⟩
        case measure => simp [intOf]; omega
    · have C3 := dHide ((dUnhide C1).below (dUnhide HB))
      have D3 := dHide ((dUnhide D1).trans (Drawn.of_below (dUnhide HB)))
      have HA := dUnhide HA
      go_wp2
      go_ret
      first | exact ⟨⟨_, zs, rfl, dUnhide HO, by omega, HA⟩, dUnhide C3, dUnhide D3⟩ | exact ⟨⟨_, rfl, zs, dUnhide HO, by omega, HA⟩, dUnhide C3, dUnhide D3⟩
end Go.Proofs.YthndkkjgjhgdnaaGreatDoor
namespace Go.Proofs.YthndkkjgjhgdnaaGreatDoor
open Go.ChangeShapes Go.WideShapes Go.ChangeAt Go.RowKit
set_option linter.unusedVariables false
set_option linter.unusedSimpArgs false
set_option maxRecDepth 100000

/-- An era that was drawn. -/
def fitD1 (e : Er) : Prop := e.nodes.length ≤ 40 ∧ (∀ z ∈ e.nodes, -1 ≤ z ∧ z ≤ 9) ∧ -9223372036854775808 ≤ e.last ∧ e.last ≤ 9223372036854775807
/-- A register that was drawn. -/
def fitD (n : Nat) (m : Rg) : Prop := m.eras.length ≤ n ∧ (∀ e ∈ m.eras, fitD1 e) ∧ -9223372036854775808 ≤ m.trim ∧ m.trim ≤ 9223372036854775807
theorem fitD.ok {n : Nat} {m : Rg} (h : fitD n m) : okRegister m := ⟨fun e he => by
  obtain ⟨-, h2, h3⟩ := h.2.1 e he
  exact ⟨fun z hz => by have := h2 z hz; omega, h3⟩, h.2.2⟩
theorem sumN_fit {ms : List Er} (h : ∀ e ∈ ms, fitD1 e) : sumN ms ≤ 40 * ms.length := by
  induction ms with
  | nil => simp [sumN]
  | cons e ms ih =>
    have h1 := (h e (List.mem_cons_self ..)).1
    have h2 := ih fun y hy => h y (List.mem_cons_of_mem _ hy)
    have : sumN (e :: ms) = e.nodes.length + sumN ms := by simp [sumN]
    rw [this, List.length_cons]
    omega
theorem fitD.siz {n : Nat} {m : Rg} (h : fitD n m) (hn : n ≤ 100) : sizRegister m ≤ 1048576 := by
  have h1 := sumN_fit h.2.1
  have h2 := h.1
  unfold sizRegister sizEraS
  omega
theorem fitD.more {n n' : Nat} {m : Rg} (h : fitD n m) (hn : n ≤ n') : fitD n' m := ⟨Nat.le_trans h.1 hn, h.2⟩
theorem fitD_zero (n : Nat) : fitD n zeroRg := ⟨Nat.zero_le _, (fun e he => by cases he), by decide, by decide⟩
theorem fitD.opened {n : Nat} {m : Rg} {ds xs : List Int} {cop : Int} (h : fitD n m) (hx : xs.length ≤ 40) (hz : ∀ z ∈ xs, -1 ≤ z ∧ z ≤ 9) : fitD (n + 1) (openM ds cop m xs).1 := by
  by_cases hp : regP ds cop m
  · by_cases ho : openP ds cop m xs
    · rw [openM_yes hp ho]
      refine ⟨by simp only [List.length_append, List.length_singleton]; have := h.1; omega, fun e he => ?_, h.2.2⟩
      rcases List.mem_append.1 he with he | he
      · exact h.2.1 e he
      · obtain rfl : e = ⟨xs, false, 0⟩ := by simpa using he
        exact ⟨hx, hz, by simp only; omega, by simp only; omega⟩
    · rw [openM_no hp ho]; exact h.more (by omega)
  · rw [openM_bad hp]; exact fitD_zero _
theorem fitD.closed {n : Nat} {m : Rg} {ds : List Int} {cop x y : Int} (h : fitD n m) (hy : okInt y) : fitD n (closeM ds cop m x y).1 := by
  by_cases hp : regP ds cop m
  · by_cases ho : closeP m x y
    · rw [closeM_yes hp ho]
      refine ⟨by simp only [closeE, List.length_set]; exact h.1, fun e he => ?_, h.2.2⟩
      simp only [closeE] at he
      rcases List.mem_or_eq_of_mem_set he with he | he
      · exact h.2.1 e he
      · rw [he]
        refine ⟨?_, ?_, hy⟩
        · simp only
          by_cases hk : firstO m.eras - 1 < m.eras.length
          · rw [getD_lt _ hk]; exact (h.2.1 _ (List.getElem_mem hk)).1
          · rw [List.getD_eq_getElem?_getD, List.getElem?_eq_none (by omega)]; simp
        · simp only
          by_cases hk : firstO m.eras - 1 < m.eras.length
          · rw [getD_lt _ hk]; exact (h.2.1 _ (List.getElem_mem hk)).2.1
          · rw [List.getD_eq_getElem?_getD, List.getElem?_eq_none (by omega)]; intro z hz; cases hz
    · rw [closeM_no hp ho]; exact h
  · rw [closeM_bad hp]; exact fitD_zero _
theorem fitD.trimmed {n : Nat} {m : Rg} {ds : List Int} {cop x : Int} (h : fitD n m) (hx : okInt x) : fitD n (trimR ds cop m x).1 := by
  by_cases hp : regP ds cop m
  · by_cases ho : plIn m.eras.length x
    · rw [trimR_yes hp ho]
      refine ⟨h.1, h.2.1, ?_⟩
      have h1 := h.2.2
      obtain ⟨h2, h3⟩ := hx
      simp only
      omega
    · rw [trimR_no hp ho]; exact h
  · rw [trimR_bad hp]; exact fitD_zero _
theorem OwK.drawn {bk lo hi : Nat} {v : Value} {ms : List Er} {W W' : World} (h : OwEraS lo hi v ms W) (hf : hi ≤ W.heap.size) (hd : Drawn bk W W') (hb : bk < lo) : OwEraS lo hi v ms W' :=
  (OwK.sits h hf).all W' fun k h1 h2 => hd.block k (by omega) (by omega)
theorem OwK.belowE {lo hi : Nat} {v : Value} {ms : List Er} {W W' : World} (h : OwEraS lo hi v ms W) (hf : hi ≤ W.heap.size) (hb : Below W.heap.size W W') : OwEraS lo hi v ms W' :=
  (OwK.sits h hf).all W' fun k h1 h2 => hb.block k (by omega)
theorem OwK.setE {lo hi b o : Nat} {v : Value} {ms : List Er} {W : World} (h : OwEraS lo hi v ms W) (hf : hi ≤ W.heap.size) (hb : b < lo ∨ hi ≤ b) (u : Value) : OwEraS lo hi v ms (W.setCell ⟨b, o, none⟩ u) :=
  ((OwK.sits h hf).setFar hb u).now
/-- A register that a box at b holds, its row in the blocks lo .. hi - 1, apart from the box. -/
structure DB (W : World) (b lo hi : Nat) (m : Rg) (a : Option Addr) (c : Nat) : Prop where
  box : BxZ W 0 b [.slice a m.eras.length c, .int .i64 m.trim]
  own : OwEraS lo hi (.slice a m.eras.length c) m.eras W
  full : Full W lo (.slice a m.eras.length c)
  fit : hi ≤ W.heap.size
  apart : b < lo ∨ hi ≤ b
variable {W W' : World} {b lo hi bk : Nat} {m : Rg} {a : Option Addr} {c : Nat}
theorem DB.below (h : DB W b lo hi m a c) (hb : Below W.heap.size W W') : DB W' b lo hi m a c :=
  ⟨h.box.below hb, OwK.belowE h.own h.fit hb, h.full.below hb, by have := h.fit; have := hb.size; omega, h.apart⟩
theorem DB.drawn (h : DB W b lo hi m a c) (hd : Drawn bk W W') (h1 : bk < lo) (h2 : b ≠ bk) : DB W' b lo hi m a c :=
  ⟨h.box.drawn hd h2, OwK.drawn h.own h.fit hd h1, h.full.drawn hd h1, by have := h.fit; have := hd.size; omega, h.apart⟩
theorem DB.set (h : DB W b lo hi m a c) {b' o : Nat} (h1 : b ≠ b') (h2 : b' < lo ∨ hi ≤ b') (u : Value) : DB (W.setCell ⟨b', o, none⟩ u) b lo hi m a c :=
  ⟨h.box.far h1 u, OwK.setE h.own h.fit h2 u, h.full.set _ _ _, by rw [World.size_setCell]; exact h.fit, h.apart⟩
theorem DB.rd (h : DB W b lo hi m a c) : RdRegister (.agg #[.slice a m.eras.length c, .int .i64 m.trim]) m W := ⟨_, rfl, h.own.rd⟩
theorem DB.lt (h : DB W b lo hi m a c) : b < W.heap.size := dCell_lt (h.box.2 0 _ rfl).1
theorem DB.weak {hi' : Nat} (h : DB W b lo hi m a c) (h1 : hi ≤ hi') (h2 : hi' ≤ W.heap.size) (hb : b < lo) : DB W b lo hi' m a c := ⟨h.box, OwK.wide h.own (Nat.le_refl _) h1, h.full, h2, .inl hb⟩
theorem OwRegister.shape {v : Value} (h : OwRegister lo hi v m W) : ∃ a c, v = .agg #[.slice a m.eras.length c, .int .i64 m.trim] ∧ OwEraS lo hi (.slice a m.eras.length c) m.eras W := by
  obtain ⟨sv, rfl, h⟩ := h
  have h' := h
  obtain ⟨rs, h1, h2, -⟩ := h'
  obtain ⟨-, a, c, e, -⟩ := h2.rw
  have : rs.length = m.eras.length := by rw [← h1, List.length_map]
  rw [this] at e
  subst e
  exact ⟨a, c, rfl, h⟩
theorem FullR.row {base : Nat} {v t : Value} (h : FullR W base (.agg #[v, t])) : Full W base v := by
  obtain ⟨sv, t', e, h⟩ := h
  cases e
  exact h
/-- A box that is made for it behind it. -/
theorem DB.made (h : OwEraS lo hi (.slice a m.eras.length c) m.eras W) (hF : Full W lo (.slice a m.eras.length c)) (hf : hi ≤ W.heap.size) : DB (W.alloc (.cells #[.slice a m.eras.length c, .int .i64 m.trim] 29)) W.heap.size lo hi m a c :=
  have hb : Below W.heap.size W (W.alloc (.cells #[.slice a m.eras.length c, .int .i64 m.trim] 29)) := (Below.refl _ _).alloc (Nat.le_refl _) _
  ⟨(BxZ.new (B := 0) W [.slice a m.eras.length c, .int .i64 m.trim] 29 (Nat.zero_le _)), OwK.belowE h hf hb, hF.below hb, by have := hb.size; omega, .inr hf⟩
/-- A box that takes it. -/
theorem DB.put {x y : Value} {B : Nat} (h : OwEraS lo hi (.slice a m.eras.length c) m.eras W) (hF : Full W lo (.slice a m.eras.length c)) (hf : hi ≤ W.heap.size) (X : BxZ W B b [x, y]) (hb : b < lo ∨ hi ≤ b) :
    DB ((W.setCell ⟨b, 0, none⟩ (.slice a m.eras.length c)).setCell ⟨b, 1, none⟩ (.int .i64 m.trim)) b lo hi m a c := by
  have hf1 : hi ≤ (W.setCell ⟨b, 0, none⟩ (.slice a m.eras.length c)).heap.size := by rw [World.size_setCell]; exact hf
  refine ⟨⟨Nat.zero_le _, ((X.put 0 (.slice a m.eras.length c)).put 1 (.int .i64 m.trim)).2⟩, OwK.setE (OwK.setE h hf hb _) hf1 hb _, (hF.set _ _ _).set _ _ _, by rw [World.size_setCell]; exact hf1, hb⟩
theorem Ns.setFar7 {v : Value} {xs : List Int} (h : Ns W v xs) {b' o : Nat} (hb : xs = [] ∨ blockOf v ≠ b') (u : Value) : Ns (W.setCell ⟨b', o, none⟩ u) v xs := by
  obtain ⟨h0, a, cap, rfl, hcap, h⟩ := h
  refine ⟨h0, a, cap, rfl, hcap, ?_⟩
  rcases hb with h' | hb
  · exact .inl h'
  · rcases h with h | ⟨b, off, rfl, hc⟩
    · exact .inl h
    · exact .inr ⟨b, off, rfl, fun i hi => set_other (hc i hi) (.inl hb)⟩
/-- What a loop of draws holds: the cursor, the configuration's box, the answer's box, and the register's, with its row in new memory below B. -/
structure D7 (w : World) (bk : Nat) (ca : Option Addr) (cc : Nat) (ds : List Int) (cop : Int) (W : World) (B n : Nat) (m : Rg) (a : Option Addr) (c : Nat) : Prop where
  cur : Cur W bk
  drawn : Drawn bk w W
  cfg : Bx W w.heap.size [.slice ca ds.length cc, .int .i64 cop]
  ns : Ns W (.slice ca ds.length cc) ds
  res : BxZ W w.heap.size (w.heap.size + 1) [.slice none 0 0, .int .i64 0]
  reg : DB W (w.heap.size + 1 + 1) (w.heap.size + 3) B m a c
  fit : fitD n m
variable {w : World} {ca : Option Addr} {cc : Nat} {ds : List Int} {cop : Int} {B n bo : Nat}
theorem D7.move (h : D7 w bk ca cc ds cop W B n m a c) (hk : bk < w.heap.size) (hne : ds = [] ∨ blockOf (.slice ca ds.length cc) ≠ bk) (hc : Cur W' bk) (hd : Drawn bk W W') : D7 w bk ca cc ds cop W' B n m a c :=
  ⟨hc, h.drawn.trans hd, h.cfg.drawn hd (by omega), h.ns.drawn hd hne, h.res.drawn hd (by omega), h.reg.drawn hd (by omega) (by omega), h.fit⟩
theorem D7.below (h : D7 w bk ca cc ds cop W B n m a c) (hb : Below W.heap.size W W') : D7 w bk ca cc ds cop W' B n m a c :=
  ⟨h.cur.below hb, h.drawn.trans (Drawn.of_below hb), h.cfg.below hb, h.ns.below hb, h.res.below hb, h.reg.below hb, h.fit⟩
theorem D7.set (h : D7 w bk ca cc ds cop W B n m a c) (hk : bk < w.heap.size) (hw : ds = [] ∨ blockOf (.slice ca ds.length cc) < w.heap.size) (h1 : B ≤ bo) (h2 : w.heap.size + 3 ≤ bo) (o : Nat) (u : Value) : D7 w bk ca cc ds cop (W.setCell ⟨bo, o, none⟩ u) B n m a c :=
  ⟨h.cur.setNew4 (by omega) _ _, h.drawn.setNew (by omega) _ _, h.cfg.farB (by omega) _, Ns.setFar7 h.ns (by rcases hw with h | h; exact .inl h; exact .inr (by omega)) _, h.res.far (by omega) _, h.reg.set (by omega) (.inr h1) _, h.fit⟩
theorem D7.cells (h : D7 w bk ca cc ds cop W B n m a c) : W.cell? ⟨w.heap.size, 0, none⟩ = some (.slice ca ds.length cc) ∧ W.cell? ⟨w.heap.size, 1, none⟩ = some (.int .i64 cop) ∧ W.cell? ⟨w.heap.size + 1 + 1, 0, none⟩ = some (.slice a m.eras.length c) ∧ W.cell? ⟨w.heap.size + 1 + 1, 1, none⟩ = some (.int .i64 m.trim) :=
  ⟨h.cfg 0 _ rfl, h.cfg 1 _ rfl, (h.reg.box.2 0 _ rfl).1, (h.reg.box.2 1 _ rfl).1⟩
theorem D7.weak {B' n' : Nat} (h : D7 w bk ca cc ds cop W B n m a c) (h1 : B ≤ B') (h2 : B' ≤ W.heap.size) (hn : n ≤ n') : D7 w bk ca cc ds cop W B' n' m a c :=
  ⟨h.cur, h.drawn, h.cfg, h.ns, h.res, h.reg.weak h1 h2 (by omega), h.fit.more hn⟩
end Go.Proofs.YthndkkjgjhgdnaaGreatDoor
namespace Go.Proofs.YthndkkjgjhgdnaaGreatDoor
open Go.ChangeShapes Go.WideShapes Go.ChangeAt Go.RowKit
set_option linter.unusedVariables false

end Go.Proofs.YthndkkjgjhgdnaaGreatDoor
