/- Several texts in one: PrK, PrL, PrM, WrH, WrL. -/
import Derived.Test.YthndkkjgjhgdnaaGreatDoorGk72
import Derived.Test.YthndkkjgjhgdnaaGreatDoorGk49
import Derived.Test.YthndkkjgjhgdnaaGreatDoorGaG
import Derived.Test.YthndkkjgjhgdnaaGreatDoorGk77
import Derived.Test.YthndkkjgjhgdnaaGreatDoorWrC
import Derived.Test.YthndkkjgjhgdnaaGreatDoorWrI
namespace Go.Proofs.YthndkkjgjhgdnaaGreatDoor
open Go.ChangeShapes Go.WideShapes Go.ChangeAt Go.RowKit
set_option linter.unusedVariables false
set_option linter.unusedSimpArgs false
set_option maxRecDepth 100000

theorem BxZ.wrZ {W W' : World} {B b ab : Nat} {vs : List Value} (h : BxZ W B b vs) (hw : Wr ab (ab + 2) W W') (hb : ab + 2 ≤ b) : BxZ W' B b vs :=
  ⟨h.1, fun i u hu => ⟨(World.cell?_of_block (a := ⟨b, i, none⟩) (hw.block _ (dCell_lt (h.2 i u hu).1) (.inr hb))).trans (h.2 i u hu).1, (World.frozen?_of_block (a := ⟨b, i, none⟩) (hw.block _ (dCell_lt (h.2 i u hu).1) (.inr hb))).trans (h.2 i u hu).2⟩⟩
theorem OwnN.wr17 {lo hi base : Nat} {w w' : World} {v : Value} {xs : List Int} (h : OwnN w base v xs) (hd : Wr lo hi w w') (hb : hi ≤ base) : OwnN w' base v xs := OwnN.farO base v xs w w' h hd.size (fun k h1 h2 => hd.block k h2 (.inr (by omega)))
set_option maxHeartbeats 8000000 in
theorem listOfI2_any (ab : Nat) (v : Value) (bs : List UInt8) (q : Nat) (ok : Bool) (w : World) (hc : Rc w ab v q ok) (HV : ∀ W, Wr ab (ab + 2) w W → Bs W v bs) (hl : bs.length ≤ 1048576) (hq : q ≤ bs.length) (hne : bs = [] ∨ blockOf v ≠ ab) :
    Calls Tryz.prog 124 #[.pointer (some ⟨ab + 1, 0, none⟩), .func (.func 92) #[.pointer (some ⟨ab + 1, 0, none⟩)] #[]] w fun e w' => ∃ u xs, e = .returned u ∧ OwnN w' w.heap.size u xs ∧ (xs.length ≤ bs.length ∧ allInt xs) ∧ ((rdL bs q ok).2.2 = true → xs = (rdL bs q ok).1) ∧ Rc w' ab v (rdL bs q ok).2.1 (rdL bs q ok).2.2 ∧ Wr ab (ab + 2) w w' := by
  have hab := hc.lt
  have HV := dHide HV
  have CN := dHide fun q ok W (hd : Wr ab (ab + 2) w W) (hc : Rc W ab v q ok) => number_any ab v bs q ok W hc (dUnhide HV W hd) hne
  have C1 := dHide (dUnhide CN q ok w (Wr.refl _ _ _) hc)
  have HS : Hid ((rdN bs q ok).2.1 ≤ bs.length ∧ (∀ x : Int, ((rdN bs q ok).2.2 = true → x = (rdN bs q ok).1) → (rdN bs q ok).2.2 = true → rdL bs q ok = rdK bs x.toNat (rdN bs q ok).2.1 true) ∧ ((rdN bs q ok).2.2 = false → (rdL bs q ok).2.2 = false) ∧ ((rdN bs q ok).2.2 = true → 1 ≤ (rdN bs q ok).2.1)) := by
    refine ⟨rdN_le bs q ok hq, fun x hx h => ?_, fun h => ?_, fun h => by have := (rdN_go ok hq).2.2 h; omega⟩
    · rw [hx h]; unfold rdL; rw [h]
    · unfold rdL; rw [h, rdK_off]
  generalize rdN bs q ok = R at *
  generalize rdL bs q ok = L at *
  obtain ⟨nI, q1, ok1⟩ := R
  obtain ⟨hq1, hL1, hL0, hq2⟩ := dUnhide HS
  simp only at hq1 hL1 hL0 hq2 C1
  have HL1 := dHide hL1
  have HL0 := dHide hL0
  clear hc HS hq hL1 hL0
  go_enter Tryz.func124, Tryz.ntmps124
  go_wp2_with fail
  refine (dUnhide C1).mono ?_
  rintro e w1 ⟨x, rfl, ⟨hx0, hx1⟩, hx, hc1, hd1⟩
  obtain ⟨n, rfl⟩ := Int.eq_ofNat_of_zero_le hx0
  have E1 : Hid (ok1 = true → L = rdK bs n q1 true) := fun h => dUnhide HL1 (n : Int) hx h
  have E0 := HL0
  have hs1 := hd1.size
  have HC1 := dHide hc1
  have HD1 := dHide hd1
  clear HL1 HL0 hx hc1 hd1 C1
  go_wp2
  go_loopw [5, 6] (fun ov xv wr => ∃ (k : Nat) (xs : List Int) (p : Nat) (okb : Bool), xv = .int .i64 ((n : Int) - (k : Int)) ∧ xs.length = k ∧ k ≤ n ∧ k ≤ bs.length ∧ (okb = true → k + 1 ≤ p) ∧ p ≤ bs.length ∧ Hid (okb = true → L = (xs ++ (rdK bs (n - k) p true).1, (rdK bs (n - k) p true).2)) ∧ Hid (okb = false → L.2.2 = false) ∧ wr.ownsRow w1.heap.size 3 1 ov xs.length (ncells xs) ∧ Hid (Rc wr ab v p okb) ∧ Hid (Wr ab (ab + 2) w wr) ∧ w1.heap.size ≤ wr.heap.size ∧ Hid (∀ x ∈ xs, 0 ≤ x ∧ x ≤ 9223372036854775807)) (fun _ xv _ => (intOf xv).toNat)
  case atStart => exact ⟨0, [], q1, ok1, by simp, rfl, Nat.zero_le _, Nat.zero_le _, hq2, hq1, by simpa [Hid] using dUnhide E1, E0, by simpa [ncells] using World.ownsRow_nil w1 w1.heap.size 3 1, HC1, HD1, Nat.le_refl _, fun x hx => by cases hx⟩
  case round =>
    clear HC1 HD1 E1 E0
    obtain ⟨k, xs, p, okb, rfl, hxl, hkn, hkb, hkp, hp, HK, HZ, hown, HC, HD, hsz, HAL⟩ := hrel
    obtain ⟨p2, k2⟩ := (dUnhide HC).cell2
    have GO : Hid ((okb = true → k = n) → (∃ u xs, Ending.returned u5 = .returned u ∧ OwnN wr w.heap.size u xs ∧ (xs.length ≤ bs.length ∧ allInt xs) ∧ (L.2.2 = true → xs = L.1) ∧ Rc wr ab v L.2.1 L.2.2 ∧ Wr ab (ab + 2) w wr)) := by
      intro e
      cases okb with
      | true =>
        have e2 : L = (xs, p, true) := by
          have := dUnhide HK rfl
          rw [e rfl, Nat.sub_self, rdK_zero] at this
          simpa using this
        rw [e2]
        exact ⟨_, xs, rfl, (ownN_of_row hown).mono hs1, ⟨by omega, fun x hx => by have := dUnhide HAL x hx; omega⟩, fun _ => rfl, dUnhide HC, dUnhide HD⟩
      | false =>
        have e2 := dUnhide HZ rfl
        obtain ⟨L1, L2, L3⟩ := L
        simp only at e2
        subst e2
        obtain ⟨pp, yy, hr⟩ := (dUnhide HC).isNo
        exact ⟨_, xs, rfl, (ownN_of_row hown).mono hs1, ⟨by omega, fun x hx => by have := dUnhide HAL x hx; omega⟩, fun h => (by cases h), Rc.no hr, dUnhide HD⟩
    by_cases hlt : (0 : Int) < (n : Int) - (k : Int)
    · cases okb
      · have G := dHide (dUnhide GO (fun h => (by cases h)))
        simp only [Bool.false_eq_true, if_false] at k2
        unfold wrg at k2
        clear GO HK HZ HC HD CN HV
        go_wp2
        go_ret
        exact dUnhide G
      · simp only [if_true] at k2
        have hkp2 : k + 1 ≤ p := hkp rfl
        have C2 := dHide (dUnhide CN p true wr (dUnhide HD) (dUnhide HC))
        have HS : Hid ((0 ≤ (rdN bs p true).1 ∧ (rdN bs p true).1 ≤ 9223372036854775807) ∧ p ≤ (rdN bs p true).2.1 ∧ (rdN bs p true).2.1 ≤ bs.length ∧ ((rdN bs p true).2.2 = true → p + 1 ≤ (rdN bs p true).2.1)) := rdN_step hp
        obtain ⟨j, hj⟩ : ∃ j, n - k = j + 1 := ⟨n - k - 1, by omega⟩
        have hj2 : n - (k + 1) = j := by omega
        have HK2 : Hid (L = (xs ++ [(rdN bs p true).1] ++ (rdK bs j (rdN bs p true).2.1 (rdN bs p true).2.2).1, (rdK bs j (rdN bs p true).2.1 (rdN bs p true).2.2).2)) := by
          have := dUnhide HK rfl
          rw [hj, rdK_succ] at this
          rw [Hid, this]
          simp
        generalize rdN bs p true = R at *
        obtain ⟨y, p', ok'⟩ := R
        obtain ⟨hy, hpp, hpl, hpk⟩ := dUnhide HS
        simp only at hy hpp hpl hpk HK2 C2
        have HK3 : Hid (∀ y' : Int, (ok' = true → y' = y) → (ok' = true → L = (xs ++ [y'] ++ (rdK bs j p' true).1, (rdK bs j p' true).2)) ∧ (ok' = false → L.2.2 = false)) := fun y' h' => by
          refine ⟨fun h => ?_, fun h => ?_⟩
          · rw [h' h, dUnhide HK2, h]
          · rw [dUnhide HK2, h, rdK_off]
        have HO := dHide hown
        clear GO HK HK2 HZ HS CN HV HC hown
        go_wp2_with fail
        refine (dUnhide C2).mono ?_
        rintro e w3 ⟨y', rfl, hyb, hye, hc3, hd3⟩
        have HK4 := dHide (dUnhide HK3 y' hye)
        have HYB := dHide hyb
        have ho3 := own_wr17 (dUnhide HO) hd3 (by omega)
        clear C2 HO k2 HK3 hye
        have hlt' := ho3.lt
        have HC3 := dHide hc3
        have HD3 := dHide ((dUnhide HD).trans hd3)
        have hs3 := hd3.size
        have ba3 : ∀ o, Below w3.heap.size w3 (w3.alloc o) := fun o => (Below.refl _ _).alloc (Nat.le_refl _) o
        clear hc3 hd3 HD
        go_wp2_with (at_builtin; refine appN _ rfl _ _ rfl w1.heap.size _ xs rfl (ho3.alloc _) ⟨w3.heap.size, 0, none⟩ 1 1 [y'] rfl rfl (one_int _ _ _) ?c3 ?c4 ?_)
        case c3 => simp; omega
        case c4 => simp; omega
        intro v' w4 hown' hgrow
        have hs4 : w1.heap.size ≤ w4.heap.size := by have := hgrow.size; simp at this; omega
        have HC4 := dHide (Rc.wr (Rc.below (dUnhide HC3) (ba3 (.cells #[.int .i64 y'] 3))) hgrow (fun e => by have := (hlt' _ e).1; omega) (fun e => by have := (hlt' _ e).1; omega))
        have HD4 := dHide (((dUnhide HD3).trans (Wr.of_below (ba3 (.cells #[.int .i64 y'] 3)))).grown hgrow (fun k hk => by have := (hlt' k hk).1; omega))
        have hown4 := own_lenN hown'
        clear ho3 hown' hgrow hlt' HC3 HD3
        go_wp2
        go_roundw
        case rel => exact ⟨k + 1, xs ++ [y'], p', ok', by go_num, by simp [hxl], by omega, by omega, fun h => by have := hpk h; omega, hpl, by rw [hj2]; exact (dUnhide HK4).1, (dUnhide HK4).2, hown4, HC4, HD4, hs4, fun x hx => by
          rcases List.mem_append.1 hx with hx | hx
          · exact dUnhide HAL x hx
          · obtain rfl : x = y' := by simpa using hx
            exact dUnhide HYB⟩
        case measure => simp [intOf]; omega
    · have G := dHide (dUnhide GO (fun h => by omega))
      clear GO HK HZ HC HD CN HV
      go_wp2
      go_ret
      obtain ⟨u, xs, ga, gb⟩ := dUnhide G
      exact ⟨u, ga, xs, gb⟩
end Go.Proofs.YthndkkjgjhgdnaaGreatDoor
namespace Go.Proofs.YthndkkjgjhgdnaaGreatDoor
open Go.ChangeShapes Go.WideShapes Go.ChangeAt Go.RowKit
set_option linter.unusedVariables false
set_option linter.unusedSimpArgs false
set_option maxRecDepth 100000

theorem Rc.newX {W W' : World} {ab q b B : Nat} {v : Value} {ok : Bool} (h : Rc W ab v q ok) (hb : ab + 2 ≤ b) (g : ∀ k, k ≠ b → W'.heap[k]? = W.heap[k]?) (hs : W'.heap.size = W.heap.size) (hB : Below B W W') : Rc W' ab v q ok :=
  h.wr (row := some b) ⟨hB.os, hB.tape, hB.output, by rw [hs]; exact Nat.le_refl _, fun k hk hn => g k (by rintro rfl; exact hn rfl)⟩ (by intro e; simp only [Option.some.injEq] at e; omega) (by intro e; simp only [Option.some.injEq] at e; omega)
set_option maxHeartbeats 4000000 in
theorem word_any (ab : Nat) (v : Value) (bs : List UInt8) (q : Nat) (ok : Bool) (w : World) (ds : List Int) (cop : Int) (ca : Option Addr) (cc : Nat) (hc : Rc w ab v q ok) (HV : ∀ W, Wr ab (ab + 2) w W → Bs W v bs) (HN : ∀ W, Wr ab (ab + 2) w W → Ns W (.slice ca ds.length cc) ds) (had : allInt ds) (hld : ds.length ≤ 1048576) (c0 : -9223372036854775808 ≤ cop) (c1 : cop ≤ 9223372036854775807) (hl : bs.length ≤ 1048576) (hq : q ≤ bs.length) (hne : bs = [] ∨ blockOf v ≠ ab) :
    Calls Tryz.prog 110 #[.pointer (some ⟨ab + 1, 0, none⟩), .agg #[.slice ca ds.length cc, .int .i64 cop]] w fun e w' => ∃ m : Nst Wd, e = .returned (.agg #[.string m.m.data, .slice m.a m.m.acks.length m.c, .bool m.m.done]) ∧ OwnN w' w.heap.size (Sv Wd.acks m) m.m.acks ∧ ((rdWd ds cop bs q ok).2.2 = true → m.m = (rdWd ds cop bs q ok).1) ∧ Rc w' ab v (rdWd ds cop bs q ok).2.1 (rdWd ds cop bs q ok).2.2 ∧ Wr ab (ab + 2) w w' := by
  have hab := hc.lt
  have ba : ∀ (w : World) o, Below w.heap.size w (w.alloc o) := fun w o => (Below.refl _ _).alloc (Nat.le_refl _) o
  have i1 : (w.alloc (.cells #[.slice ca ds.length cc, .int .i64 cop] 26)).heap.size = w.heap.size + 1 := by simp
  have B0 := belowThen (ba w (.cells #[.slice ca ds.length cc, .int .i64 cop] 26)) (ba _ (.cells #[.string ⟨#[]⟩, .slice none 0 0, .bool false] 82))
  have G0 := (BxZ.new (B := w.heap.size) w [.slice ca ds.length cc, .int .i64 cop] 26 (Nat.le_refl _)).below (ba _ (.cells #[.string ⟨#[]⟩, .slice none 0 0, .bool false] 82))
  have Z0 := BxZ.new (B := w.heap.size) (w.alloc (.cells #[.slice ca ds.length cc, .int .i64 cop] 26)) [.string ⟨#[]⟩, .slice none 0 0, .bool false] 82 (by omega)
  rw [i1] at Z0
  have HV := dHide HV
  have HN := dHide HN
  have CT := dHide fun W (hd : Wr ab (ab + 2) w W) (hc : Rc W ab v q ok) => data_any ab v bs q ok W hc (dUnhide HV W hd) (by omega) hne
  have CL := dHide fun W (hd : Wr ab (ab + 2) w W) (hc : Rc W ab v (rdT bs q ok).2.1 (rdT bs q ok).2.2) => listOfI2_any ab v bs _ _ W hc (fun W' hW' => dUnhide HV W' (hd.trans hW')) hl (rdT_go (bs := bs) ok hq).2.1 hne
  have CH := dHide fun W u xs (h1 : Ns W (.slice ca ds.length cc) ds) (h2 : Ns W u xs) (h3 : allInt xs) (h4 : xs.length ≤ 1048576) => implHolds_any _ u ds xs cop W h1 h2 had h3 hld h4 c0 c1
  have W0 := Wr.of_below (lo := ab) (hi := ab + 2) B0
  have hs0 : ((w.alloc (.cells #[.slice ca ds.length cc, .int .i64 cop] 26)).alloc (.cells #[.string ⟨#[]⟩, .slice none 0 0, .bool false] 82)).heap.size = w.heap.size + 2 := by simp
  have V0 := Wr.refl ab (ab + 2) ((w.alloc (.cells #[.slice ca ds.length cc, .int .i64 cop] 26)).alloc (.cells #[.string ⟨#[]⟩, .slice none 0 0, .bool false] 82))
  have K1 : Hid ((rdL bs (rdT bs q ok).2.1 (rdT bs q ok).2.2).2.2 = true → (rdT bs q ok).2.2 = true) := rdL_was
  obtain ⟨BB, hB1, hB2, EE⟩ := rdWd_eq ds cop bs q ok
  replace EE := dHide EE
  generalize rdWd ds cop bs q ok = RE at *
  generalize (rdL bs (rdT bs q ok).2.1 (rdT bs q ok).2.2) = N2 at *
  generalize (rdT bs q ok) = N1 at *
  have eE := dUnhide EE
  subst eE
  obtain ⟨td, p1, o1⟩ := N1
  obtain ⟨ns, p2, o2⟩ := N2
  simp only at CT CL K1 hB1 hB2 ⊢
  have HB : Hid (∀ b : Bool, RetB (holdsP ds cop ns) (.returned (.bool b)) → b = BB) := fun b h => by
    by_cases hh : holdsP ds cop ns
    · rw [hB1 hh]
      have := h.of_yes hh
      simpa using this
    · rw [hB2 hh]
      have := h.of_no hh
      simpa using this
  have hc0 := hc.below B0
  clear EE hc i1 hB1 hB2
  go_enter Tryz.func110, Tryz.ntmps110
  go_upto_region 1 with fail
  generalize (w.alloc (.cells #[.slice ca ds.length cc, .int .i64 cop] 26)).alloc (.cells #[.string ⟨#[]⟩, .slice none 0 0, .bool false] 82) = w0 at *
  have D1 := dHide (dUnhide CT w0 W0 hc0)
  clear CT hc0
  go_wp2_with fail
  refine (dUnhide D1).mono ?_
  rintro e w1 ⟨x, rfl, hxb, hx, hc1, hw1⟩
  have W1 := W0.trans hw1
  have V1 := V0.trans hw1
  have hs1 := hw1.size
  have D2 := dHide (dUnhide CL w1 W1 hc1)
  have HX := dHide hx
  clear D1 CL hc1 hw1 hx
  go_wp2_with fail
  refine (dUnhide D2).mono ?_
  rintro e w2 ⟨u, xs, rfl, O2, ⟨hxl, hxa⟩, hx1, hc2, hw2⟩
  have W2 := W1.trans hw2
  have V2 := V1.trans hw2
  have hs2 := hw2.size
  obtain ⟨-, ua, uc, rfl, -⟩ := O2.bs
  have HNB := dHide O2.ne17
  have b3 := ba w2 (.cells #[.string x, .slice ua xs.length uc, .bool false] 82)
  have Y3 := BxZ.new (B := w.heap.size) w2 [.string x, .slice ua xs.length uc, .bool false] 82 (by have := W2.size; omega)
  have G3 := (G0.wrZ V2 hab).below b3
  have Z3 := (Z0.wrZ V2 (by omega)).below b3
  have W3 := W2.trans (Wr.of_below (lo := ab) (hi := ab + 2) b3)
  have O3 := O2.below b3
  have hc3 := hc2.below b3
  have hs3 : (w2.alloc (.cells #[.string x, .slice ua xs.length uc, .bool false] 82)).heap.size = w2.heap.size + 1 := by simp
  have D3 := dHide (dUnhide CH _ (.slice ua xs.length uc) xs (dUnhide HN _ W3) O3.bs hxa (by omega))
  have g0 := (G3.2 0 _ rfl).1
  have g1 := (G3.2 1 _ rfl).1
  have y1 := (Y3.2 1 _ rfl).1
  have HX1 := dHide hx1
  have HY3 := dHide Y3
  have HZ3 := dHide Z3
  have HW3 := dHide W3
  have HO3 := dHide O3
  have HC3 := dHide hc3
  clear D2 hc2 hw2 hx1 W0 W1 W2 V0 V1 V2 O2 G0 Z0 b3 G3 Y3 Z3 W3 O3 hc3 HV HN CH B0
  go_wp2_with fail
  generalize w2.alloc (.cells #[.string x, .slice ua xs.length uc, .bool false] 82) = w3 at *
  refine (dUnhide D3).mono ?_
  rintro e w4 ⟨⟨b, rfl, hr⟩, b4⟩
  have HR : Hid (RetB (holdsP ds cop xs) (.returned (.bool b))) := ⟨b, rfl, hr⟩
  have hs4 := b4.size
  have Y4 := (dUnhide HY3).below b4
  obtain ⟨g2, f2⟩ := Y4.2 2 _ rfl
  have Y5 := Y4.put 2 (.bool b)
  have Z5 := ((dUnhide HZ3).below b4).far (b' := w2.heap.size) (o := 2) (by omega) (.bool b)
  have W4 := (dUnhide HW3).trans (Wr.of_below (lo := ab) (hi := ab + 2) b4)
  have gg : ∀ k, k ≠ w2.heap.size → (w4.setCell ⟨w2.heap.size, 2, none⟩ (.bool b)).heap[k]? = w4.heap[k]? := fun k hk => Below.heap_setCell _ _ _ k (by simp only; omega)
  have hs5 : (w4.setCell ⟨w2.heap.size, 2, none⟩ (.bool b)).heap.size = w4.heap.size := by simp
  have b5 : Below w.heap.size w4 (w4.setCell ⟨w2.heap.size, 2, none⟩ (.bool b)) := Below.setCell (p := ⟨w2.heap.size, 2, none⟩) (Below.refl _ _) (by simp only; omega) (.bool b)
  have W5 := dHide (Wr.new W4 (b := w2.heap.size) (by omega) gg hs5 b5)
  have C5 := dHide (Rc.newX ((dUnhide HC3).below b4) (b := w2.heap.size) (by omega) gg hs5 b5)
  have O5 : Hid (OwnN (w4.setCell ⟨w2.heap.size, 2, none⟩ (.bool b)) w1.heap.size (.slice ua xs.length uc) xs) := ((dUnhide HO3).below b4).setNe17 (dUnhide HNB) (o := 2) (.bool b)
  have m0 := (Y5.2 0 _ rfl).1
  have m1 := (Y5.2 1 _ rfl).1
  have m2 := (Y5.2 2 _ rfl).1
  clear D3 HY3 HZ3 HW3 HC3 HO3 g0 g1 y1 Y4 W4 b4 b5 gg hr Y5
  go_wp2_with (refine wp_putW rfl _ _ _ rfl rfl [.string x, .slice ua xs.length uc, .bool b] rfl rfl Z5 rfl (by kernel_rfl) (by kernel_rfl) ?_; intro w6 Y6 s6 g6 b6)
  refine bodyPost_ret (results_box Tryz.results110 _ _ _ [.string x, .slice ua xs.length uc, .bool b] _ rfl Y6.bx Tryz.underlying82 rfl (by kernel_rfl)) rfl ⟨⟨ua, uc, ⟨x, xs, b⟩⟩, rfl, ?_, fun h => ?_, ?_, (dUnhide W5).new (by omega) g6 s6 b6⟩
  · exact (OwnN.farO _ _ _ _ w6 (dUnhide O5) (by rw [s6]; exact Nat.le_refl _) (fun k h1 h2 => g6 k (by omega))).mono (by omega)
  · have h2 := dUnhide K1 h
    obtain rfl := dUnhide HX1 h
    rw [dUnhide HX h2, dUnhide HB b (dUnhide HR)]
  · exact Rc.newX (dUnhide C5) (by omega) g6 s6 b6
end Go.Proofs.YthndkkjgjhgdnaaGreatDoor
namespace Go.Proofs.YthndkkjgjhgdnaaGreatDoor
open Go.ChangeShapes Go.WideShapes Go.ChangeAt Go.RowKit
set_option linter.unusedVariables false
set_option linter.unusedSimpArgs false
set_option maxRecDepth 100000

theorem ApR.farW {n : Nat} {u : Value} {rs : List (Nst Wd)} {W W' : World} (h : ApR 82 3 wdCl W n u rs) (hs : W.heap.size ≤ W'.heap.size) (hk : ∀ k, n ≤ k → k < W.heap.size → W'.heap[k]? = W.heap[k]?) : ApR 82 3 wdCl W' n u rs := by
  rcases h with h | h
  · exact .inl h
  · refine .inr ?_
    rcases h.2 with h0 | ⟨g, cap, cur, h1, h2, h3, h4⟩
    · exact ⟨h.1, .inl h0⟩
    · exact ⟨h.1, .inr ⟨g, cap, cur, h1, h2, (hk g h2 (Array.getElem?_eq_some_iff.1 h3).1).trans h3, h4⟩⟩
theorem ApR.wrW {lo hi n : Nat} {u : Value} {rs : List (Nst Wd)} {W W' : World} (h : ApR 82 3 wdCl W n u rs) (hd : Wr lo hi W W') (hb : hi ≤ n) : ApR 82 3 wdCl W' n u rs := h.farW hd.size (fun k h1 h2 => hd.block k h2 (.inr (by omega)))
theorem WAp.farO (n : Nat) (u : Value) (ms : List Wd) : FarO n (fun W => WAp W n u ms) := fun W W' h hs hk => by
  obtain ⟨rs, h1, h2, h3, h4, h5⟩ := h
  exact ⟨rs, h1, h2.farW hs hk, fun p hp => OwnN.farO n _ _ W W' (h3 p hp) hs hk, h4, h5⟩
theorem WAp.wr {lo hi base : Nat} {w w' : World} {v : Value} {ms : List Wd} (h : WAp w base v ms) (hd : Wr lo hi w w') (hb : hi ≤ base) : WAp w' base v ms := WAp.farO base v ms w w' h hd.size (fun k h1 h2 => hd.block k h2 (.inr (by omega)))
/-- A list of words is read. -/
noncomputable def rdWdl (ds : List Int) (cop : Int) (bs : List UInt8) (q : Nat) (ok : Bool) : List Wd × Nat × Bool := rdWds ds cop bs (rdN bs q ok).1.toNat (rdN bs q ok).2.1 (rdN bs q ok).2.2
set_option maxHeartbeats 4000000 in
theorem writer1_any (ab : Nat) (v : Value) (bs : List UInt8) (q : Nat) (ok : Bool) (w : World) (ds : List Int) (cop : Int) (ca : Option Addr) (cc rb cb : Nat) (HN : ∀ W, Wr ab (ab + 2) w W → Ns W (.slice ca ds.length cc) ds ∧ Bx W rb [.pointer (some ⟨ab + 1, 0, none⟩)] ∧ Bx W cb [.slice ca ds.length cc, .int .i64 cop]) (had : allInt ds) (hld : ds.length ≤ 1048576) (c0 : -9223372036854775808 ≤ cop) (c1 : cop ≤ 9223372036854775807) (hc : Rc w ab v q ok) (HV : ∀ W, Wr ab (ab + 2) w W → Bs W v bs) (hl : bs.length ≤ 1048576) (hq : q ≤ bs.length) (hne : bs = [] ∨ blockOf v ≠ ab) :
    Calls Tryz.prog 109 #[.pointer (some ⟨rb, 0, none⟩), .pointer (some ⟨cb, 0, none⟩)] w fun e w' => ∃ m : Nst Wd, e = .returned (.agg #[.string m.m.data, .slice m.a m.m.acks.length m.c, .bool m.m.done]) ∧ OwnN w' w.heap.size (Sv Wd.acks m) m.m.acks ∧ ((rdWd ds cop bs q ok).2.2 = true → m.m = (rdWd ds cop bs q ok).1) ∧ Rc w' ab v (rdWd ds cop bs q ok).2.1 (rdWd ds cop bs q ok).2.2 ∧ Wr ab (ab + 2) w w' := by
  have hab := hc.lt
  have b0 : Below w.heap.size w (w.alloc (.cells #[.string ⟨#[]⟩, .slice none 0 0, .bool false] 82)) := (Below.refl _ _).alloc (Nat.le_refl _) _
  have Z0 := BxZ.new (B := w.heap.size) w [.string ⟨#[]⟩, .slice none 0 0, .bool false] 82 (Nat.le_refl _)
  have W0 := Wr.of_below (lo := ab) (hi := ab + 2) b0
  obtain ⟨-, XR, XC⟩ := HN _ W0
  have r0 := XR 0 _ rfl
  have x0 := XC 0 _ rfl
  have x1 := XC 1 _ rfl
  have CW := dHide (word_any ab v bs q ok _ ds cop ca cc (hc.below b0) (fun W' hW' => HV W' (W0.trans hW')) (fun W' hW' => (HN W' (W0.trans hW')).1) had hld c0 c1 hl hq hne)
  have hs0 : (w.alloc (.cells #[.string ⟨#[]⟩, .slice none 0 0, .bool false] 82)).heap.size = w.heap.size + 1 := by simp
  clear HN HV hc XR XC b0
  generalize rdWd ds cop bs q ok = RE at *
  go_enter Tryz.func109, Tryz.ntmps109
  go_upto_region 1 with fail
  generalize w.alloc (.cells #[.string ⟨#[]⟩, .slice none 0 0, .bool false] 82) = w0 at *
  go_wp2_with fail
  refine (dUnhide CW).mono ?_
  rintro e w1 ⟨m, rfl, O1, hm, c2, hw1⟩
  have Z1 := Z0.wrZ hw1 hab
  have W1 := dHide (W0.trans hw1)
  have HO := dHide O1
  have HM := dHide hm
  have HC := dHide c2
  have hs1 := hw1.size
  clear CW r0 x0 x1 O1 hm c2 hw1 W0 Z0
  go_wp2_with (refine wp_putW rfl _ _ _ rfl rfl [.string m.m.data, .slice m.a m.m.acks.length m.c, .bool m.m.done] rfl rfl Z1 rfl (by kernel_rfl) (by kernel_rfl) ?_; intro w6 Y6 s6 g6 b6)
  refine bodyPost_ret (results_box Tryz.results109 _ _ _ [.string m.m.data, .slice m.a m.m.acks.length m.c, .bool m.m.done] _ rfl Y6.bx Tryz.underlying82 rfl (by kernel_rfl)) rfl ⟨m, rfl, ?_, dUnhide HM, Rc.newX (dUnhide HC) (by omega) g6 s6 b6, (dUnhide W1).new (by omega) g6 s6 b6⟩
  exact (OwnN.farO _ _ _ _ w6 (dUnhide HO) (by rw [s6]; exact Nat.le_refl _) (fun k h1 h2 => g6 k (by omega))).mono (by omega)
set_option maxHeartbeats 8000000 in
theorem listOfW_any (ab : Nat) (v : Value) (bs : List UInt8) (q : Nat) (ok : Bool) (w : World) (ds : List Int) (cop : Int) (ca : Option Addr) (cc rb cb : Nat) (HN : ∀ W, Wr ab (ab + 2) w W → Ns W (.slice ca ds.length cc) ds ∧ Bx W rb [.pointer (some ⟨ab + 1, 0, none⟩)] ∧ Bx W cb [.slice ca ds.length cc, .int .i64 cop]) (had : allInt ds) (hld : ds.length ≤ 1048576) (c0 : -9223372036854775808 ≤ cop) (c1 : cop ≤ 9223372036854775807) (hc : Rc w ab v q ok) (HV : ∀ W, Wr ab (ab + 2) w W → Bs W v bs) (hl : bs.length ≤ 1048576) (hq : q ≤ bs.length) (hne : bs = [] ∨ blockOf v ≠ ab) :
    Calls Tryz.prog 108 #[.pointer (some ⟨ab + 1, 0, none⟩), .func (.func 109) #[] #[.pointer (some ⟨rb, 0, none⟩), .pointer (some ⟨cb, 0, none⟩)]] w fun e w' => ∃ u xs, e = .returned u ∧ WAp w' w.heap.size u xs ∧ ((rdWdl ds cop bs q ok).2.2 = true → xs = (rdWdl ds cop bs q ok).1) ∧ Rc w' ab v (rdWdl ds cop bs q ok).2.1 (rdWdl ds cop bs q ok).2.2 ∧ Wr ab (ab + 2) w w' := by
  have hab := hc.lt
  have HV := dHide HV
  have HN := dHide HN
  have CN := dHide fun q ok W (hd : Wr ab (ab + 2) w W) (hc : Rc W ab v q ok) (hq : q ≤ bs.length) => writer1_any ab v bs q ok W ds cop ca cc rb cb (fun W' hW' => dUnhide HN W' (hd.trans hW')) had hld c0 c1 hc (fun W' hW' => dUnhide HV W' (hd.trans hW')) hl hq hne
  have C1 := dHide (number_any ab v bs q ok w hc (dUnhide HV w (Wr.refl _ _ _)) hne)
  have HS : Hid ((rdN bs q ok).2.1 ≤ bs.length ∧ (∀ x : Int, ((rdN bs q ok).2.2 = true → x = (rdN bs q ok).1) → (rdN bs q ok).2.2 = true → rdWdl ds cop bs q ok = rdWds ds cop bs x.toNat (rdN bs q ok).2.1 true) ∧ ((rdN bs q ok).2.2 = false → (rdWdl ds cop bs q ok).2.2 = false)) := by
    refine ⟨rdN_le bs q ok hq, fun x hx h => ?_, fun h => ?_⟩
    · rw [hx h]; unfold rdWdl; rw [h]
    · unfold rdWdl; rw [h, rdWds_off]
  generalize rdN bs q ok = R at *
  generalize rdWdl ds cop bs q ok = L at *
  obtain ⟨nI, q1, ok1⟩ := R
  obtain ⟨hq1, hL1, hL0⟩ := dUnhide HS
  simp only at hq1 hL1 hL0 C1
  have HL1 := dHide hL1
  have HL0 := dHide hL0
  clear hc HS hq hL1 hL0 HN
  go_enter Tryz.func108, Tryz.ntmps108
  go_wp2_with fail
  refine (dUnhide C1).mono ?_
  rintro e w1 ⟨x, rfl, ⟨hx0, hx1⟩, hx, hc1, hd1⟩
  obtain ⟨n, rfl⟩ := Int.eq_ofNat_of_zero_le hx0
  have E1 : Hid (ok1 = true → L = rdWds ds cop bs n q1 true) := fun h => dUnhide HL1 (n : Int) hx h
  have E0 := HL0
  have hs1 := hd1.size
  have HC1 := dHide hc1
  have HD1 := dHide hd1
  clear HL1 HL0 hx hc1 hd1 C1
  go_wp2
  go_loopw [5, 6] (fun ov xv wr => ∃ (k : Nat) (xs : List Wd) (p : Nat) (okb : Bool), xv = .int .i64 ((n : Int) - (k : Int)) ∧ xs.length = k ∧ k ≤ n ∧ k ≤ bs.length + 1 ∧ (okb = true → k ≤ p) ∧ p ≤ bs.length ∧ Hid (okb = true → L = (xs ++ (rdWds ds cop bs (n - k) p true).1, (rdWds ds cop bs (n - k) p true).2)) ∧ Hid (okb = false → L.2.2 = false) ∧ WAp wr w1.heap.size ov xs ∧ Hid (Rc wr ab v p okb) ∧ Hid (Wr ab (ab + 2) w wr) ∧ w1.heap.size ≤ wr.heap.size) (fun _ xv _ => (intOf xv).toNat)
  case atStart => exact ⟨0, [], q1, ok1, by simp, rfl, Nat.zero_le _, Nat.zero_le _, fun _ => Nat.zero_le _, hq1, by simpa [Hid] using dUnhide E1, E0, WAp.nil _ _ _, HC1, HD1, Nat.le_refl _⟩
  case round =>
    clear HC1 HD1 E1 E0
    obtain ⟨k, xs, p, okb, rfl, hxl, hkn, hkb, hkp, hp, HK, HZ, hown, HC, HD, hsz⟩ := hrel
    obtain ⟨p2, k2⟩ := (dUnhide HC).cell2
    have GO : Hid ((okb = true → k = n) → (∃ u xs, Ending.returned u5 = .returned u ∧ WAp wr w.heap.size u xs ∧ (L.2.2 = true → xs = L.1) ∧ Rc wr ab v L.2.1 L.2.2 ∧ Wr ab (ab + 2) w wr)) := by
      intro e
      cases okb with
      | true =>
        have e2 : L = (xs, p, true) := by
          have := dUnhide HK rfl
          rw [e rfl, Nat.sub_self, rdWds_zero] at this
          simpa using this
        rw [e2]
        exact ⟨_, xs, rfl, WAp.mono hown hs1, fun _ => rfl, dUnhide HC, dUnhide HD⟩
      | false =>
        have e2 := dUnhide HZ rfl
        obtain ⟨L1, L2, L3⟩ := L
        simp only at e2
        subst e2
        obtain ⟨pp, yy, hr⟩ := (dUnhide HC).isNo
        exact ⟨_, xs, rfl, WAp.mono hown hs1, fun h => (by cases h), Rc.no hr, dUnhide HD⟩
    by_cases hlt : (0 : Int) < (n : Int) - (k : Int)
    · cases okb
      · have G := dHide (dUnhide GO (fun h => (by cases h)))
        simp only [Bool.false_eq_true, if_false] at k2
        unfold wrg at k2
        clear GO HK HZ HC HD CN HV
        go_wp2
        go_ret
        exact dUnhide G
      · simp only [if_true] at k2
        have hkp2 : k ≤ p := hkp rfl
        have C2 := dHide (dUnhide CN p true wr (dUnhide HD) (dUnhide HC) hp)
        have HS : Hid (p ≤ (rdWd ds cop bs p true).2.1 ∧ (rdWd ds cop bs p true).2.1 ≤ bs.length ∧ ((rdWd ds cop bs p true).2.2 = true → p + 1 ≤ (rdWd ds cop bs p true).2.1)) := by
          obtain ⟨a1, a2, a3, -⟩ := rdWd_go ds cop bs p true hp
          exact ⟨a1, a2, fun h => by have := a3 h; omega⟩
        obtain ⟨j, hj⟩ : ∃ j, n - k = j + 1 := ⟨n - k - 1, by omega⟩
        have hj2 : n - (k + 1) = j := by omega
        have HK2 : Hid (L = (xs ++ [(rdWd ds cop bs p true).1] ++ (rdWds ds cop bs j (rdWd ds cop bs p true).2.1 (rdWd ds cop bs p true).2.2).1, (rdWds ds cop bs j (rdWd ds cop bs p true).2.1 (rdWd ds cop bs p true).2.2).2)) := by
          have := dUnhide HK rfl
          rw [hj, rdWds_succ] at this
          rw [Hid, this]
          simp
        generalize rdWd ds cop bs p true = R at *
        obtain ⟨y, p', ok'⟩ := R
        obtain ⟨hpp, hpl, hpk⟩ := dUnhide HS
        simp only at hpp hpl hpk HK2 C2
        have HK3 : Hid (∀ y' : Wd, (ok' = true → y' = y) → (ok' = true → L = (xs ++ [y'] ++ (rdWds ds cop bs j p' true).1, (rdWds ds cop bs j p' true).2)) ∧ (ok' = false → L.2.2 = false)) := fun y' h' => by
          refine ⟨fun h => ?_, fun h => ?_⟩
          · rw [h' h, dUnhide HK2, h]
          · rw [dUnhide HK2, h, rdWds_off]
        have HO := dHide hown
        clear GO HK HK2 HZ HS CN HV HC hown
        go_wp2_with fail
        refine (dUnhide C2).mono ?_
        rintro e w3 ⟨y', rfl, hyb, hye, hc3, hd3⟩
        have HK4 := dHide (dUnhide HK3 y'.m hye)
        obtain ⟨un, nc, la, ns, cl⟩ := y'
        simp only [Sv] at hyb
        have HYB := dHide hyb
        obtain ⟨rs, s1, s2, s3, s4, s5⟩ := dUnhide HO
        have ho3 := WAp.wr (dUnhide HO) hd3 (by omega)
        clear C2 k2 HK3 hye hyb
        have hlt' : ∀ b, touch u5 = some b → w1.heap.size ≤ b := fun b e => (ApR.touched elemW s2 e).1
        have HC3 := dHide hc3
        have HD3 := dHide ((dUnhide HD).trans hd3)
        have hs3 := hd3.size
        have ba3 : Below w3.heap.size w3 (w3.alloc (.cells #[.string la, .slice un ns.length nc, .bool cl] 82)) := (Below.refl _ _).alloc (Nat.le_refl _) _
        have RO := dHide (rwW_one w3 ⟨un, nc, ⟨la, ns, cl⟩⟩ 82 1 (by omega))
        have hsA : (w3.alloc (.cells #[.string la, .slice un ns.length nc, .bool cl] 82)).heap.size = w3.heap.size + 1 := by simp
        have HA3 := dHide (ApR.below (ApR.wrW s2 hd3 (by omega)) ba3)
        have hN3 := dHide fun p hp => ((s3 p hp).wr17 hd3 (by omega)).below ba3
        have HYB3 := dHide ((dUnhide HYB).below ba3)
        have RS1 := dHide s1
        have RS2 := dHide s2
        have RS3 := dHide s3
        have RS4 := dHide s4
        have RS5 := dHide s5
        have HRL : Hid (rs.length = k) := by rw [Hid, ← hxl, ← s1, List.length_map]
        have hlt' := dHide hlt'
        clear hc3 hd3 HD ho3 HO s1 s2 s3 s4 s5 HYB
        go_wp2_with (at_builtin; refine wp_apR elemW rfl _ _ rfl w1.heap.size _ rs rfl (dUnhide HA3) _ [⟨un, nc, ⟨la, ns, cl⟩⟩] rfl (dUnhide RO) ?c1 ?c2 ?c3 ?_)
        case c1 => rw [dUnhide HRL]; simp; omega
        case c2 => rw [dUnhide HRL]; simp; omega
        case c3 => simp; omega
        intro v' w4 hown' hgrow T10
        have NP := WAp.push (p := (⟨un, nc, ⟨la, ns, cl⟩⟩ : Nst Wd)) (dUnhide RS1) (dUnhide RS2) (dUnhide RS3) (dUnhide RS4) (dUnhide RS5) (dUnhide hN3) (by rw [hsA]; omega) hsz (dUnhide HYB3) hown' hgrow (by rw [hsA]; exact T10)
        have hs4 : w1.heap.size ≤ w4.heap.size := by have := hgrow.size; simp at this; omega
        have HC4 := dHide (Rc.wr (Rc.below (dUnhide HC3) ba3) hgrow (fun e => by have := (dUnhide hlt' _ e); omega) (fun e => by have := (dUnhide hlt' _ e); omega))
        have HD4 := dHide (((dUnhide HD3).trans (Wr.of_below ba3)).grown hgrow (fun k hk => by have := (dUnhide hlt' k hk); omega))
        have hown4 := NP
        clear hown' hgrow hlt' HC3 HD3 HA3 RO NP T10 RS1 RS2 RS3 RS4 RS5 hN3 HYB3
        go_wp2
        go_roundw
        case rel => exact ⟨k + 1, xs ++ [(⟨la, ns, cl⟩ : Wd)], p', ok', by go_num, by simp [hxl], by omega, by omega, fun h => by have := hpk h; omega, hpl, by rw [hj2]; exact (dUnhide HK4).1, (dUnhide HK4).2, hown4, HC4, HD4, hs4⟩
        case measure => simp [intOf]; omega
    · have G := dHide (dUnhide GO (fun h => by omega))
      clear GO HK HZ HC HD CN HV
      go_wp2
      go_ret
      obtain ⟨u, xs, ga, gb⟩ := dUnhide G
      exact ⟨u, ga, xs, gb⟩
end Go.Proofs.YthndkkjgjhgdnaaGreatDoor
namespace Go.Proofs.YthndkkjgjhgdnaaGreatDoor
open Go.ChangeShapes Go.WideShapes Go.ChangeAt Go.RowKit
set_option linter.unusedVariables false
set_option linter.unusedSimpArgs false
set_option maxRecDepth 100000

/-- A writer with one word more. -/
def addW (m : Wt) (d : ByteArray) : Wt := ⟨m.epoch, m.words ++ [⟨d, [], false⟩]⟩
/-- The zero writer. -/
def zeroWt : Wt := ⟨0, []⟩
open Classical in
/-- WriterAdd. -/
noncomputable def addM (ds : List Int) (cop : Int) (m : Wt) (d : ByteArray) : Wt × Int × Bool := if wrP ds cop m then (if wrP ds cop (addW m d) then (addW m d, (m.words.length : Int) + 1, true) else (m, 0, false)) else (zeroWt, 0, false)
theorem addM_bad {ds : List Int} {cop : Int} {m : Wt} {d : ByteArray} (h : ¬ wrP ds cop m) : addM ds cop m d = (zeroWt, 0, false) := if_neg h
theorem addM_no {ds : List Int} {cop : Int} {m : Wt} {d : ByteArray} (h : wrP ds cop m) (hp : ¬ wrP ds cop (addW m d)) : addM ds cop m d = (m, 0, false) := (if_pos h).trans (if_neg hp)
theorem addM_yes {ds : List Int} {cop : Int} {m : Wt} {d : ByteArray} (h : wrP ds cop m) (hp : wrP ds cop (addW m d)) : addM ds cop m d = (addW m d, (m.words.length : Int) + 1, true) := (if_pos h).trans (if_pos hp)
theorem WAp.rd {w : World} {base : Nat} {v : Value} {ms : List Wd} (h : WAp w base v ms) : RdWordS v ms w := OwK.rd h.ow
/-- A block that is none of theirs is written. -/
theorem WAp.put {w : World} {base b o : Nat} {v : Value} {ms : List Wd} (h : WAp w base v ms) {lo hi : Nat} (hw : OwWordS lo hi v ms w) (hb1 : touch v ≠ some b) (hb2 : ∀ rs : List (Nst Wd), rs.map Nst.m = ms → ApR 82 3 wdCl w base v rs → (∀ p ∈ rs, OwnN w base (Sv Wd.acks p) p.m.acks) → ∀ p ∈ rs, p.m.acks = [] ∨ blockOf (Sv Wd.acks p) ≠ b) (u : Value) : WAp (w.setCell ⟨b, o, none⟩ u) base v ms := by
  obtain ⟨rs, h1, h2, h3, h4, h5⟩ := h
  refine ⟨rs, h1, h2.put elemW hb1 u, fun q hq => (h3 q hq).grown (grown_set w b o u) ?_, h4, h5⟩
  rcases hb2 rs h1 h2 h3 q hq with h | h
  · exact .inl h
  · exact .inr fun e => h (Option.some.inj e).symm
theorem sizAdd {m : Wt} {d : ByteArray} (hs : sizWriter m ≤ 1048576) (hd : d.size ≤ 1048576) : sizWriter (addW m d) ≤ 4194304 := by
  unfold sizWriter sizWordS addW sumX sumW at *
  simp only [List.length_append, List.map_append, List.sum_append, List.length_cons, List.length_nil, List.map_cons, List.map_nil, List.sum_cons, List.sum_nil] at *
  omega
set_option maxHeartbeats 8000000 in
theorem specAdd_any (cv v : Value) (c : List Int × Int) (m : Wt) (d : ByteArray) (w : World) (hc : RdConfig cv c w) (hv : RdWriter v m w) (hs : sizWriter m ≤ 1048576) (hd : d.size ≤ 1048576) :
    Calls Tryz.prog 75 #[cv, v, .string d] w fun e w' => (∃ u, e = .returned (.tuple #[.agg #[.int .i64 (addM c.1 c.2 m d).1.epoch, u], .int .i64 (addM c.1 c.2 m d).2.1, .bool (addM c.1 c.2 m d).2.2]) ∧ WAp w' w.heap.size u (addM c.1 c.2 m d).1.words) ∧ Below w.heap.size w w' := by
  have CO := dHide fun W (hb : Below w.heap.size w W) => specWriterOk_any cv v c m W (hc.below hb) (hv.below hb) (by omega)
  have CA := dHide fun W v' (hb : Below w.heap.size w W) (hv' : RdWriter v' (addW m d) W) => specWriterOk_any cv v' c (addW m d) W (hc.below hb) hv' (sizAdd hs hd)
  have CP := dHide fun W (hb : Below w.heap.size w W) => l8Copy_any v m W (hv.below hb) (by omega)
  obtain ⟨ds, cop⟩ := c
  obtain ⟨sc, rfl, hc⟩ := hc
  obtain ⟨a, cap, rfl, hl0⟩ := formWriter hv
  have hle : m.words.length ≤ 1048576 := by unfold sizWriter sizWordS at hs; omega
  simp only at *
  obtain ⟨-, ca, cc, rfl, -, -⟩ := hc
  clear hv
  have ba : ∀ (w : World) o, Below w.heap.size w (w.alloc o) := fun w o => (Below.refl _ _).alloc (Nat.le_refl _) o
  have B0 := belowThen (belowThen (ba w (.cells #[.slice ca ds.length cc, .int .i64 cop] 26)) (ba _ (.cells #[.int .i64 m.epoch, .slice a m.words.length cap] 40))) (ba _ (.cells #[.int .i64 0, .slice none 0 0] 40))
  have X0 := dHide ((Bx.new w [.slice ca ds.length cc, .int .i64 cop] 26).below (belowThen (ba _ (.cells #[.int .i64 m.epoch, .slice a m.words.length cap] 40)) (ba _ (.cells #[.int .i64 0, .slice none 0 0] 40))))
  have Y0 := (Bx.new (w.alloc (.cells #[.slice ca ds.length cc, .int .i64 cop] 26)) [.int .i64 m.epoch, .slice a m.words.length cap] 40).below (ba _ (.cells #[.int .i64 0, .slice none 0 0] 40))
  have Z0 := BxZ.new (B := w.heap.size) ((w.alloc (.cells #[.slice ca ds.length cc, .int .i64 cop] 26)).alloc (.cells #[.int .i64 m.epoch, .slice a m.words.length cap] 40)) [.int .i64 0, .slice none 0 0] 40 (by simp <;> omega)
  have e1 : (w.alloc (.cells #[.slice ca ds.length cc, .int .i64 cop] 26)).heap.size = w.heap.size + 1 := by simp
  have e2 : ((w.alloc (.cells #[.slice ca ds.length cc, .int .i64 cop] 26)).alloc (.cells #[.int .i64 m.epoch, .slice a m.words.length cap] 40)).heap.size = w.heap.size + 1 + 1 := by simp
  rw [e1] at Y0
  rw [e2] at Z0
  replace Y0 := dHide Y0
  replace Z0 := dHide Z0
  clear e1 e2
  have hsz0 : Hid (w.heap.size + 1 + 1 + 1 = (((w.alloc (.cells #[.slice ca ds.length cc, .int .i64 cop] 26)).alloc (.cells #[.int .i64 m.epoch, .slice a m.words.length cap] 40)).alloc (.cells #[.int .i64 0, .slice none 0 0] 40)).heap.size) := by simp [Hid]
  have RB : Hid (¬ wrP ds cop m → addM ds cop m d = (zeroWt, 0, false)) := addM_bad
  have RN : Hid (wrP ds cop m → ¬ wrP ds cop (addW m d) → addM ds cop m d = (m, 0, false)) := addM_no
  have RY : Hid (wrP ds cop m → wrP ds cop (addW m d) → addM ds cop m d = (addW m d, (m.words.length : Int) + 1, true)) := addM_yes
  generalize addM ds cop m d = AM at *
  go_enter Tryz.func75, Tryz.ntmps75
  go_wp2_with fail
  generalize ((w.alloc (.cells #[.slice ca ds.length cc, .int .i64 cop] 26)).alloc (.cells #[.int .i64 m.epoch, .slice a m.words.length cap] 40)).alloc (.cells #[.int .i64 0, .slice none 0 0] 40) = w0 at *
  refine (dUnhide CO _ B0).mono ?_
  rintro e w1 ⟨⟨b1, rfl, h1⟩, bl1⟩
  have B1 := belowThen B0 bl1
  have X1 := dHide ((dUnhide X0).below bl1)
  have Y1 := dHide ((dUnhide Y0).below bl1)
  have Z1 := dHide ((dUnhide Z0).below bl1)
  have s1 := bl1.size
  clear X0 Y0 Z0 B0 bl1 CO
  cases b1
  · have e := dUnhide RB fun h => by have := h1.2 h; cases this
    subst e
    obtain ⟨z0, f0⟩ := (dUnhide Z1).2 0 _ rfl
    obtain ⟨z1, f1⟩ := (dUnhide Z1).2 1 _ rfl
    have ZZ := dHide (((dUnhide Z1).put 0 (.int .i64 0)).put 1 (.slice none 0 0))
    have BB := dHide ((B1.setCell (p := ⟨w.heap.size + 1 + 1, 0, none⟩) (by simp only; omega) (.int .i64 0)).setCell (p := ⟨w.heap.size + 1 + 1, 1, none⟩) (by simp only; omega) (.slice none 0 0))
    clear h1 RB RN RY CP CA X1 Y1
    go_wp2_with fail
    generalize (w1.setCell ⟨w.heap.size + 1 + 1, 0, none⟩ (.int .i64 0)).setCell ⟨w.heap.size + 1 + 1, 1, none⟩ (.slice none 0 0) = V at *
    have q0 := ((dUnhide ZZ).2 0 _ rfl).1
    have q1 := ((dUnhide ZZ).2 1 _ rfl).1
    refine bodyPost_ret (v := .tuple #[.agg #[.int .i64 0, .slice none 0 0], .int .i64 0, .bool false]) (by simp [results, Tryz.results75, go_sem, q0, q1]) rfl ⟨⟨_, rfl, WAp.nil V w.heap.size none⟩, dUnhide BB⟩
  have hP := h1.1 rfl
  have RN' := dHide (dUnhide RN hP)
  have RY' := dHide (dUnhide RY hP)
  have HP := dHide hP
  clear RB RN RY h1 hP
  have y0 := dUnhide Y1 0 _ rfl
  have y1 := dUnhide Y1 1 _ rfl
  have CP1 := dHide (dUnhide CP _ B1)
  go_wp2_with fail
  refine (dUnhide CP1).mono ?_
  rintro e w2 ⟨⟨u2, rfl, N2⟩, b2⟩
  obtain ⟨ua, uc, rfl⟩ := N2.slice
  have B2 := belowThen B1 b2
  have s2 := b2.size
  have X2 := dHide ((dUnhide X1).below b2)
  have Y2 := dHide ((dUnhide Y1).below b2)
  have Z2 := dHide ((dUnhide Z1).below b2)
  clear X1 Y1 Z1 B1 b2 CP1 y0 y1
  have hw1 : w.heap.size + 3 ≤ w1.heap.size := by have := dUnhide hsz0; omega
  have bA := ba w2 (.cells #[.int .i64 m.epoch, .slice ua m.words.length uc] 40)
  have bB := belowThen bA (ba _ (.cells #[.string d, .slice none 0 0, .bool false] 82))
  have O3 := dHide ((BxZ.new (B := w.heap.size) w2 [.int .i64 m.epoch, .slice ua m.words.length uc] 40 (by omega)).below (ba _ (.cells #[.string d, .slice none 0 0, .bool false] 82)))
  have o1 := ((dUnhide O3).2 1 _ rfl).1
  have RO := rwW_one (w2.alloc (.cells #[.int .i64 m.epoch, .slice ua m.words.length uc] 40)) ⟨none, 0, ⟨d, [], false⟩⟩ 82 1 (by omega)
  rw [show (w2.alloc (.cells #[.int .i64 m.epoch, .slice ua m.words.length uc] 40)).heap.size = w2.heap.size + 1 from by simp] at RO
  replace RO := dHide RO
  have tv : Hid (∀ j, touch (.slice ua m.words.length uc) = some j → w1.heap.size ≤ j ∧ j < w2.heap.size) := fun j hj => N2.touched hj
  obtain ⟨r0, m1, n2, n3, m4, m5⟩ := N2
  have m2 := n2.below bB
  have m3 := fun p hp => (n3 p hp).below bB
  have hl1 : r0.length = m.words.length := by rw [← m1, List.length_map]
  have ob : Hid (∀ p ∈ r0, p.m.acks = [] ∨ blockOf (Sv Wd.acks p) < w2.heap.size) := fun p hp => (n3 p hp).bs.lt
  have M := dHide (And.intro m1 (And.intro m2 (And.intro m3 (And.intro m4 m5))))
  have B4 := belowThen B2 bB
  have X4 := dHide ((dUnhide X2).below bB)
  have Y4 := dHide ((dUnhide Y2).below bB)
  have Z4 := dHide ((dUnhide Z2).below bB)
  have hs4 : Hid (((w2.alloc (.cells #[.int .i64 m.epoch, .slice ua m.words.length uc] 40)).alloc (.cells #[.string d, .slice none 0 0, .bool false] 82)).heap.size = w2.heap.size + 1 + 1) := by simp [Hid]
  clear m1 m2 m3 m4 m5 n2 n3 bA bB X2 Y2 Z2 B2
  go_wp2_with (first
    | (at_builtin; refine wp_apR elemW rfl _ _ rfl w1.heap.size _ r0 rfl (dUnhide M).2.1 _ [⟨none, 0, ⟨d, [], false⟩⟩] rfl (dUnhide RO) (by simp; omega) (by simp; omega) (by simp; omega) ?_; intro v5 w5 P5 g5 t5
       obtain ⟨a5, c5, e5⟩ : ∃ a c, v5 = .slice a (m.words.length + 1) c := by
         obtain ⟨a, c, e⟩ := ApR.slice elemW P5
         exact ⟨a, c, by rw [e]; simp [hl1]⟩
       subst e5
       have NN : Hid (∀ u, WAp (w5.setCell ⟨w2.heap.size, 1, none⟩ u) w1.heap.size (.slice a5 (m.words.length + 1) c5) (m.words ++ [⟨d, [], false⟩])) := fun u => WAp.pushO (p := ⟨none, 0, ⟨d, [], false⟩⟩) (dUnhide M).1 (dUnhide M).2.1 (dUnhide M).2.2.1 (dUnhide M).2.2.2.1 (dUnhide M).2.2.2.2 (dUnhide M).2.2.1 (Nat.le_refl _) (by simp; omega) ⟨by simp, none, 0, rfl, by simp, .inl rfl⟩ P5 g5 t5 (fun e => by have := dUnhide tv _ e; omega) (fun q hq => by
         rcases List.mem_append.1 hq with hq | hq
         · rcases dUnhide ob q hq with h | h
           · exact .inl h
           · exact .inr (by omega)
         · obtain rfl : q = ⟨none, 0, ⟨d, [], false⟩⟩ := by simpa using hq
           exact .inl rfl) (by simp <;> omega) u
       have O5 := dHide ((dUnhide O3).grown g5 (fun e => by have := dUnhide tv _ e; omega))
       have X5 := dHide ((dUnhide X4).grown g5 (fun e => by have := dUnhide tv _ e; omega))
       have Y5 := dHide ((dUnhide Y4).grown g5 (fun e => by have := dUnhide tv _ e; omega))
       have Z5 := dHide ((dUnhide Z4).grown g5 (fun e => by have := dUnhide tv _ e; omega))
       have B5 := dHide (B4.grown g5 (by simp; omega) (fun j hj => by have := dUnhide tv _ hj; omega))
       have s5 := g5.size
       obtain ⟨i0, j0⟩ := (dUnhide O5).2 1 _ rfl
       obtain ⟨i00, j00⟩ := (dUnhide O5).2 0 _ rfl
       have xx0 := dUnhide X5 0 _ rfl
       have xx1 := dUnhide X5 1 _ rfl
       have hx : w.heap.size ≠ w2.heap.size := by omega)
    | fail)
  have s5' : w2.heap.size + 1 + 1 ≤ w5.heap.size := by have := dUnhide hs4; omega
  clear s5 X4 Y4 Z4 B4 O3 M RO hs4 tv ob g5 t5 P5
  have O6 := dHide ((dUnhide O5).put 1 (.slice a5 (m.words.length + 1) c5))
  have X6 := dHide ((dUnhide X5).farB (b' := w2.heap.size) (o := 1) (by omega) (.slice a5 (m.words.length + 1) c5))
  have Y6 := dHide ((dUnhide Y5).farB (b' := w2.heap.size) (o := 1) (by omega) (.slice a5 (m.words.length + 1) c5))
  have Z6 := dHide ((dUnhide Z5).far (b' := w2.heap.size) (o := 1) (by omega) (.slice a5 (m.words.length + 1) c5))
  have B6 := (dUnhide B5).setCell (p := ⟨w2.heap.size, 1, none⟩) (by simp only; omega) (.slice a5 (m.words.length + 1) c5)
  have N6 := dHide (dUnhide NN (.slice a5 (m.words.length + 1) c5))
  have s6 : w2.heap.size + 1 + 1 ≤ (w5.setCell ⟨w2.heap.size, 1, none⟩ (.slice a5 (m.words.length + 1) c5)).heap.size := by rw [World.size_setCell]; exact s5'
  clear O5 X5 Y5 Z5 B5 NN i0 j0 i00 j00 xx0 xx1
  generalize w5.setCell ⟨w2.heap.size, 1, none⟩ (.slice a5 (m.words.length + 1) c5) = w6 at *
  have CA6 := dHide (dUnhide CA w6 (.agg #[.int .i64 m.epoch, .slice a5 (m.words.length + 1) c5]) B6 ⟨_, rfl, (dUnhide N6).rd⟩)
  clear CA
  refine (dUnhide CA6).mono ?_
  rintro e w7 ⟨⟨b7, rfl, h7⟩, bl7⟩
  have O7 := dHide ((dUnhide O6).below bl7)
  have Y7 := dHide ((dUnhide Y6).below bl7)
  have Z7 := dHide ((dUnhide Z6).below bl7)
  have N7 := dHide ((dUnhide N6).below bl7)
  have B7 := belowThen B6 bl7
  have s7 := bl7.size
  clear O6 X6 Y6 Z6 N6 B6 bl7 CA6
  cases b7
  · have e := dUnhide RN' fun h => by have := h7.2 h; cases this
    subst e
    have y0 := dUnhide Y7 0 _ rfl
    have y1 := dUnhide Y7 1 _ rfl
    have CP7 := dHide (dUnhide CP _ B7)
    clear CP RN' RY' h7
    go_wp2_with fail
    refine (dUnhide CP7).mono ?_
    rintro e w8 ⟨⟨u8, rfl, N8⟩, b8⟩
    obtain ⟨va, vc, rfl⟩ := N8.slice
    have B8 := belowThen B7 b8
    have Z8 := dHide ((dUnhide Z7).below b8)
    obtain ⟨z0, f0⟩ := (dUnhide Z8).2 0 _ rfl
    obtain ⟨z1, f1⟩ := (dUnhide Z8).2 1 _ rfl
    have ZZ := dHide (((dUnhide Z8).put 0 (.int .i64 m.epoch)).put 1 (.slice va m.words.length vc))
    have BB := dHide ((B8.setCell (p := ⟨w.heap.size + 1 + 1, 0, none⟩) (by simp only; omega) (.int .i64 m.epoch)).setCell (p := ⟨w.heap.size + 1 + 1, 1, none⟩) (by simp only; omega) (.slice va m.words.length vc))
    have NV := dHide ((N8.far (b := w.heap.size + 1 + 1) (o := 0) (by omega) (.int .i64 m.epoch)).far (b := w.heap.size + 1 + 1) (o := 1) (by omega) (.slice va m.words.length vc))
    clear y0 y1 CP7 O7 Y7 Z7 N7 Z8 B8 N8 b8
    go_wp2_with fail
    generalize (w8.setCell ⟨w.heap.size + 1 + 1, 0, none⟩ (.int .i64 m.epoch)).setCell ⟨w.heap.size + 1 + 1, 1, none⟩ (.slice va m.words.length vc) = V at *
    have q0 := ((dUnhide ZZ).2 0 _ rfl).1
    have q1 := ((dUnhide ZZ).2 1 _ rfl).1
    refine bodyPost_ret (v := .tuple #[.agg #[.int .i64 m.epoch, .slice va m.words.length vc], .int .i64 0, .bool false]) (by simp [results, Tryz.results75, go_sem, q0, q1]) rfl ⟨⟨_, rfl, (dUnhide NV).mono (by omega)⟩, dUnhide BB⟩
  · have e := dUnhide RY' (h7.1 rfl)
    subst e
    obtain ⟨p0, -⟩ := (dUnhide O7).2 0 _ rfl
    obtain ⟨p1, -⟩ := (dUnhide O7).2 1 _ rfl
    obtain ⟨z0, f0⟩ := (dUnhide Z7).2 0 _ rfl
    obtain ⟨z1, f1⟩ := (dUnhide Z7).2 1 _ rfl
    have ZZ := dHide (((dUnhide Z7).put 0 (.int .i64 m.epoch)).put 1 (.slice a5 (m.words.length + 1) c5))
    have BB := dHide ((B7.setCell (p := ⟨w.heap.size + 1 + 1, 0, none⟩) (by simp only; omega) (.int .i64 m.epoch)).setCell (p := ⟨w.heap.size + 1 + 1, 1, none⟩) (by simp only; omega) (.slice a5 (m.words.length + 1) c5))
    have NV := dHide (((dUnhide N7).far (b := w.heap.size + 1 + 1) (o := 0) (by omega) (.int .i64 m.epoch)).far (b := w.heap.size + 1 + 1) (o := 1) (by omega) (.slice a5 (m.words.length + 1) c5))
    have hne : w2.heap.size ≠ w.heap.size + 1 + 1 := by omega
    clear CP RN' RY' h7 O7 Y7 Z7 N7 o1
    go_wp2_with fail
    go_region_held3 (fun W => W.cell? ⟨w2.heap.size, 0, none⟩ = some (.int .i64 m.epoch) ∧ W.cell? ⟨w2.heap.size, 1, none⟩ = some (.slice a5 (m.words.length + 1) c5)) (first | exact ⟨set_other (set_other p0 (.inl hne)) (.inl hne), set_other (set_other p1 (.inl hne)) (.inl hne)⟩ | go_keep) (fail)
    all_goals
      go_wp2_with fail
      generalize (w7.setCell ⟨w.heap.size + 1 + 1, 0, none⟩ (.int .i64 m.epoch)).setCell ⟨w.heap.size + 1 + 1, 1, none⟩ (.slice a5 (m.words.length + 1) c5) = V at *
      have q0 := ((dUnhide ZZ).2 0 _ rfl).1
      have q1 := ((dUnhide ZZ).2 1 _ rfl).1
      refine bodyPost_ret (v := .tuple #[.agg #[.int .i64 m.epoch, .slice a5 (m.words.length + 1) c5], .int .i64 ((m.words.length : Int) + 1), .bool true]) (by simp [results, Tryz.results75, go_sem, q0, q1]) rfl ⟨⟨_, rfl, ((dUnhide NV).below (Below.refl _ _).drew).mono (by omega)⟩, (dUnhide BB).drew⟩
end Go.Proofs.YthndkkjgjhgdnaaGreatDoor
namespace Go.Proofs.YthndkkjgjhgdnaaGreatDoor
open Go.ChangeShapes Go.WideShapes Go.ChangeAt Go.RowKit
set_option linter.unusedVariables false
set_option linter.unusedSimpArgs false
set_option maxRecDepth 100000

/-- Words in memory of their own, each list apart. -/
def WPs (w : World) (base : Nat) (v : Value) (rs : List (Nst Wd)) : Prop :=
  ApR 82 3 wdCl w base v rs ∧ (∀ p ∈ rs, OwnN w base (Sv Wd.acks p) p.m.acks) ∧
    (∀ i j (hi : i < rs.length) (hj : j < rs.length), i ≠ j → rs[i].m.acks = [] ∨ rs[j].m.acks = [] ∨ blockOf (Sv Wd.acks rs[i]) ≠ blockOf (Sv Wd.acks rs[j])) ∧ ∀ i (hi : i < rs.length), rs[i].m.acks = [] ∨ touch v ≠ some (blockOf (Sv Wd.acks rs[i]))
theorem WAp.ps {w : World} {base : Nat} {v : Value} {ms : List Wd} (h : WAp w base v ms) : ∃ rs, rs.map Nst.m = ms ∧ WPs w base v rs := h
theorem WPs.ap {w : World} {base : Nat} {v : Value} {rs : List (Nst Wd)} (h : WPs w base v rs) : WAp w base v (rs.map Nst.m) := ⟨rs, rfl, h⟩
theorem WPs.below {w w' : World} {base : Nat} {v : Value} {rs : List (Nst Wd)} (h : WPs w base v rs) (hb : Below w.heap.size w w') : WPs w' base v rs := by
  obtain ⟨h2, h3, h4⟩ := h
  exact ⟨h2.below hb, fun p hp => (h3 p hp).below hb, h4⟩
theorem WPs.mono {w : World} {base base' : Nat} {v : Value} {rs : List (Nst Wd)} (h : WPs w base v rs) (hb : base' ≤ base) : WPs w base' v rs := by
  obtain ⟨h2, h3, h4⟩ := h
  exact ⟨h2.mono hb, fun p hp => (h3 p hp).mono hb, h4⟩
/-- A row that has words begins a block. -/
theorem WPs.head {w : World} {base : Nat} {v : Value} {rs : List (Nst Wd)} (h : WPs w base v rs) (hk : 0 < rs.length) : ∃ g cap, v = .slice (some ⟨g, 0, none⟩) rs.length cap ∧ rs.length ≤ cap ∧ base ≤ g ∧ g < w.heap.size ∧ touch v = some g := by
  rcases h.1 with ⟨h', -⟩ | h'
  · subst h'; simp at hk
  · rcases h'.2 with ⟨-, h0⟩ | ⟨g, cap, cur, rfl, hb, hg, hnc, -⟩
    · omega
    · have hc : cap ≠ 0 := by omega
      exact ⟨g, cap, rfl, hnc, hb, (Array.getElem?_eq_some_iff.1 hg).1, by simp [touch, hc]⟩
/-- The cells of one word of such a row. -/
theorem WPs.cells {w : World} {base g n cap : Nat} {rs : List (Nst Wd)} (h : WPs w base (.slice (some ⟨g, 0, none⟩) n cap) rs) {k : Nat} (hk : k < rs.length) : (w.cell? ⟨g, k * 3, none⟩ = some (.string rs[k].m.data) ∧ w.cell? ⟨g, k * 3 + 1, none⟩ = some (.slice rs[k].a rs[k].m.acks.length rs[k].c) ∧ w.cell? ⟨g, k * 3 + 2, none⟩ = some (.bool rs[k].m.done)) ∧ w.frozen? ⟨g, k * 3 + 1, none⟩ = false ∧ w.frozen? ⟨g, k * 3 + 2, none⟩ = false := by
  obtain ⟨-, a, c, e, -, hc⟩ := ApR.own elemW h.1
  simp only [Value.slice.injEq] at e
  obtain ⟨b, off, ea, -, hce⟩ := orR_of_lt hc hk
  have eb : (⟨b, off, none⟩ : Addr) = ⟨g, 0, none⟩ := by have := e.1; rw [ea] at this; exact (Option.some.inj this).symm
  cases eb
  have q0 := hce k hk 0 _ rfl
  have q1 := hce k hk 1 _ rfl
  have q2 := hce k hk 2 _ rfl
  simp only [Nat.zero_add, Nat.add_zero, Sv] at q0 q1 q2
  exact ⟨⟨q0.1, q1.1, q2.1⟩, q1.2, q2.2⟩
/-- One word has other nodes: in memory of their own, or where its own were. -/
theorem WPs.upd {w w2 : World} {base g n cap k : Nat} {rs : List (Nst Wd)} {row : Option Nat} (h : WPs w base (.slice (some ⟨g, 0, none⟩) n cap) rs) (hk : k < rs.length) (hg : w.grownBy w2 row) (hrow : row = none ∨ (rs[k].m.acks ≠ [] ∧ row = some (blockOf (Sv Wd.acks rs[k])))) (p : Nst Wd) (ho : OwnN w2 base (Sv Wd.acks p) p.m.acks)
    (hpb : p.m.acks = [] ∨ (rs[k].m.acks ≠ [] ∧ blockOf (Sv Wd.acks p) = blockOf (Sv Wd.acks rs[k])) ∨ w.heap.size ≤ blockOf (Sv Wd.acks p)) (hd : p.m.data = rs[k].m.data) (hdn : p.m.done = rs[k].m.done) : WPs (w2.setCell ⟨g, k * 3 + 1, none⟩ (Sv Wd.acks p)) base (.slice (some ⟨g, 0, none⟩) n cap) (rs.set k p) := by
  obtain ⟨g', cap', e, hcap, hgb, hgl, ht⟩ := h.head (by omega)
  simp only [Value.slice.injEq, Option.some.injEq, Addr.mk.injEq, and_true] at e
  obtain ⟨rfl, -, rfl⟩ := e
  obtain ⟨h2, h3, h4, h5⟩ := h
  rw [ht] at h5
  have hr1 : row = none ∨ touch (.slice (some ⟨g, 0, none⟩) n cap) ≠ row := by
    rcases hrow with h | ⟨h, h'⟩
    · exact .inl h
    · right
      rw [ht, h']
      exact (h5 k hk).resolve_left h
  have at_ : ∀ i (hi : i < (rs.set k p).length) (hi' : i < rs.length), i ≠ k → (rs.set k p)[i] = rs[i] := fun i hi hi' hne => List.getElem_set_ne (Ne.symm hne) _
  have atk : ∀ (hi : k < (rs.set k p).length), (rs.set k p)[k] = p := fun hi => List.getElem_set_self _
  have lt : ∀ i (hi : i < rs.length), rs[i].m.acks = [] ∨ blockOf (Sv Wd.acks rs[i]) < w.heap.size := fun i hi => (h3 _ (List.getElem_mem hi)).bs.lt
  have gp : p.m.acks = [] ∨ some g ≠ some (blockOf (Sv Wd.acks p)) := by
    rcases hpb with h | ⟨h, h'⟩ | h
    · exact .inl h
    · right; rw [h']; exact (h5 k hk).resolve_left h
    · right; intro e; have := Option.some.inj e; omega
  have pi : ∀ i (hi : i < rs.length), i ≠ k → rs[i].m.acks = [] ∨ p.m.acks = [] ∨ blockOf (Sv Wd.acks rs[i]) ≠ blockOf (Sv Wd.acks p) := fun i hi hne => by
    rcases hpb with h | ⟨h, h'⟩ | h
    · exact .inr (.inl h)
    · rcases h4 i k hi hk hne with q | q | q
      · exact .inl q
      · exact absurd q h
      · exact .inr (.inr (by rw [h']; exact q))
    · rcases lt i hi with q | q
      · exact .inl q
      · exact .inr (.inr (by omega))
  refine ⟨?_, fun q hq => ?_, fun i j hi hj hij => ?_, fun i hi => ?_⟩
  · exact ApR.storeW (j := 1) (h2.kept elemW hg hr1) hk (by decide) _ p (by unfold wdCl; rw [hd, hdn]; rfl)
  · obtain ⟨i, hi, rfl⟩ := List.mem_iff_getElem.1 hq
    have hi2 : i < rs.length := by rw [List.length_set] at hi; exact hi
    by_cases e : i = k
    · subst e
      rw [atk hi]
      exact ho.grown (grown_set w2 g (i * 3 + 1) _) gp
    · rw [at_ i hi hi2 e]
      refine ((h3 _ (List.getElem_mem hi2)).grown hg ?_).grown (grown_set w2 g (k * 3 + 1) _) (h5 i hi2)
      rcases hrow with h | ⟨h, h'⟩
      · right; rw [h]; simp
      · rcases h4 i k hi2 hk e with q | q | q
        · exact .inl q
        · exact absurd q h
        · right; rw [h']; intro e'; exact q (Option.some.inj e').symm
  · have hi2 : i < rs.length := by rw [List.length_set] at hi; exact hi
    have hj2 : j < rs.length := by rw [List.length_set] at hj; exact hj
    by_cases e : i = k
    · subst e
      simp only [atk, at_ j hj hj2 (Ne.symm hij)]
      rcases pi j hj2 (Ne.symm hij) with q | q | q
      · exact .inr (.inl q)
      · exact .inl q
      · exact .inr (.inr (Ne.symm q))
    · by_cases e2 : j = k
      · subst e2
        simp only [atk, at_ i hi hi2 e]
        exact pi i hi2 e
      · simp only [at_ i hi hi2 e, at_ j hj hj2 e2]
        exact h4 i j hi2 hj2 hij
  · have hi2 : i < rs.length := by rw [List.length_set] at hi; exact hi
    rw [ht]
    by_cases e : i = k
    · subst e; simp only [atk]; exact gp
    · simp only [at_ i hi hi2 e]; exact h5 i hi2
/-- One word is done, or open. -/
theorem WPs.done {w : World} {base g n cap k : Nat} {rs : List (Nst Wd)} (h : WPs w base (.slice (some ⟨g, 0, none⟩) n cap) rs) (hk : k < rs.length) (x : Bool) : WPs (w.setCell ⟨g, k * 3 + 2, none⟩ (.bool x)) base (.slice (some ⟨g, 0, none⟩) n cap) (rs.set k ⟨rs[k].a, rs[k].c, ⟨rs[k].m.data, rs[k].m.acks, x⟩⟩) := by
  obtain ⟨g', cap', e, hcap, hgb, hgl, ht⟩ := h.head (by omega)
  simp only [Value.slice.injEq, Option.some.injEq, Addr.mk.injEq, and_true] at e
  obtain ⟨rfl, -, rfl⟩ := e
  obtain ⟨h2, h3, h4, h5⟩ := h
  have ev : ∀ i (hi : i < (rs.set k ⟨rs[k].a, rs[k].c, ⟨rs[k].m.data, rs[k].m.acks, x⟩⟩).length) (hi' : i < rs.length), (rs.set k ⟨rs[k].a, rs[k].c, ⟨rs[k].m.data, rs[k].m.acks, x⟩⟩)[i].m.acks = rs[i].m.acks ∧ Sv Wd.acks (rs.set k ⟨rs[k].a, rs[k].c, ⟨rs[k].m.data, rs[k].m.acks, x⟩⟩)[i] = Sv Wd.acks rs[i] := fun i hi hi' => by
    rw [List.getElem_set]
    by_cases e : i = k
    · subst e; rw [if_pos rfl]; exact ⟨rfl, rfl⟩
    · rw [if_neg (Ne.symm e)]; exact ⟨rfl, rfl⟩
  refine ⟨ApR.storeW (j := 2) h2 hk (by decide) _ ⟨rs[k].a, rs[k].c, ⟨rs[k].m.data, rs[k].m.acks, x⟩⟩ rfl, fun q hq => ?_, fun i j hi hj hij => ?_, fun i hi => ?_⟩
  · obtain ⟨i, hi, rfl⟩ := List.mem_iff_getElem.1 hq
    have hi2 : i < rs.length := by rw [List.length_set] at hi; exact hi
    rw [(ev i hi hi2).1, (ev i hi hi2).2]
    have q := h5 i hi2
    rw [ht] at q
    exact (h3 _ (List.getElem_mem hi2)).grown (grown_set w g (k * 3 + 2) _) q
  · have hi2 : i < rs.length := by rw [List.length_set] at hi; exact hi
    have hj2 : j < rs.length := by rw [List.length_set] at hj; exact hj
    rw [(ev i hi hi2).1, (ev i hi hi2).2, (ev j hj hj2).1, (ev j hj hj2).2]
    exact h4 i j hi2 hj2 hij
  · have hi2 : i < rs.length := by rw [List.length_set] at hi; exact hi
    rw [(ev i hi hi2).1, (ev i hi hi2).2]
    exact h5 i hi2
/-- Where a block is written that is none of theirs. -/
theorem WPs.put {w : World} {base b o : Nat} {v : Value} {rs : List (Nst Wd)} (h : WPs w base v rs) (ht : touch v ≠ some b) (hb : ∀ p ∈ rs, p.m.acks = [] ∨ blockOf (Sv Wd.acks p) ≠ b) (u : Value) : WPs (w.setCell ⟨b, o, none⟩ u) base v rs := by
  obtain ⟨h2, h3, h4, h5⟩ := h
  refine ⟨h2.put elemW ht u, fun p hp => (h3 p hp).grown (grown_set w b o u) ?_, h4, h5⟩
  rcases hb p hp with h | h
  · exact .inl h
  · exact .inr fun e => h (Option.some.inj e).symm
end Go.Proofs.YthndkkjgjhgdnaaGreatDoor
