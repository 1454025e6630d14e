/- Several texts in one: PrK, PrL, PrM, PrN, PvJ, Q17J, L17WR. -/
import Derived.Test.YtioocibgfhgkhaaGreatDoorHr1
import Derived.Test.YtioocibgfhgkhaaGreatDoorHs1
import Derived.Test.YtioocibgfhgkhaaGreatDoorGaG
import Derived.Deep.RegionHeld3
import Derived.Deep.DeepCutAuto
import Derived.Test.YtioocibgfhgkhaaGreatDoorHj1
import Derived.Test.YtioocibgfhgkhaaGreatDoorHw2
import Derived.Test.YtioocibgfhgkhaaGreatDoorOpenW
import Derived.Test.YtioocibgfhgkhaaGreatDoorHy1
namespace Go.Proofs.YtioocibgfhgkhaaGreatDoor
open Go.ChangeShapes Go.WideShapes Go.ChangeAt Go.RowKit
set_option linter.unusedVariables false
set_option linter.unusedSimpArgs false
set_option maxRecDepth 100000

theorem BxZ.wrZ {W W' : World} {B b ab : Nat} {vs : List Value} (h : BxZ W B b vs) (hw : Wr ab (ab + 2) W W') (hb : ab + 2 ≤ b) : BxZ W' B b vs :=
  ⟨h.1, fun i u hu => ⟨(World.cell?_of_block (a := ⟨b, i, none⟩) (hw.block _ (dCell_lt (h.2 i u hu).1) (.inr hb))).trans (h.2 i u hu).1, (World.frozen?_of_block (a := ⟨b, i, none⟩) (hw.block _ (dCell_lt (h.2 i u hu).1) (.inr hb))).trans (h.2 i u hu).2⟩⟩
theorem OwnN.wr17 {lo hi base : Nat} {w w' : World} {v : Value} {xs : List Int} (h : OwnN w base v xs) (hd : Wr lo hi w w') (hb : hi ≤ base) : OwnN w' base v xs := OwnN.farO base v xs w w' h hd.size (fun k h1 h2 => hd.block k h2 (.inr (by omega)))
set_option maxHeartbeats 8000000 in
theorem listOfI2_any (ab : Nat) (v : Value) (bs : List UInt8) (q : Nat) (ok : Bool) (w : World) (hc : Rc w ab v q ok) (HV : ∀ W, Wr ab (ab + 2) w W → Bs W v bs) (hl : bs.length ≤ 1048576) (hq : q ≤ bs.length) (hne : bs = [] ∨ blockOf v ≠ ab) :
    Calls Tryz.prog 103 #[.pointer (some ⟨ab + 1, 0, none⟩), .func (.func 76) #[.pointer (some ⟨ab + 1, 0, none⟩)] #[]] w fun e w' => ∃ u xs, e = .returned u ∧ OwnN w' w.heap.size u xs ∧ (xs.length ≤ bs.length ∧ allInt xs) ∧ ((rdL bs q ok).2.2 = true → xs = (rdL bs q ok).1) ∧ Rc w' ab v (rdL bs q ok).2.1 (rdL bs q ok).2.2 ∧ Wr ab (ab + 2) w w' := by
  have hab := hc.lt
  have HV := dHide HV
  have CN := dHide fun q ok W (hd : Wr ab (ab + 2) w W) (hc : Rc W ab v q ok) => number_any ab v bs q ok W hc (dUnhide HV W hd) hne
  have C1 := dHide (dUnhide CN q ok w (Wr.refl _ _ _) hc)
  have HS : Hid ((rdN bs q ok).2.1 ≤ bs.length ∧ (∀ x : Int, ((rdN bs q ok).2.2 = true → x = (rdN bs q ok).1) → (rdN bs q ok).2.2 = true → rdL bs q ok = rdK bs x.toNat (rdN bs q ok).2.1 true) ∧ ((rdN bs q ok).2.2 = false → (rdL bs q ok).2.2 = false) ∧ ((rdN bs q ok).2.2 = true → 1 ≤ (rdN bs q ok).2.1)) := by
    refine ⟨rdN_le bs q ok hq, fun x hx h => ?_, fun h => ?_, fun h => by have := (rdN_go ok hq).2.2 h; omega⟩
    · rw [hx h]; unfold rdL; rw [h]
    · unfold rdL; rw [h, rdK_off]
  generalize rdN bs q ok = R at *
  generalize rdL bs q ok = L at *
  obtain ⟨nI, q1, ok1⟩ := R
  obtain ⟨hq1, hL1, hL0, hq2⟩ := dUnhide HS
  simp only at hq1 hL1 hL0 hq2 C1
  have HL1 := dHide hL1
  have HL0 := dHide hL0
  clear hc HS hq hL1 hL0
  go_enter Tryz.func103, Tryz.ntmps103
  go_wp2_with fail
  refine (dUnhide C1).mono ?_
  rintro e w1 ⟨x, rfl, ⟨hx0, hx1⟩, hx, hc1, hd1⟩
  obtain ⟨n, rfl⟩ := Int.eq_ofNat_of_zero_le hx0
  have E1 : Hid (ok1 = true → L = rdK bs n q1 true) := fun h => dUnhide HL1 (n : Int) hx h
  have E0 := HL0
  have hs1 := hd1.size
  have HC1 := dHide hc1
  have HD1 := dHide hd1
  clear HL1 HL0 hx hc1 hd1 C1
  go_wp2
  go_loopw [5, 6] (fun ov xv wr => ∃ (k : Nat) (xs : List Int) (p : Nat) (okb : Bool), xv = .int .i64 ((n : Int) - (k : Int)) ∧ xs.length = k ∧ k ≤ n ∧ k ≤ bs.length ∧ (okb = true → k + 1 ≤ p) ∧ p ≤ bs.length ∧ Hid (okb = true → L = (xs ++ (rdK bs (n - k) p true).1, (rdK bs (n - k) p true).2)) ∧ Hid (okb = false → L.2.2 = false) ∧ wr.ownsRow w1.heap.size 3 1 ov xs.length (ncells xs) ∧ Hid (Rc wr ab v p okb) ∧ Hid (Wr ab (ab + 2) w wr) ∧ w1.heap.size ≤ wr.heap.size ∧ Hid (∀ x ∈ xs, 0 ≤ x ∧ x ≤ 9223372036854775807)) (fun _ xv _ => (intOf xv).toNat)
  case atStart => exact ⟨0, [], q1, ok1, by simp, rfl, Nat.zero_le _, Nat.zero_le _, hq2, hq1, by simpa [Hid] using dUnhide E1, E0, by simpa [ncells] using World.ownsRow_nil w1 w1.heap.size 3 1, HC1, HD1, Nat.le_refl _, fun x hx => by cases hx⟩
  case round =>
    clear HC1 HD1 E1 E0
    obtain ⟨k, xs, p, okb, rfl, hxl, hkn, hkb, hkp, hp, HK, HZ, hown, HC, HD, hsz, HAL⟩ := hrel
    obtain ⟨p2, k2⟩ := (dUnhide HC).cell2
    have GO : Hid ((okb = true → k = n) → (∃ u xs, Ending.returned u5 = .returned u ∧ OwnN wr w.heap.size u xs ∧ (xs.length ≤ bs.length ∧ allInt xs) ∧ (L.2.2 = true → xs = L.1) ∧ Rc wr ab v L.2.1 L.2.2 ∧ Wr ab (ab + 2) w wr)) := by
      intro e
      cases okb with
      | true =>
        have e2 : L = (xs, p, true) := by
          have := dUnhide HK rfl
          rw [e rfl, Nat.sub_self, rdK_zero] at this
          simpa using this
        rw [e2]
        exact ⟨_, xs, rfl, (ownN_of_row hown).mono hs1, ⟨by omega, fun x hx => by have := dUnhide HAL x hx; omega⟩, fun _ => rfl, dUnhide HC, dUnhide HD⟩
      | false =>
        have e2 := dUnhide HZ rfl
        obtain ⟨L1, L2, L3⟩ := L
        simp only at e2
        subst e2
        obtain ⟨pp, yy, hr⟩ := (dUnhide HC).isNo
        exact ⟨_, xs, rfl, (ownN_of_row hown).mono hs1, ⟨by omega, fun x hx => by have := dUnhide HAL x hx; omega⟩, fun h => (by cases h), Rc.no hr, dUnhide HD⟩
    by_cases hlt : (0 : Int) < (n : Int) - (k : Int)
    · cases okb
      · have G := dHide (dUnhide GO (fun h => (by cases h)))
        simp only [Bool.false_eq_true, if_false] at k2
        unfold wrg at k2
        clear GO HK HZ HC HD CN HV
        go_wp2
        go_ret
        exact dUnhide G
      · simp only [if_true] at k2
        have hkp2 : k + 1 ≤ p := hkp rfl
        have C2 := dHide (dUnhide CN p true wr (dUnhide HD) (dUnhide HC))
        have HS : Hid ((0 ≤ (rdN bs p true).1 ∧ (rdN bs p true).1 ≤ 9223372036854775807) ∧ p ≤ (rdN bs p true).2.1 ∧ (rdN bs p true).2.1 ≤ bs.length ∧ ((rdN bs p true).2.2 = true → p + 1 ≤ (rdN bs p true).2.1)) := rdN_step hp
        obtain ⟨j, hj⟩ : ∃ j, n - k = j + 1 := ⟨n - k - 1, by omega⟩
        have hj2 : n - (k + 1) = j := by omega
        have HK2 : Hid (L = (xs ++ [(rdN bs p true).1] ++ (rdK bs j (rdN bs p true).2.1 (rdN bs p true).2.2).1, (rdK bs j (rdN bs p true).2.1 (rdN bs p true).2.2).2)) := by
          have := dUnhide HK rfl
          rw [hj, rdK_succ] at this
          rw [Hid, this]
          simp
        generalize rdN bs p true = R at *
        obtain ⟨y, p', ok'⟩ := R
        obtain ⟨hy, hpp, hpl, hpk⟩ := dUnhide HS
        simp only at hy hpp hpl hpk HK2 C2
        have HK3 : Hid (∀ y' : Int, (ok' = true → y' = y) → (ok' = true → L = (xs ++ [y'] ++ (rdK bs j p' true).1, (rdK bs j p' true).2)) ∧ (ok' = false → L.2.2 = false)) := fun y' h' => by
          refine ⟨fun h => ?_, fun h => ?_⟩
          · rw [h' h, dUnhide HK2, h]
          · rw [dUnhide HK2, h, rdK_off]
        have HO := dHide hown
        clear GO HK HK2 HZ HS CN HV HC hown
        go_wp2_with fail
        refine (dUnhide C2).mono ?_
        rintro e w3 ⟨y', rfl, hyb, hye, hc3, hd3⟩
        have HK4 := dHide (dUnhide HK3 y' hye)
        have HYB := dHide hyb
        have ho3 := own_wr17 (dUnhide HO) hd3 (by omega)
        clear C2 HO k2 HK3 hye
        have hlt' := ho3.lt
        have HC3 := dHide hc3
        have HD3 := dHide ((dUnhide HD).trans hd3)
        have hs3 := hd3.size
        have ba3 : ∀ o, Below w3.heap.size w3 (w3.alloc o) := fun o => (Below.refl _ _).alloc (Nat.le_refl _) o
        clear hc3 hd3 HD
        go_wp2_with (at_builtin; refine appN _ rfl _ _ rfl w1.heap.size _ xs rfl (ho3.alloc _) ⟨w3.heap.size, 0, none⟩ 1 1 [y'] rfl rfl (one_int _ _ _) ?c3 ?c4 ?_)
        case c3 => simp; omega
        case c4 => simp; omega
        intro v' w4 hown' hgrow
        have hs4 : w1.heap.size ≤ w4.heap.size := by have := hgrow.size; simp at this; omega
        have HC4 := dHide (Rc.wr (Rc.below (dUnhide HC3) (ba3 (.cells #[.int .i64 y'] 3))) hgrow (fun e => by have := (hlt' _ e).1; omega) (fun e => by have := (hlt' _ e).1; omega))
        have HD4 := dHide (((dUnhide HD3).trans (Wr.of_below (ba3 (.cells #[.int .i64 y'] 3)))).grown hgrow (fun k hk => by have := (hlt' k hk).1; omega))
        have hown4 := own_lenN hown'
        clear ho3 hown' hgrow hlt' HC3 HD3
        go_wp2
        go_roundw
        case rel => exact ⟨k + 1, xs ++ [y'], p', ok', by go_num, by simp [hxl], by omega, by omega, fun h => by have := hpk h; omega, hpl, by rw [hj2]; exact (dUnhide HK4).1, (dUnhide HK4).2, hown4, HC4, HD4, hs4, fun x hx => by
          rcases List.mem_append.1 hx with hx | hx
          · exact dUnhide HAL x hx
          · obtain rfl : x = y' := by simpa using hx
            exact dUnhide HYB⟩
        case measure => simp [intOf]; omega
    · have G := dHide (dUnhide GO (fun h => by omega))
      clear GO HK HZ HC HD CN HV
      go_wp2
      go_ret
      obtain ⟨u, xs, ga, gb⟩ := dUnhide G
      exact ⟨u, ga, xs, gb⟩
end Go.Proofs.YtioocibgfhgkhaaGreatDoor
namespace Go.Proofs.YtioocibgfhgkhaaGreatDoor
open Go.ChangeShapes Go.WideShapes Go.ChangeAt Go.RowKit
set_option linter.unusedVariables false
set_option linter.unusedSimpArgs false
set_option maxRecDepth 100000

theorem Rc.newX {W W' : World} {ab q b B : Nat} {v : Value} {ok : Bool} (h : Rc W ab v q ok) (hb : ab + 2 ≤ b) (g : ∀ k, k ≠ b → W'.heap[k]? = W.heap[k]?) (hs : W'.heap.size = W.heap.size) (hB : Below B W W') : Rc W' ab v q ok :=
  h.wr (row := some b) ⟨hB.os, hB.tape, hB.output, by rw [hs]; exact Nat.le_refl _, fun k hk hn => g k (by rintro rfl; exact hn rfl)⟩ (by intro e; simp only [Option.some.injEq] at e; omega) (by intro e; simp only [Option.some.injEq] at e; omega)
set_option maxHeartbeats 4000000 in
theorem word_any (ab : Nat) (v : Value) (bs : List UInt8) (q : Nat) (ok : Bool) (w : World) (ds : List Int) (cop : Int) (ca : Option Addr) (cc : Nat) (hc : Rc w ab v q ok) (HV : ∀ W, Wr ab (ab + 2) w W → Bs W v bs) (HN : ∀ W, Wr ab (ab + 2) w W → Ns W (.slice ca ds.length cc) ds) (had : allInt ds) (hld : ds.length ≤ 1048576) (c0 : -9223372036854775808 ≤ cop) (c1 : cop ≤ 9223372036854775807) (hl : bs.length ≤ 1048576) (hq : q ≤ bs.length) (hne : bs = [] ∨ blockOf v ≠ ab) :
    Calls Tryz.prog 92 #[.pointer (some ⟨ab + 1, 0, none⟩), .agg #[.slice ca ds.length cc, .int .i64 cop]] w fun e w' => ∃ m : Nst Wd, e = .returned (.agg #[.string m.m.data, .slice m.a m.m.acks.length m.c, .bool m.m.done]) ∧ OwnN w' w.heap.size (Sv Wd.acks m) m.m.acks ∧ ((rdWd ds cop bs q ok).2.2 = true → m.m = (rdWd ds cop bs q ok).1) ∧ Rc w' ab v (rdWd ds cop bs q ok).2.1 (rdWd ds cop bs q ok).2.2 ∧ Wr ab (ab + 2) w w' := by
  have hab := hc.lt
  have ba : ∀ (w : World) o, Below w.heap.size w (w.alloc o) := fun w o => (Below.refl _ _).alloc (Nat.le_refl _) o
  have i1 : (w.alloc (.cells #[.slice ca ds.length cc, .int .i64 cop] 32)).heap.size = w.heap.size + 1 := by simp
  have B0 := belowThen (ba w (.cells #[.slice ca ds.length cc, .int .i64 cop] 32)) (ba _ (.cells #[.string ⟨#[]⟩, .slice none 0 0, .bool false] 72))
  have G0 := (BxZ.new (B := w.heap.size) w [.slice ca ds.length cc, .int .i64 cop] 32 (Nat.le_refl _)).below (ba _ (.cells #[.string ⟨#[]⟩, .slice none 0 0, .bool false] 72))
  have Z0 := BxZ.new (B := w.heap.size) (w.alloc (.cells #[.slice ca ds.length cc, .int .i64 cop] 32)) [.string ⟨#[]⟩, .slice none 0 0, .bool false] 72 (by omega)
  rw [i1] at Z0
  have HV := dHide HV
  have HN := dHide HN
  have CT := dHide fun W (hd : Wr ab (ab + 2) w W) (hc : Rc W ab v q ok) => data_any ab v bs q ok W hc (dUnhide HV W hd) (by omega) hne
  have CL := dHide fun W (hd : Wr ab (ab + 2) w W) (hc : Rc W ab v (rdT bs q ok).2.1 (rdT bs q ok).2.2) => listOfI2_any ab v bs _ _ W hc (fun W' hW' => dUnhide HV W' (hd.trans hW')) hl (rdT_go (bs := bs) ok hq).2.1 hne
  have CH := dHide fun W u xs (h1 : Ns W (.slice ca ds.length cc) ds) (h2 : Ns W u xs) (h3 : allInt xs) (h4 : xs.length ≤ 1048576) => implHolds_any _ u ds xs cop W h1 h2 had h3 hld h4 c0 c1
  have W0 := Wr.of_below (lo := ab) (hi := ab + 2) B0
  have hs0 : ((w.alloc (.cells #[.slice ca ds.length cc, .int .i64 cop] 32)).alloc (.cells #[.string ⟨#[]⟩, .slice none 0 0, .bool false] 72)).heap.size = w.heap.size + 2 := by simp
  have V0 := Wr.refl ab (ab + 2) ((w.alloc (.cells #[.slice ca ds.length cc, .int .i64 cop] 32)).alloc (.cells #[.string ⟨#[]⟩, .slice none 0 0, .bool false] 72))
  have K1 : Hid ((rdL bs (rdT bs q ok).2.1 (rdT bs q ok).2.2).2.2 = true → (rdT bs q ok).2.2 = true) := rdL_was
  obtain ⟨BB, hB1, hB2, EE⟩ := rdWd_eq ds cop bs q ok
  replace EE := dHide EE
  generalize rdWd ds cop bs q ok = RE at *
  generalize (rdL bs (rdT bs q ok).2.1 (rdT bs q ok).2.2) = N2 at *
  generalize (rdT bs q ok) = N1 at *
  have eE := dUnhide EE
  subst eE
  obtain ⟨td, p1, o1⟩ := N1
  obtain ⟨ns, p2, o2⟩ := N2
  simp only at CT CL K1 hB1 hB2 ⊢
  have HB : Hid (∀ b : Bool, RetB (holdsP ds cop ns) (.returned (.bool b)) → b = BB) := fun b h => by
    by_cases hh : holdsP ds cop ns
    · rw [hB1 hh]
      have := h.of_yes hh
      simpa using this
    · rw [hB2 hh]
      have := h.of_no hh
      simpa using this
  have hc0 := hc.below B0
  clear EE hc i1 hB1 hB2
  go_enter Tryz.func92, Tryz.ntmps92
  go_upto_region 1 with fail
  generalize (w.alloc (.cells #[.slice ca ds.length cc, .int .i64 cop] 32)).alloc (.cells #[.string ⟨#[]⟩, .slice none 0 0, .bool false] 72) = w0 at *
  have D1 := dHide (dUnhide CT w0 W0 hc0)
  clear CT hc0
  go_wp2_with fail
  refine (dUnhide D1).mono ?_
  rintro e w1 ⟨x, rfl, hxb, hx, hc1, hw1⟩
  have W1 := W0.trans hw1
  have V1 := V0.trans hw1
  have hs1 := hw1.size
  have D2 := dHide (dUnhide CL w1 W1 hc1)
  have HX := dHide hx
  clear D1 CL hc1 hw1 hx
  go_wp2_with fail
  refine (dUnhide D2).mono ?_
  rintro e w2 ⟨u, xs, rfl, O2, ⟨hxl, hxa⟩, hx1, hc2, hw2⟩
  have W2 := W1.trans hw2
  have V2 := V1.trans hw2
  have hs2 := hw2.size
  obtain ⟨-, ua, uc, rfl, -⟩ := O2.bs
  have HNB := dHide O2.ne17
  have b3 := ba w2 (.cells #[.string x, .slice ua xs.length uc, .bool false] 72)
  have Y3 := BxZ.new (B := w.heap.size) w2 [.string x, .slice ua xs.length uc, .bool false] 72 (by have := W2.size; omega)
  have G3 := (G0.wrZ V2 hab).below b3
  have Z3 := (Z0.wrZ V2 (by omega)).below b3
  have W3 := W2.trans (Wr.of_below (lo := ab) (hi := ab + 2) b3)
  have O3 := O2.below b3
  have hc3 := hc2.below b3
  have hs3 : (w2.alloc (.cells #[.string x, .slice ua xs.length uc, .bool false] 72)).heap.size = w2.heap.size + 1 := by simp
  have D3 := dHide (dUnhide CH _ (.slice ua xs.length uc) xs (dUnhide HN _ W3) O3.bs hxa (by omega))
  have g0 := (G3.2 0 _ rfl).1
  have g1 := (G3.2 1 _ rfl).1
  have y1 := (Y3.2 1 _ rfl).1
  have HX1 := dHide hx1
  have HY3 := dHide Y3
  have HZ3 := dHide Z3
  have HW3 := dHide W3
  have HO3 := dHide O3
  have HC3 := dHide hc3
  clear D2 hc2 hw2 hx1 W0 W1 W2 V0 V1 V2 O2 G0 Z0 b3 G3 Y3 Z3 W3 O3 hc3 HV HN CH B0
  go_wp2_with fail
  generalize w2.alloc (.cells #[.string x, .slice ua xs.length uc, .bool false] 72) = w3 at *
  refine (dUnhide D3).mono ?_
  rintro e w4 ⟨⟨b, rfl, hr⟩, b4⟩
  have HR : Hid (RetB (holdsP ds cop xs) (.returned (.bool b))) := ⟨b, rfl, hr⟩
  have hs4 := b4.size
  have Y4 := (dUnhide HY3).below b4
  obtain ⟨g2, f2⟩ := Y4.2 2 _ rfl
  have Y5 := Y4.put 2 (.bool b)
  have Z5 := ((dUnhide HZ3).below b4).far (b' := w2.heap.size) (o := 2) (by omega) (.bool b)
  have W4 := (dUnhide HW3).trans (Wr.of_below (lo := ab) (hi := ab + 2) b4)
  have gg : ∀ k, k ≠ w2.heap.size → (w4.setCell ⟨w2.heap.size, 2, none⟩ (.bool b)).heap[k]? = w4.heap[k]? := fun k hk => Below.heap_setCell _ _ _ k (by simp only; omega)
  have hs5 : (w4.setCell ⟨w2.heap.size, 2, none⟩ (.bool b)).heap.size = w4.heap.size := by simp
  have b5 : Below w.heap.size w4 (w4.setCell ⟨w2.heap.size, 2, none⟩ (.bool b)) := Below.setCell (p := ⟨w2.heap.size, 2, none⟩) (Below.refl _ _) (by simp only; omega) (.bool b)
  have W5 := dHide (Wr.new W4 (b := w2.heap.size) (by omega) gg hs5 b5)
  have C5 := dHide (Rc.newX ((dUnhide HC3).below b4) (b := w2.heap.size) (by omega) gg hs5 b5)
  have O5 : Hid (OwnN (w4.setCell ⟨w2.heap.size, 2, none⟩ (.bool b)) w1.heap.size (.slice ua xs.length uc) xs) := ((dUnhide HO3).below b4).setNe17 (dUnhide HNB) (o := 2) (.bool b)
  have m0 := (Y5.2 0 _ rfl).1
  have m1 := (Y5.2 1 _ rfl).1
  have m2 := (Y5.2 2 _ rfl).1
  clear D3 HY3 HZ3 HW3 HC3 HO3 g0 g1 y1 Y4 W4 b4 b5 gg hr Y5
  go_wp2_with (refine wp_putW rfl _ _ _ rfl rfl [.string x, .slice ua xs.length uc, .bool b] rfl rfl Z5 rfl (by kernel_rfl) (by kernel_rfl) ?_; intro w6 Y6 s6 g6 b6)
  refine bodyPost_ret (results_box Tryz.results92 _ _ _ [.string x, .slice ua xs.length uc, .bool b] _ rfl Y6.bx Tryz.underlying72 rfl (by kernel_rfl)) rfl ⟨⟨ua, uc, ⟨x, xs, b⟩⟩, rfl, ?_, fun h => ?_, ?_, (dUnhide W5).new (by omega) g6 s6 b6⟩
  · exact (OwnN.farO _ _ _ _ w6 (dUnhide O5) (by rw [s6]; exact Nat.le_refl _) (fun k h1 h2 => g6 k (by omega))).mono (by omega)
  · have h2 := dUnhide K1 h
    obtain rfl := dUnhide HX1 h
    rw [dUnhide HX h2, dUnhide HB b (dUnhide HR)]
  · exact Rc.newX (dUnhide C5) (by omega) g6 s6 b6
end Go.Proofs.YtioocibgfhgkhaaGreatDoor
namespace Go.Proofs.YtioocibgfhgkhaaGreatDoor
open Go.ChangeShapes Go.WideShapes Go.ChangeAt Go.RowKit
set_option linter.unusedVariables false
set_option linter.unusedSimpArgs false
set_option maxRecDepth 100000

theorem ApR.farW {n : Nat} {u : Value} {rs : List (Nst Wd)} {W W' : World} (h : ApR 72 3 wdCl W n u rs) (hs : W.heap.size ≤ W'.heap.size) (hk : ∀ k, n ≤ k → k < W.heap.size → W'.heap[k]? = W.heap[k]?) : ApR 72 3 wdCl W' n u rs := by
  rcases h with h | h
  · exact .inl h
  · refine .inr ?_
    rcases h.2 with h0 | ⟨g, cap, cur, h1, h2, h3, h4⟩
    · exact ⟨h.1, .inl h0⟩
    · exact ⟨h.1, .inr ⟨g, cap, cur, h1, h2, (hk g h2 (Array.getElem?_eq_some_iff.1 h3).1).trans h3, h4⟩⟩
theorem ApR.wrW {lo hi n : Nat} {u : Value} {rs : List (Nst Wd)} {W W' : World} (h : ApR 72 3 wdCl W n u rs) (hd : Wr lo hi W W') (hb : hi ≤ n) : ApR 72 3 wdCl W' n u rs := h.farW hd.size (fun k h1 h2 => hd.block k h2 (.inr (by omega)))
theorem WAp.farO (n : Nat) (u : Value) (ms : List Wd) : FarO n (fun W => WAp W n u ms) := fun W W' h hs hk => by
  obtain ⟨rs, h1, h2, h3, h4, h5⟩ := h
  exact ⟨rs, h1, h2.farW hs hk, fun p hp => OwnN.farO n _ _ W W' (h3 p hp) hs hk, h4, h5⟩
theorem WAp.wr {lo hi base : Nat} {w w' : World} {v : Value} {ms : List Wd} (h : WAp w base v ms) (hd : Wr lo hi w w') (hb : hi ≤ base) : WAp w' base v ms := WAp.farO base v ms w w' h hd.size (fun k h1 h2 => hd.block k h2 (.inr (by omega)))
/-- A list of words is read. -/
noncomputable def rdWdl (ds : List Int) (cop : Int) (bs : List UInt8) (q : Nat) (ok : Bool) : List Wd × Nat × Bool := rdWds ds cop bs (rdN bs q ok).1.toNat (rdN bs q ok).2.1 (rdN bs q ok).2.2
set_option maxHeartbeats 4000000 in
theorem writer1_any (ab : Nat) (v : Value) (bs : List UInt8) (q : Nat) (ok : Bool) (w : World) (ds : List Int) (cop : Int) (ca : Option Addr) (cc rb cb : Nat) (HN : ∀ W, Wr ab (ab + 2) w W → Ns W (.slice ca ds.length cc) ds ∧ Bx W rb [.pointer (some ⟨ab + 1, 0, none⟩)] ∧ Bx W cb [.slice ca ds.length cc, .int .i64 cop]) (had : allInt ds) (hld : ds.length ≤ 1048576) (c0 : -9223372036854775808 ≤ cop) (c1 : cop ≤ 9223372036854775807) (hc : Rc w ab v q ok) (HV : ∀ W, Wr ab (ab + 2) w W → Bs W v bs) (hl : bs.length ≤ 1048576) (hq : q ≤ bs.length) (hne : bs = [] ∨ blockOf v ≠ ab) :
    Calls Tryz.prog 91 #[.pointer (some ⟨rb, 0, none⟩), .pointer (some ⟨cb, 0, none⟩)] w fun e w' => ∃ m : Nst Wd, e = .returned (.agg #[.string m.m.data, .slice m.a m.m.acks.length m.c, .bool m.m.done]) ∧ OwnN w' w.heap.size (Sv Wd.acks m) m.m.acks ∧ ((rdWd ds cop bs q ok).2.2 = true → m.m = (rdWd ds cop bs q ok).1) ∧ Rc w' ab v (rdWd ds cop bs q ok).2.1 (rdWd ds cop bs q ok).2.2 ∧ Wr ab (ab + 2) w w' := by
  have hab := hc.lt
  have b0 : Below w.heap.size w (w.alloc (.cells #[.string ⟨#[]⟩, .slice none 0 0, .bool false] 72)) := (Below.refl _ _).alloc (Nat.le_refl _) _
  have Z0 := BxZ.new (B := w.heap.size) w [.string ⟨#[]⟩, .slice none 0 0, .bool false] 72 (Nat.le_refl _)
  have W0 := Wr.of_below (lo := ab) (hi := ab + 2) b0
  obtain ⟨-, XR, XC⟩ := HN _ W0
  have r0 := XR 0 _ rfl
  have x0 := XC 0 _ rfl
  have x1 := XC 1 _ rfl
  have CW := dHide (word_any ab v bs q ok _ ds cop ca cc (hc.below b0) (fun W' hW' => HV W' (W0.trans hW')) (fun W' hW' => (HN W' (W0.trans hW')).1) had hld c0 c1 hl hq hne)
  have hs0 : (w.alloc (.cells #[.string ⟨#[]⟩, .slice none 0 0, .bool false] 72)).heap.size = w.heap.size + 1 := by simp
  clear HN HV hc XR XC b0
  generalize rdWd ds cop bs q ok = RE at *
  go_enter Tryz.func91, Tryz.ntmps91
  go_upto_region 1 with fail
  generalize w.alloc (.cells #[.string ⟨#[]⟩, .slice none 0 0, .bool false] 72) = w0 at *
  go_wp2_with fail
  refine (dUnhide CW).mono ?_
  rintro e w1 ⟨m, rfl, O1, hm, c2, hw1⟩
  have Z1 := Z0.wrZ hw1 hab
  have W1 := dHide (W0.trans hw1)
  have HO := dHide O1
  have HM := dHide hm
  have HC := dHide c2
  have hs1 := hw1.size
  clear CW r0 x0 x1 O1 hm c2 hw1 W0 Z0
  go_wp2_with (refine wp_putW rfl _ _ _ rfl rfl [.string m.m.data, .slice m.a m.m.acks.length m.c, .bool m.m.done] rfl rfl Z1 rfl (by kernel_rfl) (by kernel_rfl) ?_; intro w6 Y6 s6 g6 b6)
  refine bodyPost_ret (results_box Tryz.results91 _ _ _ [.string m.m.data, .slice m.a m.m.acks.length m.c, .bool m.m.done] _ rfl Y6.bx Tryz.underlying72 rfl (by kernel_rfl)) rfl ⟨m, rfl, ?_, dUnhide HM, Rc.newX (dUnhide HC) (by omega) g6 s6 b6, (dUnhide W1).new (by omega) g6 s6 b6⟩
  exact (OwnN.farO _ _ _ _ w6 (dUnhide HO) (by rw [s6]; exact Nat.le_refl _) (fun k h1 h2 => g6 k (by omega))).mono (by omega)
set_option maxHeartbeats 8000000 in
theorem listOfW_any (ab : Nat) (v : Value) (bs : List UInt8) (q : Nat) (ok : Bool) (w : World) (ds : List Int) (cop : Int) (ca : Option Addr) (cc rb cb : Nat) (HN : ∀ W, Wr ab (ab + 2) w W → Ns W (.slice ca ds.length cc) ds ∧ Bx W rb [.pointer (some ⟨ab + 1, 0, none⟩)] ∧ Bx W cb [.slice ca ds.length cc, .int .i64 cop]) (had : allInt ds) (hld : ds.length ≤ 1048576) (c0 : -9223372036854775808 ≤ cop) (c1 : cop ≤ 9223372036854775807) (hc : Rc w ab v q ok) (HV : ∀ W, Wr ab (ab + 2) w W → Bs W v bs) (hl : bs.length ≤ 1048576) (hq : q ≤ bs.length) (hne : bs = [] ∨ blockOf v ≠ ab) :
    Calls Tryz.prog 90 #[.pointer (some ⟨ab + 1, 0, none⟩), .func (.func 91) #[] #[.pointer (some ⟨rb, 0, none⟩), .pointer (some ⟨cb, 0, none⟩)]] w fun e w' => ∃ u xs, e = .returned u ∧ WAp w' w.heap.size u xs ∧ ((rdWdl ds cop bs q ok).2.2 = true → xs = (rdWdl ds cop bs q ok).1) ∧ Rc w' ab v (rdWdl ds cop bs q ok).2.1 (rdWdl ds cop bs q ok).2.2 ∧ Wr ab (ab + 2) w w' := by
  have hab := hc.lt
  have HV := dHide HV
  have HN := dHide HN
  have CN := dHide fun q ok W (hd : Wr ab (ab + 2) w W) (hc : Rc W ab v q ok) (hq : q ≤ bs.length) => writer1_any ab v bs q ok W ds cop ca cc rb cb (fun W' hW' => dUnhide HN W' (hd.trans hW')) had hld c0 c1 hc (fun W' hW' => dUnhide HV W' (hd.trans hW')) hl hq hne
  have C1 := dHide (number_any ab v bs q ok w hc (dUnhide HV w (Wr.refl _ _ _)) hne)
  have HS : Hid ((rdN bs q ok).2.1 ≤ bs.length ∧ (∀ x : Int, ((rdN bs q ok).2.2 = true → x = (rdN bs q ok).1) → (rdN bs q ok).2.2 = true → rdWdl ds cop bs q ok = rdWds ds cop bs x.toNat (rdN bs q ok).2.1 true) ∧ ((rdN bs q ok).2.2 = false → (rdWdl ds cop bs q ok).2.2 = false)) := by
    refine ⟨rdN_le bs q ok hq, fun x hx h => ?_, fun h => ?_⟩
    · rw [hx h]; unfold rdWdl; rw [h]
    · unfold rdWdl; rw [h, rdWds_off]
  generalize rdN bs q ok = R at *
  generalize rdWdl ds cop bs q ok = L at *
  obtain ⟨nI, q1, ok1⟩ := R
  obtain ⟨hq1, hL1, hL0⟩ := dUnhide HS
  simp only at hq1 hL1 hL0 C1
  have HL1 := dHide hL1
  have HL0 := dHide hL0
  clear hc HS hq hL1 hL0 HN
  go_enter Tryz.func90, Tryz.ntmps90
  go_wp2_with fail
  refine (dUnhide C1).mono ?_
  rintro e w1 ⟨x, rfl, ⟨hx0, hx1⟩, hx, hc1, hd1⟩
  obtain ⟨n, rfl⟩ := Int.eq_ofNat_of_zero_le hx0
  have E1 : Hid (ok1 = true → L = rdWds ds cop bs n q1 true) := fun h => dUnhide HL1 (n : Int) hx h
  have E0 := HL0
  have hs1 := hd1.size
  have HC1 := dHide hc1
  have HD1 := dHide hd1
  clear HL1 HL0 hx hc1 hd1 C1
  go_wp2
  go_loopw [5, 6] (fun ov xv wr => ∃ (k : Nat) (xs : List Wd) (p : Nat) (okb : Bool), xv = .int .i64 ((n : Int) - (k : Int)) ∧ xs.length = k ∧ k ≤ n ∧ k ≤ bs.length + 1 ∧ (okb = true → k ≤ p) ∧ p ≤ bs.length ∧ Hid (okb = true → L = (xs ++ (rdWds ds cop bs (n - k) p true).1, (rdWds ds cop bs (n - k) p true).2)) ∧ Hid (okb = false → L.2.2 = false) ∧ WAp wr w1.heap.size ov xs ∧ Hid (Rc wr ab v p okb) ∧ Hid (Wr ab (ab + 2) w wr) ∧ w1.heap.size ≤ wr.heap.size) (fun _ xv _ => (intOf xv).toNat)
  case atStart => exact ⟨0, [], q1, ok1, by simp, rfl, Nat.zero_le _, Nat.zero_le _, fun _ => Nat.zero_le _, hq1, by simpa [Hid] using dUnhide E1, E0, WAp.nil _ _ _, HC1, HD1, Nat.le_refl _⟩
  case round =>
    clear HC1 HD1 E1 E0
    obtain ⟨k, xs, p, okb, rfl, hxl, hkn, hkb, hkp, hp, HK, HZ, hown, HC, HD, hsz⟩ := hrel
    obtain ⟨p2, k2⟩ := (dUnhide HC).cell2
    have GO : Hid ((okb = true → k = n) → (∃ u xs, Ending.returned u5 = .returned u ∧ WAp wr w.heap.size u xs ∧ (L.2.2 = true → xs = L.1) ∧ Rc wr ab v L.2.1 L.2.2 ∧ Wr ab (ab + 2) w wr)) := by
      intro e
      cases okb with
      | true =>
        have e2 : L = (xs, p, true) := by
          have := dUnhide HK rfl
          rw [e rfl, Nat.sub_self, rdWds_zero] at this
          simpa using this
        rw [e2]
        exact ⟨_, xs, rfl, WAp.mono hown hs1, fun _ => rfl, dUnhide HC, dUnhide HD⟩
      | false =>
        have e2 := dUnhide HZ rfl
        obtain ⟨L1, L2, L3⟩ := L
        simp only at e2
        subst e2
        obtain ⟨pp, yy, hr⟩ := (dUnhide HC).isNo
        exact ⟨_, xs, rfl, WAp.mono hown hs1, fun h => (by cases h), Rc.no hr, dUnhide HD⟩
    by_cases hlt : (0 : Int) < (n : Int) - (k : Int)
    · cases okb
      · have G := dHide (dUnhide GO (fun h => (by cases h)))
        simp only [Bool.false_eq_true, if_false] at k2
        unfold wrg at k2
        clear GO HK HZ HC HD CN HV
        go_wp2
        go_ret
        exact dUnhide G
      · simp only [if_true] at k2
        have hkp2 : k ≤ p := hkp rfl
        have C2 := dHide (dUnhide CN p true wr (dUnhide HD) (dUnhide HC) hp)
        have HS : Hid (p ≤ (rdWd ds cop bs p true).2.1 ∧ (rdWd ds cop bs p true).2.1 ≤ bs.length ∧ ((rdWd ds cop bs p true).2.2 = true → p + 1 ≤ (rdWd ds cop bs p true).2.1)) := by
          obtain ⟨a1, a2, a3, -⟩ := rdWd_go ds cop bs p true hp
          exact ⟨a1, a2, fun h => by have := a3 h; omega⟩
        obtain ⟨j, hj⟩ : ∃ j, n - k = j + 1 := ⟨n - k - 1, by omega⟩
        have hj2 : n - (k + 1) = j := by omega
        have HK2 : Hid (L = (xs ++ [(rdWd ds cop bs p true).1] ++ (rdWds ds cop bs j (rdWd ds cop bs p true).2.1 (rdWd ds cop bs p true).2.2).1, (rdWds ds cop bs j (rdWd ds cop bs p true).2.1 (rdWd ds cop bs p true).2.2).2)) := by
          have := dUnhide HK rfl
          rw [hj, rdWds_succ] at this
          rw [Hid, this]
          simp
        generalize rdWd ds cop bs p true = R at *
        obtain ⟨y, p', ok'⟩ := R
        obtain ⟨hpp, hpl, hpk⟩ := dUnhide HS
        simp only at hpp hpl hpk HK2 C2
        have HK3 : Hid (∀ y' : Wd, (ok' = true → y' = y) → (ok' = true → L = (xs ++ [y'] ++ (rdWds ds cop bs j p' true).1, (rdWds ds cop bs j p' true).2)) ∧ (ok' = false → L.2.2 = false)) := fun y' h' => by
          refine ⟨fun h => ?_, fun h => ?_⟩
          · rw [h' h, dUnhide HK2, h]
          · rw [dUnhide HK2, h, rdWds_off]
        have HO := dHide hown
        clear GO HK HK2 HZ HS CN HV HC hown
        go_wp2_with fail
        refine (dUnhide C2).mono ?_
        rintro e w3 ⟨y', rfl, hyb, hye, hc3, hd3⟩
        have HK4 := dHide (dUnhide HK3 y'.m hye)
        obtain ⟨un, nc, la, ns, cl⟩ := y'
        simp only [Sv] at hyb
        have HYB := dHide hyb
        obtain ⟨rs, s1, s2, s3, s4, s5⟩ := dUnhide HO
        have ho3 := WAp.wr (dUnhide HO) hd3 (by omega)
        clear C2 k2 HK3 hye hyb
        have hlt' : ∀ b, touch u5 = some b → w1.heap.size ≤ b := fun b e => (ApR.touched elemW s2 e).1
        have HC3 := dHide hc3
        have HD3 := dHide ((dUnhide HD).trans hd3)
        have hs3 := hd3.size
        have ba3 : Below w3.heap.size w3 (w3.alloc (.cells #[.string la, .slice un ns.length nc, .bool cl] 72)) := (Below.refl _ _).alloc (Nat.le_refl _) _
        have RO := dHide (rwW_one w3 ⟨un, nc, ⟨la, ns, cl⟩⟩ 72 1 (by omega))
        have hsA : (w3.alloc (.cells #[.string la, .slice un ns.length nc, .bool cl] 72)).heap.size = w3.heap.size + 1 := by simp
        have HA3 := dHide (ApR.below (ApR.wrW s2 hd3 (by omega)) ba3)
        have hN3 := dHide fun p hp => ((s3 p hp).wr17 hd3 (by omega)).below ba3
        have HYB3 := dHide ((dUnhide HYB).below ba3)
        have RS1 := dHide s1
        have RS2 := dHide s2
        have RS3 := dHide s3
        have RS4 := dHide s4
        have RS5 := dHide s5
        have HRL : Hid (rs.length = k) := by rw [Hid, ← hxl, ← s1, List.length_map]
        have hlt' := dHide hlt'
        clear hc3 hd3 HD ho3 HO s1 s2 s3 s4 s5 HYB
        go_wp2_with (at_builtin; refine wp_apR elemW rfl _ _ rfl w1.heap.size _ rs rfl (dUnhide HA3) _ [⟨un, nc, ⟨la, ns, cl⟩⟩] rfl (dUnhide RO) ?c1 ?c2 ?c3 ?_)
        case c1 => rw [dUnhide HRL]; simp; omega
        case c2 => rw [dUnhide HRL]; simp; omega
        case c3 => simp; omega
        intro v' w4 hown' hgrow T10
        have NP := WAp.push (p := (⟨un, nc, ⟨la, ns, cl⟩⟩ : Nst Wd)) (dUnhide RS1) (dUnhide RS2) (dUnhide RS3) (dUnhide RS4) (dUnhide RS5) (dUnhide hN3) (by rw [hsA]; omega) hsz (dUnhide HYB3) hown' hgrow (by rw [hsA]; exact T10)
        have hs4 : w1.heap.size ≤ w4.heap.size := by have := hgrow.size; simp at this; omega
        have HC4 := dHide (Rc.wr (Rc.below (dUnhide HC3) ba3) hgrow (fun e => by have := (dUnhide hlt' _ e); omega) (fun e => by have := (dUnhide hlt' _ e); omega))
        have HD4 := dHide (((dUnhide HD3).trans (Wr.of_below ba3)).grown hgrow (fun k hk => by have := (dUnhide hlt' k hk); omega))
        have hown4 := NP
        clear hown' hgrow hlt' HC3 HD3 HA3 RO NP T10 RS1 RS2 RS3 RS4 RS5 hN3 HYB3
        go_wp2
        go_roundw
        case rel => exact ⟨k + 1, xs ++ [(⟨la, ns, cl⟩ : Wd)], p', ok', by go_num, by simp [hxl], by omega, by omega, fun h => by have := hpk h; omega, hpl, by rw [hj2]; exact (dUnhide HK4).1, (dUnhide HK4).2, hown4, HC4, HD4, hs4⟩
        case measure => simp [intOf]; omega
    · have G := dHide (dUnhide GO (fun h => by omega))
      clear GO HK HZ HC HD CN HV
      go_wp2
      go_ret
      obtain ⟨u, xs, ga, gb⟩ := dUnhide G
      exact ⟨u, ga, xs, gb⟩
end Go.Proofs.YtioocibgfhgkhaaGreatDoor
namespace Go.Proofs.YtioocibgfhgkhaaGreatDoor
open Go.ChangeShapes Go.WideShapes Go.ChangeAt Go.RowKit
set_option linter.unusedVariables false
set_option linter.unusedSimpArgs false
set_option maxRecDepth 100000

set_option maxHeartbeats 8000000 in
theorem writer_any (ab : Nat) (v : Value) (bs : List UInt8) (w : World) (ds : List Int) (cop : Int) (ca : Option Addr) (cc : Nat) (hc : Rc w ab v 0 true) (HV : ∀ W, Wr ab (ab + 2) w W → Bs W v bs) (HN : ∀ W, Wr ab (ab + 2) w W → Ns W (.slice ca ds.length cc) ds) (had : allInt ds) (hld : ds.length ≤ 1048576) (c0 : -9223372036854775808 ≤ cop) (c1 : cop ≤ 9223372036854775807) (hl : bs.length ≤ 1048576) (hne : bs = [] ∨ blockOf v ≠ ab) :
    Calls Tryz.prog 63 #[.pointer (some ⟨ab + 1, 0, none⟩), .agg #[.slice ca ds.length cc, .int .i64 cop]] w fun e w' => ∃ (x : Int) (ua : Option Addr) (n c : Nat) (m : Wt), e = .returned (.agg #[.int .i64 x, .slice ua n c]) ∧ (x = m.epoch ∧ n = m.words.length ∧ WAp w' w.heap.size (.slice ua m.words.length c) m.words) ∧ ((wtRd ds cop bs).2.2 = true → m = wtRm ds cop bs) ∧ Rc w' ab v (wtRd ds cop bs).2.1 (wtRd ds cop bs).2.2 ∧ Wr ab (ab + 2) w w' := by
  have hab := hc.lt
  have ba : ∀ (w : World) o, Below w.heap.size w (w.alloc o) := fun w o => (Below.refl _ _).alloc (Nat.le_refl _) o
  have i1 : (w.alloc (.cells #[.pointer (some ⟨ab + 1, 0, none⟩)] 91)).heap.size = w.heap.size + 1 := by simp
  have i2 : ((w.alloc (.cells #[.pointer (some ⟨ab + 1, 0, none⟩)] 91)).alloc (.cells #[.slice ca ds.length cc, .int .i64 cop] 32)).heap.size = w.heap.size + 2 := by simp
  have B0 := belowThen (belowThen (ba w (.cells #[.pointer (some ⟨ab + 1, 0, none⟩)] 91)) (ba _ (.cells #[.slice ca ds.length cc, .int .i64 cop] 32))) (ba _ (.cells #[.int .i64 0, .slice none 0 0] 44))
  have X0 := ((BxZ.new (B := w.heap.size) w [.pointer (some ⟨ab + 1, 0, none⟩)] 91 (Nat.le_refl _)).below (ba _ (.cells #[.slice ca ds.length cc, .int .i64 cop] 32))).below (ba _ (.cells #[.int .i64 0, .slice none 0 0] 44))
  have G0 := (BxZ.new (B := w.heap.size) (w.alloc (.cells #[.pointer (some ⟨ab + 1, 0, none⟩)] 91)) [.slice ca ds.length cc, .int .i64 cop] 32 (by omega)).below (ba _ (.cells #[.int .i64 0, .slice none 0 0] 44))
  rw [i1] at G0
  have Z0 := BxZ.new (B := w.heap.size) ((w.alloc (.cells #[.pointer (some ⟨ab + 1, 0, none⟩)] 91)).alloc (.cells #[.slice ca ds.length cc, .int .i64 cop] 32)) [.int .i64 0, .slice none 0 0] 44 (by omega)
  rw [i2] at Z0
  have hs0 : (((w.alloc (.cells #[.pointer (some ⟨ab + 1, 0, none⟩)] 91)).alloc (.cells #[.slice ca ds.length cc, .int .i64 cop] 32)).alloc (.cells #[.int .i64 0, .slice none 0 0] 44)).heap.size = w.heap.size + 3 := by simp
  have HV := dHide HV
  have HN := dHide HN
  have C1 := dHide fun (W : World) (hd : Wr ab (ab + 2) w W) (hc : Rc W ab v 0 true) => (show Calls Tryz.prog 76 #[.pointer (some ⟨ab + 1, 0, none⟩)] W fun e w' => ∃ x : Int, e = .returned (.int .i64 x) ∧ (0 ≤ x ∧ x ≤ 9223372036854775807) ∧ ((wtRa bs).2.2 = true → x = (wtRa bs).1) ∧ Rc w' ab v (wtRa bs).2.1 (wtRa bs).2.2 ∧ Wr ab (ab + 2) W w' from number_any ab v bs 0 true W hc (dUnhide HV W hd) hne)
  have la := wtRa_le bs
  have C2 := dHide fun (W : World) (hd : Wr ab (ab + 2) w W) (hx : ∀ W', Wr ab (ab + 2) W W' → Bx W' w.heap.size [.pointer (some ⟨ab + 1, 0, none⟩)] ∧ Bx W' (w.heap.size + 1) [.slice ca ds.length cc, .int .i64 cop]) (hc : Rc W ab v (wtRa bs).2.1 (wtRa bs).2.2) => (show Calls Tryz.prog 90 #[.pointer (some ⟨ab + 1, 0, none⟩), .func (.func 91) #[] #[.pointer (some ⟨w.heap.size, 0, none⟩), .pointer (some ⟨w.heap.size + 1, 0, none⟩)]] W fun e w' => ∃ u xs, e = .returned u ∧ WAp w' W.heap.size u xs ∧ ((wtRd ds cop bs).2.2 = true → xs = (wtRd ds cop bs).1) ∧ Rc w' ab v (wtRd ds cop bs).2.1 (wtRd ds cop bs).2.2 ∧ Wr ab (ab + 2) W w' from listOfW_any ab v bs (wtRa bs).2.1 (wtRa bs).2.2 W ds cop ca cc _ _ (fun W' hW' => ⟨dUnhide HN W' (hd.trans hW'), hx W' hW'⟩) had hld c0 c1 hc (fun W' hW' => dUnhide HV W' (hd.trans hW')) hl la hne)
  have K2 : Hid ((wtRd ds cop bs).2.2 = true → (wtRa bs).2.2 = true) := fun h => rdN_was (rdWds_was h)
  have EM : Hid (wtRm ds cop bs = ⟨(wtRa bs).1, (wtRd ds cop bs).1⟩) := rfl
  generalize wtRm ds cop bs = MM at *
  generalize wtRd ds cop bs = MD at *
  generalize wtRa bs = MA at *
  have hc0 := dHide (hc.below B0.drew)
  have W0 := dHide (Wr.of_below (lo := ab) (hi := ab + 2) B0.drew)
  have k0 := (X0.2 0 _ rfl).1
  clear hc la HV HN i1 i2 B0
  go_enter Tryz.func63, Tryz.ntmps63
  go_upto_region 1 with fail
  generalize ((w.alloc (.cells #[.pointer (some ⟨ab + 1, 0, none⟩)] 91)).alloc (.cells #[.slice ca ds.length cc, .int .i64 cop] 32)).alloc (.cells #[.int .i64 0, .slice none 0 0] 44) = w0 at *
  have D1 := dHide (dUnhide C1 w0.drew (dUnhide W0) (dUnhide hc0))
  have hsd : w0.drew.heap.size = w.heap.size + 3 := hs0
  have X0d : BxZ w0.drew w.heap.size w.heap.size [.pointer (some ⟨ab + 1, 0, none⟩)] := X0
  have G0d : BxZ w0.drew w.heap.size (w.heap.size + 1) [.slice ca ds.length cc, .int .i64 cop] := G0
  have Z0d : BxZ w0.drew w.heap.size (w.heap.size + 2) [.int .i64 0, .slice none 0 0] := Z0
  clear C1 hc0 X0 G0 Z0
  go_region_held3 (fun W => W.cell? ⟨w.heap.size, 0, none⟩ = some (.pointer (some ⟨ab + 1, 0, none⟩))) (first | exact q1 | exact q3 | exact q4 | go_keep)
    (first
      | (go_at_call 76
         refine (dUnhide D1).mono ?_
         rintro e w1 ⟨x0, rfl, hb0, hx0, hc1, hw1⟩
         have X1 := X0d.wrZ hw1 hab
         have q1 := (X1.2 0 _ rfl).1
         have G1 := G0d.wrZ hw1 (by omega)
         have Z1 := Z0d.wrZ hw1 (by omega)
         have W1 := dHide ((dUnhide W0).trans hw1)
         have hs1 := hw1.size
         have HX0 := dHide hx0
         have D2 := dHide (dUnhide C2 w1 (dUnhide W1) (fun W' hW' => ⟨(X1.wrZ hW' hab).bx, (G1.wrZ hW' (by omega)).bx⟩) hc1)
         clear hx0 hc1 hw1)
      | (go_at_call 90
         refine (dUnhide D2).mono ?_
         rintro e w3 ⟨u, xs, rfl, ha, hx2, hc3, hw3⟩
         have W3 := dHide ((dUnhide W1).trans hw3)
         have X3 := X1.wrZ hw3 hab
         have q3 := (X3.2 0 _ rfl).1
         have Z3 := Z1.wrZ hw3 (by omega)
         have hs3 := hw3.size
         obtain ⟨ua, uc, rfl⟩ := WAp.slice ha
         obtain ⟨z0, f0⟩ := Z3.2 0 _ rfl
         obtain ⟨z1, f1⟩ := Z3.2 1 _ rfl
         have HX2 := dHide hx2
         have g4 : ∀ k, k ≠ w.heap.size + 2 → ((w3.setCell ⟨w.heap.size + 1 + 1, 0, none⟩ (.int .i64 x0)).setCell ⟨w.heap.size + 1 + 1, 1, none⟩ (.slice ua xs.length uc)).heap[k]? = w3.heap[k]? := fun k hk => by rw [Below.heap_setCell _ _ _ k (by simp only; omega), Below.heap_setCell _ _ _ k (by simp only; omega)]
         have s4 : ((w3.setCell ⟨w.heap.size + 1 + 1, 0, none⟩ (.int .i64 x0)).setCell ⟨w.heap.size + 1 + 1, 1, none⟩ (.slice ua xs.length uc)).heap.size = w3.heap.size := by simp
         have b4 : Below w.heap.size w3 ((w3.setCell ⟨w.heap.size + 1 + 1, 0, none⟩ (.int .i64 x0)).setCell ⟨w.heap.size + 1 + 1, 1, none⟩ (.slice ua xs.length uc)) := Below.setCell (p := ⟨w.heap.size + 1 + 1, 1, none⟩) (Below.setCell (p := ⟨w.heap.size + 1 + 1, 0, none⟩) (Below.refl _ _) (by simp only; omega) (.int .i64 x0)) (by simp only; omega) (.slice ua xs.length uc)
         have FIN : Hid (BxZ ((w3.setCell ⟨w.heap.size + 1 + 1, 0, none⟩ (.int .i64 x0)).setCell ⟨w.heap.size + 1 + 1, 1, none⟩ (.slice ua xs.length uc)) w.heap.size (w.heap.size + 2) [.int .i64 x0, .slice ua xs.length uc] ∧ WAp ((w3.setCell ⟨w.heap.size + 1 + 1, 0, none⟩ (.int .i64 x0)).setCell ⟨w.heap.size + 1 + 1, 1, none⟩ (.slice ua xs.length uc)) w.heap.size (.slice ua xs.length uc) xs ∧ Rc ((w3.setCell ⟨w.heap.size + 1 + 1, 0, none⟩ (.int .i64 x0)).setCell ⟨w.heap.size + 1 + 1, 1, none⟩ (.slice ua xs.length uc)) ab v MD.2.1 MD.2.2 ∧ Wr ab (ab + 2) w ((w3.setCell ⟨w.heap.size + 1 + 1, 0, none⟩ (.int .i64 x0)).setCell ⟨w.heap.size + 1 + 1, 1, none⟩ (.slice ua xs.length uc))) := And.intro ((Z3.put 0 (.int .i64 x0)).put 1 (.slice ua xs.length uc)) (And.intro (WAp.mono (WAp.farO _ _ _ w3 ((w3.setCell ⟨w.heap.size + 1 + 1, 0, none⟩ (.int .i64 x0)).setCell ⟨w.heap.size + 1 + 1, 1, none⟩ (.slice ua xs.length uc)) ha (by rw [s4]; exact Nat.le_refl _) (fun k h1 h2 => g4 k (by omega))) (by omega)) (And.intro (Rc.newX hc3 (by omega) g4 s4 b4) ((dUnhide W3).new (by omega) g4 s4 b4)))
         have q4 : ((w3.setCell ⟨w.heap.size + 1 + 1, 0, none⟩ (.int .i64 x0)).setCell ⟨w.heap.size + 1 + 1, 1, none⟩ (.slice ua xs.length uc)).cell? ⟨w.heap.size, 0, none⟩ = some (.pointer (some ⟨ab + 1, 0, none⟩)) := (((X3.far (b' := w.heap.size + 1 + 1) (o := 0) (by omega) (.int .i64 x0)).far (b' := w.heap.size + 1 + 1) (o := 1) (by omega) (.slice ua xs.length uc)).2 0 _ rfl).1
         clear ha hx2 hc3 hw3 g4 s4 b4 Z3)
      | fail)
  all_goals
    go_wp2_with fail
    have fin := dUnhide FIN
    generalize ((w3.setCell ⟨w.heap.size + 1 + 1, 0, none⟩ (.int .i64 x0)).setCell ⟨w.heap.size + 1 + 1, 1, none⟩ (.slice ua xs.length uc)) = V at *
    obtain ⟨r, hw, hrc, hwr⟩ := fin
    refine bodyPost_ret (results_box Tryz.results63 _ _ _ [.int .i64 x0, .slice ua xs.length uc] _ rfl r.bx Tryz.underlying44 rfl (by kernel_rfl)) rfl ⟨x0, ua, xs.length, uc, ⟨x0, xs⟩, rfl, ⟨rfl, rfl, hw⟩, fun h => ?_, hrc, hwr⟩
    have h2 := dUnhide K2 h
    rw [dUnhide EM, dUnhide HX0 h2, dUnhide HX2 h]
end Go.Proofs.YtioocibgfhgkhaaGreatDoor
namespace Go.Proofs.YtioocibgfhgkhaaGreatDoor
open Go.ChangeShapes Go.WideShapes Go.ChangeAt Go.RowKit
set_option linter.unusedVariables false
set_option linter.unusedSimpArgs false
set_option maxRecDepth 100000

theorem cfgNs17 {c : List Int × Int} {ca : Option Addr} {cc : Nat} {W : World} (h : RdConfig (.agg #[.slice ca c.1.length cc, .int .i64 c.2]) c W) : Ns W (.slice ca c.1.length cc) c.1 := by
  obtain ⟨sv, e, h⟩ := h
  simp only [Value.agg.injEq, Array.mk.injEq, List.cons.injEq, and_true] at e
  subst e
  exact h
set_option maxHeartbeats 4000000 in
theorem writerForm2_any (ab : Nat) (v : Value) (bs : List UInt8) (w : World) (ds : List Int) (cop : Int) (ca : Option Addr) (cc cb : Nat) (X : Bx w cb [.slice ca ds.length cc, .int .i64 cop]) (hc : Rc w ab v 0 true) (HV : ∀ W, Wr ab (ab + 2) w W → Bs W v bs) (HN : ∀ W, Wr ab (ab + 2) w W → Ns W (.slice ca ds.length cc) ds) (had : allInt ds) (hld : ds.length ≤ 1048576) (c0 : -9223372036854775808 ≤ cop) (c1 : cop ≤ 9223372036854775807) (hl : bs.length ≤ 1048576) (hne : bs = [] ∨ blockOf v ≠ ab) :
    Calls Tryz.prog 62 #[.pointer (some ⟨ab + 1, 0, none⟩), .pointer (some ⟨cb, 0, none⟩)] w fun e w' => ∃ (x : Int) (ua : Option Addr) (n c : Nat) (m : Wt), e = .returned (.agg #[.int .i64 x, .slice ua n c]) ∧ (x = m.epoch ∧ n = m.words.length ∧ WAp w' w.heap.size (.slice ua m.words.length c) m.words) ∧ ((wtRd ds cop bs).2.2 = true → m = wtRm ds cop bs) ∧ Rc w' ab v (wtRd ds cop bs).2.1 (wtRd ds cop bs).2.2 ∧ Wr ab (ab + 2) w w' := by
  have hab := hc.lt
  have b0 : Below w.heap.size w (w.alloc (.cells #[.int .i64 0, .slice none 0 0] 44)) := (Below.refl _ _).alloc (Nat.le_refl _) _
  have Z0 := BxZ.new (B := w.heap.size) w [.int .i64 0, .slice none 0 0] 44 (Nat.le_refl _)
  have W0 := Wr.of_below (lo := ab) (hi := ab + 2) b0
  have X0 := X.below b0
  have x0 := X0 0 _ rfl
  have x1 := X0 1 _ rfl
  have CW := dHide (writer_any ab v bs _ ds cop ca cc (hc.below b0) (fun W' hW' => HV W' (W0.trans hW')) (fun W' hW' => HN W' (W0.trans hW')) had hld c0 c1 hl hne)
  have hs0 : (w.alloc (.cells #[.int .i64 0, .slice none 0 0] 44)).heap.size = w.heap.size + 1 := by simp
  clear HN HV hc X X0 b0
  generalize wtRm ds cop bs = MM at *
  generalize wtRd ds cop bs = MD at *
  go_enter Tryz.func62, Tryz.ntmps62
  go_upto_region 1 with fail
  generalize w.alloc (.cells #[.int .i64 0, .slice none 0 0] 44) = w0 at *
  go_wp2_with fail
  refine (dUnhide CW).mono ?_
  rintro e w1 ⟨x, ua, n, c, m, rfl, ⟨rfl, rfl, h1⟩, hm, c2, hw1⟩
  have Z1 := Z0.wrZ hw1 hab
  have W1 := dHide (W0.trans hw1)
  have HO := dHide h1
  have HM := dHide hm
  have HC := dHide c2
  have hs1 := hw1.size
  clear CW x0 x1 h1 hm c2 hw1 W0 Z0
  go_wp2_with (refine wp_putW rfl _ _ _ rfl rfl [.int .i64 m.epoch, .slice ua m.words.length c] rfl rfl Z1 rfl (by kernel_rfl) (by kernel_rfl) ?_; intro w6 Y6 s6 g6 b6)
  refine bodyPost_ret (results_box Tryz.results62 _ _ _ [.int .i64 m.epoch, .slice ua m.words.length c] _ rfl Y6.bx Tryz.underlying44 rfl (by kernel_rfl)) rfl ⟨_, ua, _, c, m, rfl, ⟨rfl, rfl, ?_⟩, dUnhide HM, Rc.newX (dUnhide HC) (by omega) g6 s6 b6, (dUnhide W1).new (by omega) g6 s6 b6⟩
  exact WAp.mono (WAp.farO _ _ _ w1 w6 (dUnhide HO) (by rw [s6]; exact Nat.le_refl _) (fun k h1 h2 => g6 k (by omega))) (by omega)
/-- A register that is read, in new memory. -/
def OWrt (b : Nat) (m : Wt) (u : Value) (W : World) : Prop := ∃ (ua : Option Addr) (c : Nat), u = .agg #[.int .i64 m.epoch, .slice ua m.words.length c] ∧ WAp W b (.slice ua m.words.length c) m.words
theorem OWrt.far (b : Nat) (m : Wt) (u : Value) : FarO b (OWrt b m u) := fun W W' ⟨ua, c, h1, h2⟩ hs hk => ⟨ua, c, h1, WAp.farO _ _ _ W W' h2 hs hk⟩
theorem OWrt.mono (b b' : Nat) (m : Wt) (u : Value) (W : World) (h : b ≤ b') : OWrt b' m u W → OWrt b m u W := fun ⟨ua, c, h1, h2⟩ => ⟨ua, c, h1, WAp.mono h2 h⟩
theorem rdG_wrt (ds : List Int) (cop : Int) (bs : List UInt8) : RdG (wtRd ds cop bs).2.2 (wtRd ds cop bs).2.1 bs.length (wrP ds cop (wtRm ds cop bs)) ↔ (endB bs (wtRd ds cop bs).2.1 (wtRd ds cop bs).2.2 = true ∧ wrP ds cop (wtRm ds cop bs)) := by
  unfold RdG endB
  generalize (wtRd ds cop bs).2.2 = ok
  generalize (wtRd ds cop bs).2.1 = q
  cases ok <;> simp <;> omega
set_option maxHeartbeats 4000000 in
theorem implWriterRead_any (cv v : Value) (c : List Int × Int) (bs : List UInt8) (w : World) (hH : Hnd w) (hcv : RdConfig cv c w) (okc : okConfig c) (hsc : sizConfig c ≤ 1048576) (hv : Bs w v bs) (hl : bs.length ≤ 1048576) :
    Calls Tryz.prog 18 #[cv, v] w fun e w' => (∃ (a : Option Addr) (cc : Nat), e = .returned (.tuple #[.agg #[.int .i64 (wtR c.1 c.2 bs).1.epoch, .slice a (wtR c.1 c.2 bs).1.words.length cc], .bool (wtR c.1 c.2 bs).2]) ∧ WAp w' w.heap.size (.slice a (wtR c.1 c.2 bs).1.words.length cc) (wtR c.1 c.2 bs).1.words) ∧ Below w.heap.size w w' := by
  have ba : ∀ (w : World) o, Below w.heap.size w (w.alloc o) := fun w o => (Below.refl _ _).alloc (Nat.le_refl _) o
  have HV := dHide fun W (hb : Below w.heap.size w W) => hv.below hb
  have HCV := dHide fun W (hb : Below w.heap.size w W) => hcv.below hb
  have HH := dHide fun W (hb : Below w.heap.size w W) => hH.below hb (Nat.le_refl _)
  have hlt : ∀ W, Below w.heap.size w W → ∀ ab, w.heap.size ≤ ab → bs = [] ∨ blockOf v ≠ ab := fun W hb ab hab => by
    by_cases h : bs = []
    · exact .inl h
    · exact .inr (by have := hv.lt h; omega)
  obtain ⟨ca, cc, rfl, -⟩ := formConfig hcv
  have CF := dHide fun W => writerForm_any ca c.1.length cc c.2 W
  have hq4 := wtRd_le c.1 c.2 bs
  have CU : Hid (∀ W cb, Below w.heap.size w W → Bx W cb [.slice ca c.1.length cc, .int .i64 c.2] → Calls Tryz.prog 39 #[.agg (writerFormL cb).toArray, v] W fun e w' => ∃ (x : Int) (ua : Option Addr) (n c' : Nat) (b : Bool), e = .returned (.tuple #[.agg #[.int .i64 x, .slice ua n c'], .bool b]) ∧ UnPost (OWrt W.heap.size) (RdG (wtRd c.1 c.2 bs).2.2 (wtRd c.1 c.2 bs).2.1 bs.length (wrP c.1 c.2 (wtRm c.1 c.2 bs))) (wtRm c.1 c.2 bs) (.agg #[.int .i64 0, .slice none 0 0]) W (.agg #[.int .i64 x, .slice ua n c']) b w') := fun W cb hb hX => by
    have hvv : ∃ (va : Option Addr) (vn vcp : Nat), v = .slice va vn vcp := by
      obtain ⟨-, va, vcp, e, -⟩ := hv
      exact ⟨va, _, vcp, e⟩
    obtain ⟨va, vn, vcp, hvv⟩ := hvv
    refine unpackWriter cb v OWrt OWrt.far OWrt.mono _ _ W (dUnhide HH W hb) (fun W1 hb1 => ?_) va vn vcp hvv
    refine recordInWriter cb v bs OWrt OWrt.far OWrt.mono (wtRm c.1 c.2 bs) (wrP c.1 c.2) (wtRd c.1 c.2 bs).2.1 (wtRd c.1 c.2 bs).2.2 W1 (dUnhide HV W1 (belowThen hb hb1)) hl (fun _ => hq4) (fun W2 ab hb2 hab hc => ?_) (fun W2 x ua n c' hb2 hok ho => ?_)
    · refine (writerForm2_any ab v bs W2 c.1 c.2 ca cc cb ((hX.below hb1).below hb2) hc (fun W3 hw3 => dUnhide HV W3 (hw3.below (belowThen (belowThen hb hb1) hb2) (by have := (belowThen (belowThen hb hb1) hb2).size; omega) (by have := (belowThen hb hb1).size; omega))) (fun W3 hw3 => cfgNs17 (dUnhide HCV W3 (hw3.below (belowThen (belowThen hb hb1) hb2) (by have := (belowThen (belowThen hb hb1) hb2).size; omega) (by have := (belowThen hb hb1).size; omega)))) okc.1 hsc okc.2.1 okc.2.2 hl (hlt W2 (belowThen (belowThen hb hb1) hb2) ab (by have := (belowThen hb hb1).size; omega))).mono ?_
      rintro e w' ⟨x, ua, n, c', m, rfl, ⟨rfl, rfl, h1⟩, h4, h5, h6⟩
      exact ⟨_, ua, _, c', m, rfl, ⟨ua, c', rfl, h1⟩, h4, h5, h6⟩
    · obtain ⟨ua', c'', e, h1⟩ := ho
      rw [e]
      exact writerForm1_any c ca cc _ ua' c'' cb W2 (dUnhide HCV W2 (belowThen (belowThen hb hb1) hb2)) ⟨_, rfl, (WAp.ow h1).rd⟩ okc (wtRm_ok c.1 c.2 bs hl) hsc (Nat.le_trans (wtRm_siz c.1 c.2 bs hok) hl) ((hX.below hb1).below hb2)
  have EY : Hid (_ → _) := wtR_yes c.1 c.2 bs
  have EN : Hid (_ → _) := wtR_no c.1 c.2 bs
  have EG := dHide (rdG_wrt c.1 c.2 bs)
  rw [← dUnhide EG] at EY EN
  generalize RdG (wtRd c.1 c.2 bs).2.2 (wtRd c.1 c.2 bs).2.1 bs.length (wrP c.1 c.2 (wtRm c.1 c.2 bs)) = G at *
  generalize wtR c.1 c.2 bs = CR at *
  generalize wtRm c.1 c.2 bs = MM at *
  have i1 : (w.alloc (.cells #[.slice ca c.1.length cc, .int .i64 c.2] 32)).heap.size = w.heap.size + 1 := by simp
  have G0 := (Bx.new w [.slice ca c.1.length cc, .int .i64 c.2] 32).below (ba _ (.cells #[.int .i64 0, .slice none 0 0] 44))
  have Z0 := BxZ.new (w.alloc (.cells #[.slice ca c.1.length cc, .int .i64 c.2] 32)) [.int .i64 0, .slice none 0 0] 44 (B := w.heap.size) (by omega)
  rw [i1] at Z0
  have B0 := belowThen (ba w (.cells #[.slice ca c.1.length cc, .int .i64 c.2] 32)) (ba _ (.cells #[.int .i64 0, .slice none 0 0] 44))
  have hs0 : ((w.alloc (.cells #[.slice ca c.1.length cc, .int .i64 c.2] 32)).alloc (.cells #[.int .i64 0, .slice none 0 0] 44)).heap.size = w.heap.size + 2 := by simp
  clear HV HCV HH hlt hq4 hv hH ba EG hcv okc hsc i1
  go_enter Tryz.func18, Tryz.ntmps18
  go_upto_region 1 with fail
  generalize (w.alloc (.cells #[.slice ca c.1.length cc, .int .i64 c.2] 32)).alloc (.cells #[.int .i64 0, .slice none 0 0] 44) = w0 at *
  have g0 := G0 0 _ rfl
  have g1 := G0 1 _ rfl
  go_wp2_with fail
  refine (dUnhide CF _).mono ?_
  rintro e w1 ⟨cb, rfl, hX1, b1⟩
  have B1 := belowThen B0 b1
  have Z1 := Z0.below b1
  have hs1 := b1.size
  have C1 := dHide (dUnhide CU w1 cb B1 hX1)
  clear CF CU Z0 B0 b1 g0 g1 G0 hX1
  unfold writerFormL at *
  go_wp2_with fail
  refine (dUnhide C1).mono ?_
  rintro e w2 ⟨x, ua, n, c', b, rfl, hy, hn, b2⟩
  have B2 := belowThen B1 b2
  have Z2 := Z1.below b2
  obtain ⟨z0, y0⟩ := Z2.2 0 _ rfl
  obtain ⟨z1, y1⟩ := Z2.2 1 _ rfl
  have FZ := dHide (And.intro ((Z2.put 0 (.int .i64 x)).put 1 (.slice ua n c')) (Below.setCell (p := ⟨w.heap.size + 1, 1, none⟩) (Below.setCell (p := ⟨w.heap.size + 1, 0, none⟩) B2 (by simp only; omega) (.int .i64 x)) (by simp only; omega) (.slice ua n c')))
  have HY := dHide hy
  have HN := dHide hn
  clear C1 Z1 Z2 B1 B2 b2 hy hn
  go_wp2
  have fin := dUnhide FZ
  have HO : ∀ xs, WAp w2 w1.heap.size (.slice ua n c') xs → WAp ((w2.setCell ⟨w.heap.size + 1, 0, none⟩ (.int .i64 x)).setCell ⟨w.heap.size + 1, 1, none⟩ (.slice ua n c')) w.heap.size (.slice ua n c') xs := fun xs h => WAp.mono (WAp.far (WAp.far h (b := w.heap.size + 1) (o := 0) (by omega) _) (b := w.heap.size + 1) (o := 1) (by omega) _) (by omega)
  generalize (w2.setCell ⟨w.heap.size + 1, 0, none⟩ (.int .i64 x)).setCell ⟨w.heap.size + 1, 1, none⟩ (.slice ua n c') = V at *
  obtain ⟨r, bb⟩ := fin
  have q0 := (r.2 0 _ rfl).1
  have q1 := (r.2 1 _ rfl).1
  refine bodyPost_ret (v := .tuple #[.agg #[.int .i64 x, .slice ua n c'], .bool b]) (by simp [results, Tryz.results18, go_sem, q0, q1]) rfl ?_
  by_cases hG : G
  · obtain ⟨rfl, ua', c'', e, h1⟩ := dUnhide HY hG
    have eC := dUnhide EY hG
    subst eC
    simp only [Value.agg.injEq, Array.mk.injEq, List.cons.injEq, Value.slice.injEq, Value.int.injEq, true_and, and_true] at e
    obtain ⟨rfl, rfl, rfl, rfl⟩ := e
    exact ⟨⟨_, _, rfl, HO _ h1⟩, bb⟩
  · obtain ⟨rfl, e⟩ := dUnhide HN hG
    have eC := dUnhide EN hG
    subst eC
    simp only [Value.agg.injEq, Array.mk.injEq, List.cons.injEq, Value.slice.injEq, Value.int.injEq, true_and, and_true] at e
    obtain ⟨rfl, rfl, rfl, rfl⟩ := e
    exact ⟨⟨_, _, rfl, WAp.nil _ _ _⟩, bb⟩
end Go.Proofs.YtioocibgfhgkhaaGreatDoor
namespace Go.Proofs.YtioocibgfhgkhaaGreatDoor
open Go.ChangeShapes Go.WideShapes Go.ChangeAt Go.RowKit
set_option linter.unusedVariables false
set_option linter.unusedSimpArgs false

theorem WAp.sitsW17 {w : World} {base : Nat} {a : Option Addr} {c : Nat} {m : Wt} (h : WAp w base (.slice a m.words.length c) m.words) : Sits (OwWriter base w.heap.size (.agg #[.int .i64 m.epoch, .slice a m.words.length c]) m) base w.heap.size w := (OwK.sits h.ow (Nat.le_refl _)).imp fun W hW => ⟨_, rfl, hW⟩
theorem wtR_cnt (ds : List Int) (cop : Int) (bs : List UInt8) (hl : bs.length ≤ 1048576) : cntWriter (wtR ds cop bs).1 ≤ 16777216 := by
  by_cases h : endB bs (wtRd ds cop bs).2.1 (wtRd ds cop bs).2.2 = true ∧ wrP ds cop (wtRm ds cop bs)
  · rw [wtR_yes ds cop bs h]
    have h1 : (wtRd ds cop bs).2.2 = true := by
      have := h.1
      unfold endB at this
      rw [Bool.and_eq_true] at this
      exact this.1
    have h2 := wtRm_siz ds cop bs h1
    unfold sizWriter sizWordS at h2
    show cntWriter (wtRm ds cop bs) ≤ 16777216
    unfold cntWriter cntWordS
    omega
  · rw [wtR_no ds cop bs h]
    simp [cntWriter, cntWordS, sumW]
theorem bothWriterRead_ (m0 : List Int × Int) (m1 : List UInt8) (ok0 : okConfig m0) (ok1 : okByteS m1) (hs0 : sizConfig m0 ≤ 1048576) (hs1 : sizByteS m1 ≤ 1048576) (w : World) (hS : Hnd w) : ∃ (R : Wt) (s1 : Bool), cntWriter R ≤ 16777216 ∧ (∀ W v0 v1, RdConfig v0 m0 W → RdByteS v1 m1 W → Calls Tryz.prog 17 #[v0, v1] W fun e w' => ∃ u, e = .returned (.tuple #[u, .bool s1]) ∧ Sits (OwWriter W.heap.size w'.heap.size u R) W.heap.size w'.heap.size w' ∧ Below W.heap.size W w') ∧ (∀ W, Below w.heap.size w W → ∀ v0 v1, RdConfig v0 m0 W → RdByteS v1 m1 W → Calls Tryz.prog 18 #[v0, v1] W fun e w' => ∃ u, e = .returned (.tuple #[u, .bool s1]) ∧ Sits (OwWriter W.heap.size w'.heap.size u R) W.heap.size w'.heap.size w' ∧ Below W.heap.size W w') := by
  refine ⟨(wtR m0.1 m0.2 m1).1, (wtR m0.1 m0.2 m1).2, wtR_cnt _ _ _ hs1, fun W v0 v1 h0 h1 => ?_, fun W hW v0 v1 h0 h1 => ?_⟩
  · refine (specWriterRead_any v0 v1 m0 m1 W h0 h1 hs1).mono ?_
    rintro e w' ⟨⟨a, c, rfl, hO⟩, hB⟩
    exact ⟨_, rfl, hO.sitsW17, hB⟩
  · refine (implWriterRead_any v0 v1 m0 m1 W (hS.below hW (Nat.le_refl _)) h0 ok0 hs0 h1 hs1).mono ?_
    rintro e w' ⟨⟨a, c, rfl, hO⟩, hB⟩
    exact ⟨_, rfl, hO.sitsW17, hB⟩
end Go.Proofs.YtioocibgfhgkhaaGreatDoor
namespace Go.Proofs.YtioocibgfhgkhaaGreatDoor
open Go.ChangeShapes Go.WideShapes Go.ChangeAt Go.RowKit
set_option linter.unusedVariables false
theorem bothFnExactWriterRead (m0 : List Int × Int) (m1 : List UInt8) (ok0 : okConfig m0) (ok1 : okByteS m1) (hs0 : sizConfig m0 ≤ 1048576) (hs1 : sizByteS m1 ≤ 1048576) (w : World) (hS : Hnd w) : ∃ (R : Wt) (s1 : Bool), cntWriter R ≤ 16777216 ∧ (∀ W v0 v1, RdConfig v0 m0 W → RdByteS v1 m1 W → Calls Tryz.prog 17 #[v0, v1] W fun e w' => ∃ u, e = .returned (.tuple #[u, .bool s1]) ∧ Sits (OwWriter W.heap.size w'.heap.size u R) W.heap.size w'.heap.size w' ∧ Below W.heap.size W w') ∧ (∀ W, Below w.heap.size w W → ∀ v0 v1, RdConfig v0 m0 W → RdByteS v1 m1 W → Calls Tryz.prog 18 #[v0, v1] W fun e w' => ∃ u, e = .returned (.tuple #[u, .bool s1]) ∧ Sits (OwWriter W.heap.size w'.heap.size u R) W.heap.size w'.heap.size w' ∧ Below W.heap.size W w') := bothWriterRead_ m0 m1 ok0 ok1 hs0 hs1 w hS
set_option maxHeartbeats 4000000 in
set_option maxRecDepth 100000 in
theorem walkFnExactWriterRead (v0 v1 : Value) (m0 : List Int × Int) (m1 : List UInt8) (w : World) (i0 : IsConfig v0 m0 w) (i1 : RdByteS v1 m1 w) (hS : Hnd w) :
    Calls Tryz.prog 4 #[v0, v1] w fun r w' => r = .returned (.bool true) ∧ Below w.heap.size w w' := by
  obtain ⟨r0, ok0⟩ := i0
  have r1 : RdByteS v1 m1 w := i1
  have ok1 : okByteS m1 := trivial
  have ha : ∀ (w : World) o, Below w.heap.size w (w.alloc o) := fun w o => (Below.refl _ _).alloc (Nat.le_refl _) o
  have A0 := dHide fun W (hb : Below w.heap.size w W) => r0.below hb
  have A1 := dHide fun W (hb : Below w.heap.size w W) => r1.below hb
  obtain ⟨v0a, v0c, rfl, v0l⟩ := formConfig r0
  obtain ⟨v1a, v1c, rfl, v1l⟩ := formByteS r1
  by_cases g1 : (1048576 : Int) < (m1.length : Int)
  · go_enter Tryz.func4, Tryz.ntmps4
    go_wp2
    go_ret
    exact ⟨rfl, ha w _⟩
  by_cases z0 : (1048576 : Int) < (sizConfig m0 : Int)
  · have CS0 := dHide fun W (hb : Below w.heap.size w W) => szConfig_ _ m0 (1048576 : Int) (by omega) (by omega) W (dUnhide A0 W hb)
    rw [lft_no z0] at CS0
    clear z0
    go_enter Tryz.func4, Tryz.ntmps4
    go_wp2_with fail
    have B := ha w (.cells #[.slice v0a m0.1.length v0c, .int .i64 m0.2] 24)
    have X0 := dHide (Sits.box w #[.slice v0a m0.1.length v0c, .int .i64 m0.2] 24)
    have sz0 : Hid (w.heap.size + 1 = (w.alloc (.cells #[.slice v0a m0.1.length v0c, .int .i64 m0.2] 24)).heap.size) := by simp [Hid]
    generalize w.alloc (.cells #[.slice v0a m0.1.length v0c, .int .i64 m0.2] 24) = wb at *
    refine (dUnhide CS0 _ B).mono ?_
    rintro e ws0 ⟨rfl, bs⟩
    have sz1 := dHide bs.size
    replace X0 := dHide ((dUnhide X0).below bs)
    replace B := belowThen B bs
    clear bs CS0
    clear X0
    go_wp2
    go_ret
    exact ⟨rfl, B⟩
  have hs0 : sizConfig m0 ≤ 1048576 := by omega
  have hs1 : sizByteS m1 ≤ 1048576 := by unfold sizByteS; omega
  have hc0 := cntConfig_le hs0
  have hc1 := cntByteS_le hs1
  obtain ⟨R, s1, hR, p1, p2⟩ := bothFnExactWriterRead m0 m1 ok0 ok1 hs0 hs1 w hS
  have CP := dHide p1
  have CI := dHide p2
  have CS0 := dHide fun W (hb : Below w.heap.size w W) => szConfig_ _ m0 (1048576 : Int) (by omega) (by omega) W (dUnhide A0 W hb)
  rw [lft_yes z0] at CS0
  have z0' : ¬ ((1048576 : Int) - (sizConfig m0 : Int) < 0) := by omega
  clear p1 p2 hS r0 ok0 r1 ok1 
  go_enter Tryz.func4, Tryz.ntmps4
  go_wp2_with fail
  have B := ha w (.cells #[.slice v0a m0.1.length v0c, .int .i64 m0.2] 24)
  have X0 := dHide (Sits.box w #[.slice v0a m0.1.length v0c, .int .i64 m0.2] 24)
  have sz0 : Hid (w.heap.size + 1 = (w.alloc (.cells #[.slice v0a m0.1.length v0c, .int .i64 m0.2] 24)).heap.size) := by simp [Hid]
  generalize w.alloc (.cells #[.slice v0a m0.1.length v0c, .int .i64 m0.2] 24) = wb at *
  refine (dUnhide CS0 _ B).mono ?_
  rintro e ws0 ⟨rfl, bs⟩
  have sz1 := dHide bs.size
  replace X0 := dHide ((dUnhide X0).below bs)
  replace B := belowThen B bs
  clear bs CS0
  have k2 := (dUnhide X0).now 0 _ rfl
  have k3 := (dUnhide X0).now 1 _ rfl
  go_wp2_with fail
  refine (toConfig_ _ m0 _ hs0 (dUnhide A0 _ B)).mono ?_
  rintro e w6 ⟨u5, rfl, T4, b7⟩
  clear k2 k3
  have sz8 := dHide b7.size
  replace X0 := dHide ((dUnhide X0).below b7)
  replace B := belowThen B b7
  replace T4 := dHide T4
  clear b7
  obtain ⟨u5a, u5c, rfl, u5l⟩ := formConfig (dUnhide T4).now.rd
  go_wp2_with fail
  refine (toByteS_ _ m1 _ hs1 (dUnhide A1 _ B)).mono ?_
  rintro e w11 ⟨u10, rfl, T9, b12⟩
  have sz13 := dHide b12.size
  replace X0 := dHide ((dUnhide X0).below b12)
  replace T4 := dHide ((dUnhide T4).below b12)
  replace B := belowThen B b12
  replace T9 := dHide T9
  clear b12
  obtain ⟨u10a, u10c, rfl, u10l⟩ := formByteS (dUnhide T9).now.rd
  go_wp2_with fail
  refine (dUnhide CP _ _ _ (dUnhide T4).now.rd (dUnhide T9).now.rd).mono ?_
  rintro e w3 ⟨uw, rfl, OW, bw⟩
  clear T4 T9
  have sz14 := dHide bw.size
  replace X0 := dHide ((dUnhide X0).below bw)
  replace B := belowThen B bw
  replace OW := dHide OW
  clear bw CP
  obtain ⟨uwa, uwc, rfl, uwl⟩ := formWriter (dUnhide OW).now.rd
  have X15 := Sits.box w3 #[.int .i64 R.epoch, .slice uwa R.words.length uwc] 44
  have ba := ha w3 (.cells #[.int .i64 R.epoch, .slice uwa R.words.length uwc] 44)
  have sz17 := dHide ba.size
  replace X0 := dHide ((dUnhide X0).below ba)
  replace OW := dHide ((dUnhide OW).below ba)
  replace B := belowThen B ba
  have sz18 : Hid (w3.heap.size + 1 = (w3.alloc (.cells #[.int .i64 R.epoch, .slice uwa R.words.length uwc] 44)).heap.size) := by simp [Hid]
  replace X15 := dHide X15
  clear ba
  have k19 := (dUnhide X0).now 0 _ rfl
  have k20 := (dUnhide X0).now 1 _ rfl
  go_wp2_with fail
  generalize hbx16 : w3.heap.size = bx16 at *
  generalize w3.alloc (.cells #[.int .i64 R.epoch, .slice uwa R.words.length uwc] 44) = w21 at *
  have sz22 := dHide hbx16
  clear hbx16
  have k23 := (dUnhide X0).now 0 _ rfl
  have k24 := (dUnhide X0).now 1 _ rfl
  refine (toConfig_ _ m0 _ hs0 (dUnhide A0 _ B)).mono ?_
  rintro e w27 ⟨u26, rfl, T25, b28⟩
  clear k23 k24
  clear k19 k20
  have sz29 := dHide b28.size
  replace X0 := dHide ((dUnhide X0).below b28)
  replace OW := dHide ((dUnhide OW).below b28)
  replace X15 := dHide ((dUnhide X15).below b28)
  replace B := belowThen B b28
  replace T25 := dHide T25
  clear b28
  obtain ⟨u26a, u26c, rfl, u26l⟩ := formConfig (dUnhide T25).now.rd
  have X30 := Sits.box w27 #[.slice u26a m0.1.length u26c, .int .i64 m0.2] 32
  have ba := ha w27 (.cells #[.slice u26a m0.1.length u26c, .int .i64 m0.2] 32)
  have sz32 := dHide ba.size
  replace X0 := dHide ((dUnhide X0).below ba)
  replace OW := dHide ((dUnhide OW).below ba)
  replace X15 := dHide ((dUnhide X15).below ba)
  replace T25 := dHide ((dUnhide T25).below ba)
  replace B := belowThen B ba
  have sz33 : Hid (w27.heap.size + 1 = (w27.alloc (.cells #[.slice u26a m0.1.length u26c, .int .i64 m0.2] 32)).heap.size) := by simp [Hid]
  replace X30 := dHide X30
  clear ba
  go_wp2_with fail
  generalize hbx31 : w27.heap.size = bx31 at *
  generalize w27.alloc (.cells #[.slice u26a m0.1.length u26c, .int .i64 m0.2] 32) = w34 at *
  have sz35 := dHide hbx31
  clear hbx31
  refine (toByteS_ _ m1 _ hs1 (dUnhide A1 _ B)).mono ?_
  rintro e w38 ⟨u37, rfl, T36, b39⟩
  have sz40 := dHide b39.size
  replace X0 := dHide ((dUnhide X0).below b39)
  replace OW := dHide ((dUnhide OW).below b39)
  replace X15 := dHide ((dUnhide X15).below b39)
  replace T25 := dHide ((dUnhide T25).below b39)
  replace X30 := dHide ((dUnhide X30).below b39)
  replace B := belowThen B b39
  replace T36 := dHide T36
  clear b39
  obtain ⟨u37a, u37c, rfl, u37l⟩ := formByteS (dUnhide T36).now.rd
  have k41 := (dUnhide X30).now 0 _ rfl
  have k42 := (dUnhide X30).now 1 _ rfl
  go_wp2_with fail
  refine (dUnhide CI _ B _ _ (dUnhide T25).now.rd (dUnhide T36).now.rd).mono ?_
  rintro e w43 ⟨ug, rfl, OG, b44⟩
  clear k41 k42
  have sz45 := dHide b44.size
  replace X0 := dHide ((dUnhide X0).below b44)
  replace OW := dHide ((dUnhide OW).below b44)
  replace X15 := dHide ((dUnhide X15).below b44)
  replace T25 := dHide ((dUnhide T25).below b44)
  replace X30 := dHide ((dUnhide X30).below b44)
  replace T36 := dHide ((dUnhide T36).below b44)
  replace B := belowThen B b44
  replace OG := dHide OG
  clear b44
  obtain ⟨uga, ugc, rfl, ugl⟩ := formWriter (dUnhide OG).now.rd
  have X46 := Sits.box w43 #[.int .i64 R.epoch, .slice uga R.words.length ugc] 44
  have ba := ha w43 (.cells #[.int .i64 R.epoch, .slice uga R.words.length ugc] 44)
  have sz48 := dHide ba.size
  replace X0 := dHide ((dUnhide X0).below ba)
  replace OW := dHide ((dUnhide OW).below ba)
  replace X15 := dHide ((dUnhide X15).below ba)
  replace T25 := dHide ((dUnhide T25).below ba)
  replace X30 := dHide ((dUnhide X30).below ba)
  replace T36 := dHide ((dUnhide T36).below ba)
  replace OG := dHide ((dUnhide OG).below ba)
  replace B := belowThen B ba
  have sz49 : Hid (w43.heap.size + 1 = (w43.alloc (.cells #[.int .i64 R.epoch, .slice uga R.words.length ugc] 44)).heap.size) := by simp [Hid]
  replace X46 := dHide X46
  clear ba
  have k50 := (dUnhide X46).now 0 _ rfl
  have k51 := (dUnhide X46).now 1 _ rfl
  have k52 := (dUnhide X15).now 0 _ rfl
  have k53 := (dUnhide X15).now 1 _ rfl
  go_wp2_with fail
  generalize hbx47 : w43.heap.size = bx47 at *
  generalize w43.alloc (.cells #[.int .i64 R.epoch, .slice uga R.words.length ugc] 44) = w54 at *
  have sz55 := dHide hbx47
  clear hbx47
  refine (eqWriter_ _ _ _ _ (dUnhide OG).now.rd (dUnhide OW).now.rd).mono ?_
  rintro e w56 ⟨rfl, b57⟩
  clear k50 k51 k52 k53
  have sz58 := dHide b57.size
  replace X0 := dHide ((dUnhide X0).below b57)
  replace OW := dHide ((dUnhide OW).below b57)
  replace X15 := dHide ((dUnhide X15).below b57)
  replace T25 := dHide ((dUnhide T25).below b57)
  replace X30 := dHide ((dUnhide X30).below b57)
  replace T36 := dHide ((dUnhide T36).below b57)
  replace OG := dHide ((dUnhide OG).below b57)
  replace X46 := dHide ((dUnhide X46).below b57)
  replace B := belowThen B b57
  clear b57
  have k59 := (dUnhide X30).now 0 _ rfl
  have k60 := (dUnhide X30).now 1 _ rfl
  have k61 := (dUnhide X0).now 0 _ rfl
  have k62 := (dUnhide X0).now 1 _ rfl
  have hbr := Below.refl w56.heap.size w56
  go_wp2_with fail
  go_cut [56] (fun sv wx => sv = .bool false ∧ Below w56.heap.size w56 wx)
  case first =>
    go_region_held3 (fun W => W.cell? ⟨bx31, 0, none⟩ = some (.slice u26a m0.1.length u26c) ∧ W.cell? ⟨bx31, 1, none⟩ = some (.int .i64 m0.2) ∧ W.cell? ⟨w.heap.size, 0, none⟩ = some (.slice v0a m0.1.length v0c) ∧ W.cell? ⟨w.heap.size, 1, none⟩ = some (.int .i64 m0.2)) (go_keep)
      (first
        | (go_at_call 7; refine (toConfig_ _ m0 _ hs0 (dUnhide A0 _ (belowThen B hbr.drew))).mono ?_; rintro e w8 ⟨o8, rfl, q8, b8⟩; have hb8 := belowThen hbr.drew b8; have k63 := ((dUnhide X30).at hb8) 0 _ rfl; have k64 := ((dUnhide X30).at hb8) 1 _ rfl; have k65 := ((dUnhide X0).at hb8) 0 _ rfl; have k66 := ((dUnhide X0).at hb8) 1 _ rfl; have Q8 := dHide q8; obtain ⟨o8a, o8c, rfl, o8l⟩ := formConfig q8.now.rd; clear q8)
        | (go_at_call 11; refine (eqConfig_ _ _ _ _ ((dUnhide T25).at hb8).rd (dUnhide Q8).now.rd).mono ?_; rintro e w9 ⟨rfl, b9⟩; have hb9 := belowThen hb8 b9; have k67 := ((dUnhide X30).at hb9) 0 _ rfl; have k68 := ((dUnhide X30).at hb9) 1 _ rfl; have k69 := ((dUnhide X0).at hb9) 0 _ rfl; have k70 := ((dUnhide X0).at hb9) 1 _ rfl))
    all_goals
      go_wp2_with fail
      go_meet
      case rel => exact ⟨rfl, hb9⟩
  case rest =>
    obtain ⟨rfl, bc⟩ := hcut
    clear hbr
    clear k59 k60 k61 k62
    have sz71 := dHide bc.size
    replace X0 := dHide ((dUnhide X0).below bc)
    replace OW := dHide ((dUnhide OW).below bc)
    replace X15 := dHide ((dUnhide X15).below bc)
    replace T25 := dHide ((dUnhide T25).below bc)
    replace X30 := dHide ((dUnhide X30).below bc)
    replace T36 := dHide ((dUnhide T36).below bc)
    replace OG := dHide ((dUnhide OG).below bc)
    replace X46 := dHide ((dUnhide X46).below bc)
    replace B := belowThen B bc
    generalize wc = w72 at *
    clear bc
    go_wp2_with fail
    refine (toByteS_ _ m1 _ hs1 (dUnhide A1 _ B)).mono ?_
    rintro e w75 ⟨u74, rfl, T73, b76⟩
    have sz77 := dHide b76.size
    replace X0 := dHide ((dUnhide X0).below b76)
    replace OW := dHide ((dUnhide OW).below b76)
    replace X15 := dHide ((dUnhide X15).below b76)
    replace T25 := dHide ((dUnhide T25).below b76)
    replace X30 := dHide ((dUnhide X30).below b76)
    replace T36 := dHide ((dUnhide T36).below b76)
    replace OG := dHide ((dUnhide OG).below b76)
    replace X46 := dHide ((dUnhide X46).below b76)
    replace B := belowThen B b76
    replace T73 := dHide T73
    clear b76
    obtain ⟨u74a, u74c, rfl, u74l⟩ := formByteS (dUnhide T73).now.rd
    go_wp2_with fail
    refine (eqByteS_ _ _ _ _ (dUnhide T36).now.rd (dUnhide T73).now.rd).mono ?_
    rintro e w78 ⟨rfl, b79⟩
    clear T73
    have sz80 := dHide b79.size
    replace X0 := dHide ((dUnhide X0).below b79)
    replace OW := dHide ((dUnhide OW).below b79)
    replace X15 := dHide ((dUnhide X15).below b79)
    replace T25 := dHide ((dUnhide T25).below b79)
    replace X30 := dHide ((dUnhide X30).below b79)
    replace T36 := dHide ((dUnhide T36).below b79)
    replace OG := dHide ((dUnhide OG).below b79)
    replace X46 := dHide ((dUnhide X46).below b79)
    replace B := belowThen B b79
    clear b79
    have k81 := (dUnhide X30).now 0 _ rfl
    have k82 := (dUnhide X30).now 1 _ rfl
    go_wp2_with fail
    refine (markConfig_ _ _ _ _ 1 _ (by omega) (by omega) (dUnhide T25)).mono ?_
    rintro e w83 ⟨rfl, M85, b84⟩
    clear k81 k82
    replace X0 := dHide ((dUnhide X0).wr b84 (by have := dUnhide sz0; have := dUnhide sz1; have := dUnhide sz8; have := dUnhide sz13; have := dUnhide sz14; have := dUnhide sz17; have := dUnhide sz18; have := dUnhide sz22; have := dUnhide sz29; have := dUnhide sz32; have := dUnhide sz33; have := dUnhide sz35; have := dUnhide sz40; have := dUnhide sz45; have := dUnhide sz48; have := dUnhide sz49; have := dUnhide sz55; have := dUnhide sz58; have := dUnhide sz71; have := dUnhide sz77; have := dUnhide sz80; omega))
    replace OW := dHide ((dUnhide OW).wr b84 (by have := dUnhide sz0; have := dUnhide sz1; have := dUnhide sz8; have := dUnhide sz13; have := dUnhide sz14; have := dUnhide sz17; have := dUnhide sz18; have := dUnhide sz22; have := dUnhide sz29; have := dUnhide sz32; have := dUnhide sz33; have := dUnhide sz35; have := dUnhide sz40; have := dUnhide sz45; have := dUnhide sz48; have := dUnhide sz49; have := dUnhide sz55; have := dUnhide sz58; have := dUnhide sz71; have := dUnhide sz77; have := dUnhide sz80; omega))
    replace X15 := dHide ((dUnhide X15).wr b84 (by have := dUnhide sz0; have := dUnhide sz1; have := dUnhide sz8; have := dUnhide sz13; have := dUnhide sz14; have := dUnhide sz17; have := dUnhide sz18; have := dUnhide sz22; have := dUnhide sz29; have := dUnhide sz32; have := dUnhide sz33; have := dUnhide sz35; have := dUnhide sz40; have := dUnhide sz45; have := dUnhide sz48; have := dUnhide sz49; have := dUnhide sz55; have := dUnhide sz58; have := dUnhide sz71; have := dUnhide sz77; have := dUnhide sz80; omega))
    replace X30 := dHide ((dUnhide X30).wr b84 (by have := dUnhide sz0; have := dUnhide sz1; have := dUnhide sz8; have := dUnhide sz13; have := dUnhide sz14; have := dUnhide sz17; have := dUnhide sz18; have := dUnhide sz22; have := dUnhide sz29; have := dUnhide sz32; have := dUnhide sz33; have := dUnhide sz35; have := dUnhide sz40; have := dUnhide sz45; have := dUnhide sz48; have := dUnhide sz49; have := dUnhide sz55; have := dUnhide sz58; have := dUnhide sz71; have := dUnhide sz77; have := dUnhide sz80; omega))
    replace T36 := dHide ((dUnhide T36).wr b84 (by have := dUnhide sz0; have := dUnhide sz1; have := dUnhide sz8; have := dUnhide sz13; have := dUnhide sz14; have := dUnhide sz17; have := dUnhide sz18; have := dUnhide sz22; have := dUnhide sz29; have := dUnhide sz32; have := dUnhide sz33; have := dUnhide sz35; have := dUnhide sz40; have := dUnhide sz45; have := dUnhide sz48; have := dUnhide sz49; have := dUnhide sz55; have := dUnhide sz58; have := dUnhide sz71; have := dUnhide sz77; have := dUnhide sz80; omega))
    replace OG := dHide ((dUnhide OG).wr b84 (by have := dUnhide sz0; have := dUnhide sz1; have := dUnhide sz8; have := dUnhide sz13; have := dUnhide sz14; have := dUnhide sz17; have := dUnhide sz18; have := dUnhide sz22; have := dUnhide sz29; have := dUnhide sz32; have := dUnhide sz33; have := dUnhide sz35; have := dUnhide sz40; have := dUnhide sz45; have := dUnhide sz48; have := dUnhide sz49; have := dUnhide sz55; have := dUnhide sz58; have := dUnhide sz71; have := dUnhide sz77; have := dUnhide sz80; omega))
    replace X46 := dHide ((dUnhide X46).wr b84 (by have := dUnhide sz0; have := dUnhide sz1; have := dUnhide sz8; have := dUnhide sz13; have := dUnhide sz14; have := dUnhide sz17; have := dUnhide sz18; have := dUnhide sz22; have := dUnhide sz29; have := dUnhide sz32; have := dUnhide sz33; have := dUnhide sz35; have := dUnhide sz40; have := dUnhide sz45; have := dUnhide sz48; have := dUnhide sz49; have := dUnhide sz55; have := dUnhide sz58; have := dUnhide sz71; have := dUnhide sz77; have := dUnhide sz80; omega))
    replace B := b84.below B B.size (by have := dUnhide sz0; have := dUnhide sz1; have := dUnhide sz8; have := dUnhide sz13; have := dUnhide sz14; have := dUnhide sz17; have := dUnhide sz18; have := dUnhide sz22; have := dUnhide sz29; have := dUnhide sz32; have := dUnhide sz33; have := dUnhide sz35; have := dUnhide sz40; have := dUnhide sz45; have := dUnhide sz48; have := dUnhide sz49; have := dUnhide sz55; have := dUnhide sz58; have := dUnhide sz71; have := dUnhide sz77; have := dUnhide sz80; omega)
    have sz86 := dHide b84.size
    replace M85 := dHide M85
    clear b84 T25
    go_wp2_with fail
    refine (markByteS_ _ _ _ _ (1 + cntConfig m0) _ (by omega) (by omega) (dUnhide T36)).mono ?_
    rintro e w87 ⟨rfl, M89, b88⟩
    replace X0 := dHide ((dUnhide X0).wr b88 (by have := dUnhide sz0; have := dUnhide sz1; have := dUnhide sz8; have := dUnhide sz13; have := dUnhide sz14; have := dUnhide sz17; have := dUnhide sz18; have := dUnhide sz22; have := dUnhide sz29; have := dUnhide sz32; have := dUnhide sz33; have := dUnhide sz35; have := dUnhide sz40; have := dUnhide sz45; have := dUnhide sz48; have := dUnhide sz49; have := dUnhide sz55; have := dUnhide sz58; have := dUnhide sz71; have := dUnhide sz77; have := dUnhide sz80; have := dUnhide sz86; omega))
    replace OW := dHide ((dUnhide OW).wr b88 (by have := dUnhide sz0; have := dUnhide sz1; have := dUnhide sz8; have := dUnhide sz13; have := dUnhide sz14; have := dUnhide sz17; have := dUnhide sz18; have := dUnhide sz22; have := dUnhide sz29; have := dUnhide sz32; have := dUnhide sz33; have := dUnhide sz35; have := dUnhide sz40; have := dUnhide sz45; have := dUnhide sz48; have := dUnhide sz49; have := dUnhide sz55; have := dUnhide sz58; have := dUnhide sz71; have := dUnhide sz77; have := dUnhide sz80; have := dUnhide sz86; omega))
    replace X15 := dHide ((dUnhide X15).wr b88 (by have := dUnhide sz0; have := dUnhide sz1; have := dUnhide sz8; have := dUnhide sz13; have := dUnhide sz14; have := dUnhide sz17; have := dUnhide sz18; have := dUnhide sz22; have := dUnhide sz29; have := dUnhide sz32; have := dUnhide sz33; have := dUnhide sz35; have := dUnhide sz40; have := dUnhide sz45; have := dUnhide sz48; have := dUnhide sz49; have := dUnhide sz55; have := dUnhide sz58; have := dUnhide sz71; have := dUnhide sz77; have := dUnhide sz80; have := dUnhide sz86; omega))
    replace X30 := dHide ((dUnhide X30).wr b88 (by have := dUnhide sz0; have := dUnhide sz1; have := dUnhide sz8; have := dUnhide sz13; have := dUnhide sz14; have := dUnhide sz17; have := dUnhide sz18; have := dUnhide sz22; have := dUnhide sz29; have := dUnhide sz32; have := dUnhide sz33; have := dUnhide sz35; have := dUnhide sz40; have := dUnhide sz45; have := dUnhide sz48; have := dUnhide sz49; have := dUnhide sz55; have := dUnhide sz58; have := dUnhide sz71; have := dUnhide sz77; have := dUnhide sz80; have := dUnhide sz86; omega))
    replace OG := dHide ((dUnhide OG).wr b88 (by have := dUnhide sz0; have := dUnhide sz1; have := dUnhide sz8; have := dUnhide sz13; have := dUnhide sz14; have := dUnhide sz17; have := dUnhide sz18; have := dUnhide sz22; have := dUnhide sz29; have := dUnhide sz32; have := dUnhide sz33; have := dUnhide sz35; have := dUnhide sz40; have := dUnhide sz45; have := dUnhide sz48; have := dUnhide sz49; have := dUnhide sz55; have := dUnhide sz58; have := dUnhide sz71; have := dUnhide sz77; have := dUnhide sz80; have := dUnhide sz86; omega))
    replace X46 := dHide ((dUnhide X46).wr b88 (by have := dUnhide sz0; have := dUnhide sz1; have := dUnhide sz8; have := dUnhide sz13; have := dUnhide sz14; have := dUnhide sz17; have := dUnhide sz18; have := dUnhide sz22; have := dUnhide sz29; have := dUnhide sz32; have := dUnhide sz33; have := dUnhide sz35; have := dUnhide sz40; have := dUnhide sz45; have := dUnhide sz48; have := dUnhide sz49; have := dUnhide sz55; have := dUnhide sz58; have := dUnhide sz71; have := dUnhide sz77; have := dUnhide sz80; have := dUnhide sz86; omega))
    replace M85 := dHide ((dUnhide M85).wr b88 (by have := dUnhide sz0; have := dUnhide sz1; have := dUnhide sz8; have := dUnhide sz13; have := dUnhide sz14; have := dUnhide sz17; have := dUnhide sz18; have := dUnhide sz22; have := dUnhide sz29; have := dUnhide sz32; have := dUnhide sz33; have := dUnhide sz35; have := dUnhide sz40; have := dUnhide sz45; have := dUnhide sz48; have := dUnhide sz49; have := dUnhide sz55; have := dUnhide sz58; have := dUnhide sz71; have := dUnhide sz77; have := dUnhide sz80; have := dUnhide sz86; omega))
    replace B := b88.below B B.size (by have := dUnhide sz0; have := dUnhide sz1; have := dUnhide sz8; have := dUnhide sz13; have := dUnhide sz14; have := dUnhide sz17; have := dUnhide sz18; have := dUnhide sz22; have := dUnhide sz29; have := dUnhide sz32; have := dUnhide sz33; have := dUnhide sz35; have := dUnhide sz40; have := dUnhide sz45; have := dUnhide sz48; have := dUnhide sz49; have := dUnhide sz55; have := dUnhide sz58; have := dUnhide sz71; have := dUnhide sz77; have := dUnhide sz80; have := dUnhide sz86; omega)
    have sz90 := dHide b88.size
    replace M89 := dHide M89
    clear b88 T36
    clear M85 M89 X30
    have hk : ¬ (((1 + cntConfig m0 + cntByteS m1 : Nat) : Int) < 0) := by omega
    have k91 := (dUnhide X46).now 0 _ rfl
    have k92 := (dUnhide X46).now 1 _ rfl
    have k93 := (dUnhide X15).now 0 _ rfl
    have k94 := (dUnhide X15).now 1 _ rfl
    go_wp2_with fail
    refine (eqWriter_ _ _ _ _ (dUnhide OG).now.rd (dUnhide OW).now.rd).mono ?_
    rintro e w95 ⟨rfl, b96⟩
    clear k91 k92 k93 k94
    have sz97 := dHide b96.size
    replace X0 := dHide ((dUnhide X0).below b96)
    replace OW := dHide ((dUnhide OW).below b96)
    replace X15 := dHide ((dUnhide X15).below b96)
    replace OG := dHide ((dUnhide OG).below b96)
    replace X46 := dHide ((dUnhide X46).below b96)
    replace B := belowThen B b96
    clear b96
    have k98 := (dUnhide X46).now 0 _ rfl
    have k99 := (dUnhide X46).now 1 _ rfl
    go_wp2_with fail
    refine (markWriter_ _ _ _ _ 1 _ (by omega) (by omega) (dUnhide OG)).mono ?_
    rintro e w100 ⟨rfl, M102, b101⟩
    clear k98 k99
    replace X0 := dHide ((dUnhide X0).wr b101 (by have := dUnhide sz0; have := dUnhide sz1; have := dUnhide sz8; have := dUnhide sz13; have := dUnhide sz14; have := dUnhide sz17; have := dUnhide sz18; have := dUnhide sz22; have := dUnhide sz29; have := dUnhide sz32; have := dUnhide sz33; have := dUnhide sz35; have := dUnhide sz40; have := dUnhide sz45; have := dUnhide sz48; have := dUnhide sz49; have := dUnhide sz55; have := dUnhide sz58; have := dUnhide sz71; have := dUnhide sz77; have := dUnhide sz80; have := dUnhide sz86; have := dUnhide sz90; have := dUnhide sz97; omega))
    replace OW := dHide ((dUnhide OW).wr b101 (by have := dUnhide sz0; have := dUnhide sz1; have := dUnhide sz8; have := dUnhide sz13; have := dUnhide sz14; have := dUnhide sz17; have := dUnhide sz18; have := dUnhide sz22; have := dUnhide sz29; have := dUnhide sz32; have := dUnhide sz33; have := dUnhide sz35; have := dUnhide sz40; have := dUnhide sz45; have := dUnhide sz48; have := dUnhide sz49; have := dUnhide sz55; have := dUnhide sz58; have := dUnhide sz71; have := dUnhide sz77; have := dUnhide sz80; have := dUnhide sz86; have := dUnhide sz90; have := dUnhide sz97; omega))
    replace X15 := dHide ((dUnhide X15).wr b101 (by have := dUnhide sz0; have := dUnhide sz1; have := dUnhide sz8; have := dUnhide sz13; have := dUnhide sz14; have := dUnhide sz17; have := dUnhide sz18; have := dUnhide sz22; have := dUnhide sz29; have := dUnhide sz32; have := dUnhide sz33; have := dUnhide sz35; have := dUnhide sz40; have := dUnhide sz45; have := dUnhide sz48; have := dUnhide sz49; have := dUnhide sz55; have := dUnhide sz58; have := dUnhide sz71; have := dUnhide sz77; have := dUnhide sz80; have := dUnhide sz86; have := dUnhide sz90; have := dUnhide sz97; omega))
    replace X46 := dHide ((dUnhide X46).wr b101 (by have := dUnhide sz0; have := dUnhide sz1; have := dUnhide sz8; have := dUnhide sz13; have := dUnhide sz14; have := dUnhide sz17; have := dUnhide sz18; have := dUnhide sz22; have := dUnhide sz29; have := dUnhide sz32; have := dUnhide sz33; have := dUnhide sz35; have := dUnhide sz40; have := dUnhide sz45; have := dUnhide sz48; have := dUnhide sz49; have := dUnhide sz55; have := dUnhide sz58; have := dUnhide sz71; have := dUnhide sz77; have := dUnhide sz80; have := dUnhide sz86; have := dUnhide sz90; have := dUnhide sz97; omega))
    replace B := b101.below B B.size (by have := dUnhide sz0; have := dUnhide sz1; have := dUnhide sz8; have := dUnhide sz13; have := dUnhide sz14; have := dUnhide sz17; have := dUnhide sz18; have := dUnhide sz22; have := dUnhide sz29; have := dUnhide sz32; have := dUnhide sz33; have := dUnhide sz35; have := dUnhide sz40; have := dUnhide sz45; have := dUnhide sz48; have := dUnhide sz49; have := dUnhide sz55; have := dUnhide sz58; have := dUnhide sz71; have := dUnhide sz77; have := dUnhide sz80; have := dUnhide sz86; have := dUnhide sz90; have := dUnhide sz97; omega)
    have sz103 := dHide b101.size
    replace M102 := dHide M102
    clear b101 OG
    have k104 := (dUnhide X46).now 0 _ rfl
    have k105 := (dUnhide X46).now 1 _ rfl
    go_wp2_with fail
    refine (heldWriter_ _ R 1 _ (by omega) (by omega) (dUnhide M102).now.rd).mono ?_
    rintro e w106 ⟨rfl, b107⟩
    clear k104 k105
    have sz108 := dHide b107.size
    replace X0 := dHide ((dUnhide X0).below b107)
    replace OW := dHide ((dUnhide OW).below b107)
    replace X15 := dHide ((dUnhide X15).below b107)
    replace X46 := dHide ((dUnhide X46).below b107)
    replace M102 := dHide ((dUnhide M102).below b107)
    replace B := belowThen B b107
    clear b107
    have hq : ¬ (((1 + cntWriter R : Nat) : Int) < 0) := by omega
    have k109 := (dUnhide X0).now 0 _ rfl
    have k110 := (dUnhide X0).now 1 _ rfl
    go_wp2_with fail
    refine (toConfig_ _ m0 _ hs0 (dUnhide A0 _ B)).mono ?_
    rintro e w113 ⟨u112, rfl, T111, b114⟩
    clear k109 k110
    have sz115 := dHide b114.size
    replace X0 := dHide ((dUnhide X0).below b114)
    replace OW := dHide ((dUnhide OW).below b114)
    replace X15 := dHide ((dUnhide X15).below b114)
    replace X46 := dHide ((dUnhide X46).below b114)
    replace M102 := dHide ((dUnhide M102).below b114)
    replace B := belowThen B b114
    replace T111 := dHide T111
    clear b114
    obtain ⟨u112a, u112c, rfl, u112l⟩ := formConfig (dUnhide T111).now.rd
    go_wp2_with fail
    refine (toByteS_ _ m1 _ hs1 (dUnhide A1 _ B)).mono ?_
    rintro e w118 ⟨u117, rfl, T116, b119⟩
    have sz120 := dHide b119.size
    replace X0 := dHide ((dUnhide X0).below b119)
    replace OW := dHide ((dUnhide OW).below b119)
    replace X15 := dHide ((dUnhide X15).below b119)
    replace X46 := dHide ((dUnhide X46).below b119)
    replace M102 := dHide ((dUnhide M102).below b119)
    replace T111 := dHide ((dUnhide T111).below b119)
    replace B := belowThen B b119
    replace T116 := dHide T116
    clear b119
    obtain ⟨u117a, u117c, rfl, u117l⟩ := formByteS (dUnhide T116).now.rd
    go_wp2_with fail
    refine (dUnhide CI _ B _ _ (dUnhide T111).now.rd (dUnhide T116).now.rd).mono ?_
    rintro e w121 ⟨uh, rfl, OH, b122⟩
    clear T111 T116
    have sz123 := dHide b122.size
    replace X0 := dHide ((dUnhide X0).below b122)
    replace OW := dHide ((dUnhide OW).below b122)
    replace X15 := dHide ((dUnhide X15).below b122)
    replace X46 := dHide ((dUnhide X46).below b122)
    replace M102 := dHide ((dUnhide M102).below b122)
    replace B := belowThen B b122
    replace OH := dHide OH
    clear b122
    obtain ⟨uha, uhc, rfl, uhl⟩ := formWriter (dUnhide OH).now.rd
    have X124 := Sits.box w121 #[.int .i64 R.epoch, .slice uha R.words.length uhc] 44
    have ba := ha w121 (.cells #[.int .i64 R.epoch, .slice uha R.words.length uhc] 44)
    have sz126 := dHide ba.size
    replace X0 := dHide ((dUnhide X0).below ba)
    replace OW := dHide ((dUnhide OW).below ba)
    replace X15 := dHide ((dUnhide X15).below ba)
    replace X46 := dHide ((dUnhide X46).below ba)
    replace M102 := dHide ((dUnhide M102).below ba)
    replace OH := dHide ((dUnhide OH).below ba)
    replace B := belowThen B ba
    have sz127 : Hid (w121.heap.size + 1 = (w121.alloc (.cells #[.int .i64 R.epoch, .slice uha R.words.length uhc] 44)).heap.size) := by simp [Hid]
    replace X124 := dHide X124
    clear ba
    have k128 := (dUnhide X124).now 0 _ rfl
    have k129 := (dUnhide X124).now 1 _ rfl
    have k130 := (dUnhide X15).now 0 _ rfl
    have k131 := (dUnhide X15).now 1 _ rfl
    go_wp2_with fail
    generalize hbx125 : w121.heap.size = bx125 at *
    generalize w121.alloc (.cells #[.int .i64 R.epoch, .slice uha R.words.length uhc] 44) = w132 at *
    have sz133 := dHide hbx125
    clear hbx125
    refine (eqWriter_ _ _ _ _ (dUnhide OH).now.rd (dUnhide OW).now.rd).mono ?_
    rintro e w134 ⟨rfl, b135⟩
    clear k128 k129 k130 k131
    have sz136 := dHide b135.size
    replace X0 := dHide ((dUnhide X0).below b135)
    replace OW := dHide ((dUnhide OW).below b135)
    replace X15 := dHide ((dUnhide X15).below b135)
    replace X46 := dHide ((dUnhide X46).below b135)
    replace M102 := dHide ((dUnhide M102).below b135)
    replace OH := dHide ((dUnhide OH).below b135)
    replace X124 := dHide ((dUnhide X124).below b135)
    replace B := belowThen B b135
    clear b135
    have k137 := (dUnhide X46).now 0 _ rfl
    have k138 := (dUnhide X46).now 1 _ rfl
    go_wp2_with fail
    refine (heldWriter_ _ R 1 _ (by omega) (by omega) (dUnhide M102).now.rd).mono ?_
    rintro e w139 ⟨rfl, b140⟩
    clear k137 k138
    have sz141 := dHide b140.size
    replace X0 := dHide ((dUnhide X0).below b140)
    replace OW := dHide ((dUnhide OW).below b140)
    replace X15 := dHide ((dUnhide X15).below b140)
    replace X46 := dHide ((dUnhide X46).below b140)
    replace M102 := dHide ((dUnhide M102).below b140)
    replace OH := dHide ((dUnhide OH).below b140)
    replace X124 := dHide ((dUnhide X124).below b140)
    replace B := belowThen B b140
    clear b140
    clear X0 OW X15 X46 M102 OH X124
    go_wp2
    go_ret
    exact ⟨rfl, B⟩
end Go.Proofs.YtioocibgfhgkhaaGreatDoor
