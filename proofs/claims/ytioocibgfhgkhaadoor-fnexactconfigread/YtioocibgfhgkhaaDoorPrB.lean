/- Records as bytes: the lists of numbers that impl's reader reads. -/
import Derived.Test.YtioocibgfhgkhaaDoorPrA
import Derived.Test.YtioocibgfhgkhaaDoorPkD
import Derived.Test.YtioocibgfhgkhaaDoorPkF
namespace Go.Proofs.YtioocibgfhgkhaaDoor
open Go.ChangeShapes Go.WideShapes Go.ChangeAt Go.RowKit
set_option linter.unusedVariables false
set_option linter.unusedSimpArgs false
set_option maxRecDepth 100000

theorem Rc.wr {W W' : World} {ab q : Nat} {v : Value} {ok : Bool} (h : Rc W ab v q ok) {row : Option Nat} (g : W.grownBy W' row) (h1 : row ≠ some ab) (h2 : row ≠ some (ab + 1)) : Rc W' ab v q ok := by
  have key : ∀ wr y, RcW W ab v wr y → RcW W' ab v wr y := fun wr y h => by
    obtain ⟨hX, hP⟩ := h
    refine ⟨hX.grown g h2, ?_, ?_⟩
    · exact (World.cell?_of_block (a := ⟨ab, 0, none⟩) (g.block ab (dCell_lt hP.1) (fun e => h1 e.symm))).trans hP.1
    · exact (World.frozen?_of_block (a := ⟨ab, 0, none⟩) (g.block ab (dCell_lt hP.1) (fun e => h1 e.symm))).trans hP.2
  cases ok
  · obtain ⟨p, y, h⟩ := h.isNo
    exact Rc.no (key _ _ h)
  · exact Rc.yes (key _ _ h.isYes)
theorem Wr.grown {lo hi : Nat} {w w1 w2 : World} {row : Option Nat} (h : Wr lo hi w w1) (g : w1.grownBy w2 row) (hr : ∀ k, row = some k → w.heap.size ≤ k) : Wr lo hi w w2 :=
  ⟨g.os.trans h.os, g.tape.trans h.tape, g.output.trans h.output, Nat.le_trans h.size g.size, fun k hk hn => (g.block k (Nat.lt_of_lt_of_le hk h.size) (fun e => by have := hr k e.symm; omega)).trans (h.block k hk hn)⟩
theorem own_wr17 {B lo hi n : Nat} {w w' : World} {v : Value} {l : List Value} (h : w.ownsRow B 3 1 v n l) (hd : Wr lo hi w w') (hb : hi ≤ B) : w'.ownsRow B 3 1 v n l := by
  rcases h.2 with h0 | ⟨g, cap, cur, h1, h2, h3, h4⟩
  · exact ⟨h.1, .inl h0⟩
  · exact ⟨h.1, .inr ⟨g, cap, cur, h1, h2, (hd.block g (Array.getElem?_eq_some_iff.1 h3).1 (by omega)).trans h3, h4⟩⟩
theorem Rc.cell2 {W : World} {ab q : Nat} {v : Value} {ok : Bool} (h : Rc W ab v q ok) : ∃ p, W.cell? ⟨ab + 1, 2, none⟩ = some (if ok = true then .nilIface else wrg p) := by
  cases ok
  · obtain ⟨p, y, h⟩ := h.isNo
    exact ⟨p, (h.1.2 2 _ rfl).1⟩
  · exact ⟨0, (h.isYes.1.2 2 _ rfl).1⟩
set_option maxHeartbeats 8000000 in
theorem listOfI_any (ab : Nat) (v : Value) (bs : List UInt8) (q : Nat) (ok : Bool) (w : World) (hc : Rc w ab v q ok) (HV : ∀ W, Wr ab (ab + 2) w W → Bs W v bs) (hl : bs.length ≤ 1048576) (hq : q ≤ bs.length) (hne : bs = [] ∨ blockOf v ≠ ab) :
    Calls Tryd.prog 55 #[.pointer (some ⟨ab + 1, 0, none⟩), .func (.func 56) #[.pointer (some ⟨ab + 1, 0, none⟩)] #[]] w fun e w' => ∃ u xs, e = .returned u ∧ OwnN w' w.heap.size u xs ∧ ((rdL bs q ok).2.2 = true → xs = (rdL bs q ok).1) ∧ Rc w' ab v (rdL bs q ok).2.1 (rdL bs q ok).2.2 ∧ Wr ab (ab + 2) w w' := by
  have hab := hc.lt
  have HV := dHide HV
  have CN := dHide fun q ok W (hd : Wr ab (ab + 2) w W) (hc : Rc W ab v q ok) => number_any ab v bs q ok W hc (dUnhide HV W hd) hne
  have C1 := dHide (dUnhide CN q ok w (Wr.refl _ _ _) hc)
  have HS : Hid ((rdN bs q ok).2.1 ≤ bs.length ∧ (∀ x : Int, ((rdN bs q ok).2.2 = true → x = (rdN bs q ok).1) → (rdN bs q ok).2.2 = true → rdL bs q ok = rdK bs x.toNat (rdN bs q ok).2.1 true) ∧ ((rdN bs q ok).2.2 = false → (rdL bs q ok).2.2 = false)) := by
    refine ⟨rdN_le bs q ok hq, fun x hx h => ?_, fun h => ?_⟩
    · rw [hx h]; unfold rdL; rw [h]
    · unfold rdL; rw [h, rdK_off]
  generalize rdN bs q ok = R at *
  generalize rdL bs q ok = L at *
  obtain ⟨nI, q1, ok1⟩ := R
  obtain ⟨hq1, hL1, hL0⟩ := dUnhide HS
  simp only at hq1 hL1 hL0 C1
  have HL1 := dHide hL1
  have HL0 := dHide hL0
  clear hc HS hq hL1 hL0
  go_enter Tryd.func55, Tryd.ntmps55
  go_wp2_with fail
  refine (dUnhide C1).mono ?_
  rintro e w1 ⟨x, rfl, ⟨hx0, hx1⟩, hx, hc1, hd1⟩
  obtain ⟨n, rfl⟩ := Int.eq_ofNat_of_zero_le hx0
  have E1 : Hid (ok1 = true → L = rdK bs n q1 true) := fun h => dUnhide HL1 (n : Int) hx h
  have E0 := HL0
  have hs1 := hd1.size
  have HC1 := dHide hc1
  have HD1 := dHide hd1
  clear HL1 HL0 hx hc1 hd1 C1
  go_wp2
  go_loopw [5, 6] (fun ov xv wr => ∃ (k : Nat) (xs : List Int) (p : Nat) (okb : Bool), xv = .int .i64 ((n : Int) - (k : Int)) ∧ xs.length = k ∧ k ≤ n ∧ k ≤ bs.length + 1 ∧ (okb = true → k ≤ p) ∧ p ≤ bs.length ∧ Hid (okb = true → L = (xs ++ (rdK bs (n - k) p true).1, (rdK bs (n - k) p true).2)) ∧ Hid (okb = false → L.2.2 = false) ∧ wr.ownsRow w1.heap.size 3 1 ov xs.length (ncells xs) ∧ Hid (Rc wr ab v p okb) ∧ Hid (Wr ab (ab + 2) w wr) ∧ w1.heap.size ≤ wr.heap.size) (fun _ xv _ => (intOf xv).toNat)
  case atStart => exact ⟨0, [], q1, ok1, by simp, rfl, Nat.zero_le _, Nat.zero_le _, fun _ => Nat.zero_le _, hq1, by simpa [Hid] using dUnhide E1, E0, by simpa [ncells] using World.ownsRow_nil w1 w1.heap.size 3 1, HC1, HD1, Nat.le_refl _⟩
  case round =>
    clear HC1 HD1 E1 E0
    obtain ⟨k, xs, p, okb, rfl, hxl, hkn, hkb, hkp, hp, HK, HZ, hown, HC, HD, hsz⟩ := hrel
    obtain ⟨p2, k2⟩ := (dUnhide HC).cell2
    have GO : Hid ((okb = true → k = n) → (∃ u xs, Ending.returned u5 = .returned u ∧ OwnN wr w.heap.size u xs ∧ (L.2.2 = true → xs = L.1) ∧ Rc wr ab v L.2.1 L.2.2 ∧ Wr ab (ab + 2) w wr)) := by
      intro e
      cases okb with
      | true =>
        have e2 : L = (xs, p, true) := by
          have := dUnhide HK rfl
          rw [e rfl, Nat.sub_self, rdK_zero] at this
          simpa using this
        rw [e2]
        exact ⟨_, xs, rfl, (ownN_of_row hown).mono hs1, fun _ => rfl, dUnhide HC, dUnhide HD⟩
      | false =>
        have e2 := dUnhide HZ rfl
        obtain ⟨L1, L2, L3⟩ := L
        simp only at e2
        subst e2
        obtain ⟨pp, yy, hr⟩ := (dUnhide HC).isNo
        exact ⟨_, xs, rfl, (ownN_of_row hown).mono hs1, fun h => (by cases h), Rc.no hr, dUnhide HD⟩
    by_cases hlt : (0 : Int) < (n : Int) - (k : Int)
    · cases okb
      · have G := dHide (dUnhide GO (fun h => (by cases h)))
        simp only [Bool.false_eq_true, if_false] at k2
        unfold wrg at k2
        clear GO HK HZ HC HD CN HV
        go_wp2
        go_ret
        exact dUnhide G
      · simp only [if_true] at k2
        have hkp2 : k ≤ p := hkp rfl
        have C2 := dHide (dUnhide CN p true wr (dUnhide HD) (dUnhide HC))
        have HS : Hid ((0 ≤ (rdN bs p true).1 ∧ (rdN bs p true).1 ≤ 9223372036854775807) ∧ p ≤ (rdN bs p true).2.1 ∧ (rdN bs p true).2.1 ≤ bs.length ∧ ((rdN bs p true).2.2 = true → p + 1 ≤ (rdN bs p true).2.1)) := rdN_step hp
        obtain ⟨j, hj⟩ : ∃ j, n - k = j + 1 := ⟨n - k - 1, by omega⟩
        have hj2 : n - (k + 1) = j := by omega
        have HK2 : Hid (L = (xs ++ [(rdN bs p true).1] ++ (rdK bs j (rdN bs p true).2.1 (rdN bs p true).2.2).1, (rdK bs j (rdN bs p true).2.1 (rdN bs p true).2.2).2)) := by
          have := dUnhide HK rfl
          rw [hj, rdK_succ] at this
          rw [Hid, this]
          simp
        generalize rdN bs p true = R at *
        obtain ⟨y, p', ok'⟩ := R
        obtain ⟨hy, hpp, hpl, hpk⟩ := dUnhide HS
        simp only at hy hpp hpl hpk HK2 C2
        have HK3 : Hid (∀ y' : Int, (ok' = true → y' = y) → (ok' = true → L = (xs ++ [y'] ++ (rdK bs j p' true).1, (rdK bs j p' true).2)) ∧ (ok' = false → L.2.2 = false)) := fun y' h' => by
          refine ⟨fun h => ?_, fun h => ?_⟩
          · rw [h' h, dUnhide HK2, h]
          · rw [dUnhide HK2, h, rdK_off]
        have HO := dHide hown
        clear GO HK HK2 HZ HS CN HV HC hown
        go_wp2_with fail
        refine (dUnhide C2).mono ?_
        rintro e w3 ⟨y', rfl, hyb, hye, hc3, hd3⟩
        have HK4 := dHide (dUnhide HK3 y' hye)
        have ho3 := own_wr17 (dUnhide HO) hd3 (by omega)
        clear C2 HO k2 HK3 hye
        have hlt' := ho3.lt
        have HC3 := dHide hc3
        have HD3 := dHide ((dUnhide HD).trans hd3)
        have hs3 := hd3.size
        have ba3 : ∀ o, Below w3.heap.size w3 (w3.alloc o) := fun o => (Below.refl _ _).alloc (Nat.le_refl _) o
        clear hc3 hd3 HD
        go_wp2_with (at_builtin; refine appN _ rfl _ _ rfl w1.heap.size _ xs rfl (ho3.alloc _) ⟨w3.heap.size, 0, none⟩ 1 1 [y'] rfl rfl (one_int _ _ _) ?c3 ?c4 ?_)
        case c3 => simp; omega
        case c4 => simp; omega
        intro v' w4 hown' hgrow
        have hs4 : w1.heap.size ≤ w4.heap.size := by have := hgrow.size; simp at this; omega
        have HC4 := dHide (Rc.wr (Rc.below (dUnhide HC3) (ba3 (.cells #[.int .i64 y'] 3))) hgrow (fun e => by have := (hlt' _ e).1; omega) (fun e => by have := (hlt' _ e).1; omega))
        have HD4 := dHide (((dUnhide HD3).trans (Wr.of_below (ba3 (.cells #[.int .i64 y'] 3)))).grown hgrow (fun k hk => by have := (hlt' k hk).1; omega))
        have hown4 := own_lenN hown'
        clear ho3 hown' hgrow hlt' HC3 HD3
        go_wp2
        go_roundw
        case rel => exact ⟨k + 1, xs ++ [y'], p', ok', by go_num, by simp [hxl], by omega, by omega, fun h => by have := hpk h; omega, hpl, by rw [hj2]; exact (dUnhide HK4).1, (dUnhide HK4).2, hown4, HC4, HD4, hs4⟩
        case measure => simp [intOf]; omega
    · have G := dHide (dUnhide GO (fun h => by omega))
      clear GO HK HZ HC HD CN HV
      go_wp2
      go_ret
      obtain ⟨u, xs, ga, gb⟩ := dUnhide G
      exact ⟨u, ga, xs, gb⟩
end Go.Proofs.YtioocibgfhgkhaaDoor
