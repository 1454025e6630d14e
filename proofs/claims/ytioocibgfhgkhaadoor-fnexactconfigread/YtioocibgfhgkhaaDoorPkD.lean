/- Records as bytes: lists of numbers that spec's cursor reads. -/
import Derived.Test.YtioocibgfhgkhaaDoorPkC
import Derived.Test.YtioocibgfhgkhaaDoorEntE
import Derived.Test.YtioocibgfhgkhaaDoorGaC
namespace Go.Proofs.YtioocibgfhgkhaaDoor
open Go.ChangeShapes Go.WideShapes Go.ChangeAt Go.RowKit
set_option linter.unusedVariables false
set_option linter.unusedSimpArgs false
set_option maxRecDepth 100000

theorem getZ_step {bs : List UInt8} {q x k : Nat} (h : getZ bs (q : Int) = some (x, k)) : x ≤ 9223372036854775807 ∧ 1 ≤ k ∧ q + k ≤ bs.length := by
  have hb := getZ_bd h
  rw [getZ_of] at h
  obtain ⟨r, h1, h2⟩ := getB_inv h
  have h3 := numB_pos x
  have h4 := congrArg List.length h1
  rw [List.length_drop, List.length_append] at h4
  omega
theorem rdN_step {bs : List UInt8} {q : Nat} (hq : q ≤ bs.length) : (0 ≤ (rdN bs q true).1 ∧ (rdN bs q true).1 ≤ 9223372036854775807) ∧ q ≤ (rdN bs q true).2.1 ∧ (rdN bs q true).2.1 ≤ bs.length ∧ ((rdN bs q true).2.2 = true → q + 1 ≤ (rdN bs q true).2.1) := by
  cases hz : getZ bs (q : Int) with
  | none =>
    rw [rdN_none true hz]
    exact ⟨⟨by simp, by simp⟩, by simp, by simpa using hq, fun h => by cases h⟩
  | some r =>
    obtain ⟨x, k⟩ := r
    rw [rdN_some hz]
    have := getZ_step hz
    simp only
    omega
/-- So many numbers are read, as long as all is right. -/
def rdK (bs : List UInt8) : Nat → Nat → Bool → List Int × Nat × Bool
  | 0, q, ok => ([], q, ok)
  | n + 1, q, false => ([], q, false)
  | n + 1, q, true => ((rdN bs q true).1 :: (rdK bs n (rdN bs q true).2.1 (rdN bs q true).2.2).1, (rdK bs n (rdN bs q true).2.1 (rdN bs q true).2.2).2)
theorem rdK_off (bs : List UInt8) (n q : Nat) : rdK bs n q false = ([], q, false) := by cases n <;> rfl
theorem rdK_zero (bs : List UInt8) (q : Nat) (ok : Bool) : rdK bs 0 q ok = ([], q, ok) := rfl
theorem rdK_succ (bs : List UInt8) (n q : Nat) : rdK bs (n + 1) q true = ((rdN bs q true).1 :: (rdK bs n (rdN bs q true).2.1 (rdN bs q true).2.2).1, (rdK bs n (rdN bs q true).2.1 (rdN bs q true).2.2).2) := rfl
/-- A list of numbers is read. -/
def rdL (bs : List UInt8) (q : Nat) (ok : Bool) : List Int × Nat × Bool := rdK bs (rdN bs q ok).1.toNat (rdN bs q ok).2.1 (rdN bs q ok).2.2
theorem own_drawn17 {bk B n : Nat} {w w' : World} {v : Value} {l : List Value} (h : w.ownsRow B 3 1 v n l) (hd : Drawn bk w w') (hb : bk < B) : w'.ownsRow B 3 1 v n l := h.kept hd.row (by
  by_cases e : v.ownBlock = none
  · exact .inl e
  · exact .inr fun e2 => by have := (h.lt bk e2).1; omega)
set_option maxHeartbeats 8000000 in
theorem specNums17_any (B cb : Nat) (v : Value) (bs : List UInt8) (q : Nat) (ok : Bool) (w : World) (hc : Cu w B cb v q ok) (hv : Bs w v bs) (hl : bs.length ≤ 1048576) (hq : q ≤ bs.length) (hne : bs = [] ∨ blockOf v ≠ cb) :
    Calls Tryd.prog 18 #[.pointer (some ⟨cb, 0, none⟩)] w fun e w' => (∃ u, e = .returned u ∧ OwnN w' w.heap.size u (rdL bs q ok).1) ∧ Cu w' B cb v (rdL bs q ok).2.1 (rdL bs q ok).2.2 ∧ Drawn cb w w' := by
  have hcb := hc.lt
  have HV := dHide fun W (hd : Drawn cb w W) => hv.drawn hd hne
  have CN := dHide fun q ok W (hd : Drawn cb w W) (hc : Cu W B cb v q ok) => specNum17_any B cb v bs q ok W hc (dUnhide HV W hd) hl
  have C1 := dHide (dUnhide CN q ok w (Drawn.refl _ _) hc)
  have EL : Hid (rdL bs q ok = rdK bs (rdN bs q ok).1.toNat (rdN bs q ok).2.1 (rdN bs q ok).2.2) := rfl
  have HS : Hid ((0 ≤ (rdN bs q ok).1 ∧ (rdN bs q ok).1 ≤ 9223372036854775807) ∧ (rdN bs q ok).2.1 ≤ bs.length) := by
    cases ok
    · rw [rdN_off]; exact ⟨⟨by simp, by simp⟩, hq⟩
    · have := rdN_step hq; exact ⟨this.1, this.2.2.1⟩
  generalize rdN bs q ok = R at *
  generalize rdL bs q ok = L at *
  obtain ⟨nI, q1, ok1⟩ := R
  obtain ⟨⟨hn0, hn1⟩, hq1⟩ := dUnhide HS
  simp only at hn0 hn1 hq1 C1 EL
  obtain ⟨n, rfl⟩ := Int.eq_ofNat_of_zero_le hn0
  rw [Int.toNat_natCast] at EL
  clear hv hc HS hn0 hq
  go_enter Tryd.func18, Tryd.ntmps18
  go_wp2_with fail
  refine (dUnhide C1).mono ?_
  rintro e w1 ⟨rfl, hc1, hd1⟩
  have hs1 := hd1.size
  have hoz : (w1.alloc (.cells #[] 3)).ownsRow w1.heap.size 3 1 (.slice (some ⟨w1.heap.size, 0, none⟩) 0 0) 0 (ncells []) := by
    have := World.ownsRow_made (e := 3) (size := 1) (base := w1.heap.size) w1 #[] 0 (Nat.le_refl _) (by decide) (by simp)
    simpa [ncells] using this
  have ba : Below w1.heap.size w1 (w1.alloc (.cells #[] 3)) := (Below.refl _ _).alloc (Nat.le_refl _) _
  have HC2 := dHide (BxZ.below hc1 ba)
  have HD2 := dHide (hd1.trans (Drawn.of_below ba))
  have hb1 : cb < w1.heap.size := by omega
  have hn12 : w1.heap.size ≤ (w1.alloc (.cells #[] 3)).heap.size := by simp
  clear hc1 hd1 ba C1
  go_wp2
  generalize w1.alloc (.cells #[] 3) = w2 at *
  generalize w1.heap.size = n1 at *
  go_loopw [4, 5] (fun ov xv wr => ∃ (k : Nat) (xs : List Int) (p : Nat) (okb : Bool), xv = .int .i64 (k : Int) ∧ xs.length = k ∧ k ≤ n ∧ k ≤ bs.length + 1 ∧ (okb = true → k ≤ p) ∧ p ≤ bs.length ∧ Hid (rdK bs n q1 ok1 = (xs ++ (rdK bs (n - k) p okb).1, (rdK bs (n - k) p okb).2)) ∧ wr.ownsRow n1 3 1 ov xs.length (ncells xs) ∧ Hid (Cu wr B cb v p okb) ∧ Hid (Drawn cb w wr) ∧ n1 ≤ wr.heap.size) (fun _ xv _ => bs.length + 2 - (intOf xv).toNat)
  case atStart => exact ⟨0, [], q1, ok1, rfl, rfl, Nat.zero_le _, Nat.zero_le _, fun _ => Nat.zero_le _, hq1, by simp [Hid], hoz, HC2, HD2, hn12⟩
  case round =>
    clear HC2 HD2 hoz
    obtain ⟨k, xs, p, okb, rfl, hxl, hkn, hkb, hkp, hp, HK, hown, HC, HD, hsz⟩ := hrel
    have p2 := ((dUnhide HC).2 2 _ rfl).1
    have hcz : cb < wr.heap.size := by omega
    have GO : Hid (rdK bs (n - k) p okb = ([], p, okb) → (∃ u, Ending.returned u4 = .returned u ∧ OwnN wr w.heap.size u L.1) ∧ Cu wr B cb v L.2.1 L.2.2 ∧ Drawn cb w wr) := by
      intro e
      have e2 : L = (xs, p, okb) := by
        have := (dUnhide EL).trans (dUnhide HK)
        rw [e] at this
        simpa using this
      rw [e2]
      exact ⟨⟨_, rfl, (ownN_of_row hown).mono hs1⟩, dUnhide HC, dUnhide HD⟩
    by_cases hlt : (k : Int) < (n : Int)
    · cases okb
      · have G := dHide (dUnhide GO (rdK_off bs _ p))
        clear GO HK HC HD CN HV
        go_wp2
        go_ret
        exact dUnhide G
      · have hkp2 : k ≤ p := hkp rfl
        have C2 := dHide (dUnhide CN p true wr (dUnhide HD) (dUnhide HC))
        have HS : Hid ((0 ≤ (rdN bs p true).1 ∧ (rdN bs p true).1 ≤ 9223372036854775807) ∧ p ≤ (rdN bs p true).2.1 ∧ (rdN bs p true).2.1 ≤ bs.length ∧ ((rdN bs p true).2.2 = true → p + 1 ≤ (rdN bs p true).2.1)) := rdN_step hp
        obtain ⟨j, hj⟩ : ∃ j, n - k = j + 1 := ⟨n - k - 1, by omega⟩
        have hj2 : n - (k + 1) = j := by omega
        have HK2 : Hid (rdK bs n q1 ok1 = (xs ++ [(rdN bs p true).1] ++ (rdK bs j (rdN bs p true).2.1 (rdN bs p true).2.2).1, (rdK bs j (rdN bs p true).2.1 (rdN bs p true).2.2).2)) := by
          have := dUnhide HK
          rw [hj, rdK_succ] at this
          rw [Hid, this]
          simp
        generalize rdN bs p true = R at *
        obtain ⟨y, p', ok'⟩ := R
        obtain ⟨hy, hpp, hpl, hpk⟩ := dUnhide HS
        simp only at hy hpp hpl hpk HK2 C2
        have HO := dHide hown
        clear GO HK HS CN HV HC hown
        go_wp2_with fail
        refine (dUnhide C2).mono ?_
        rintro e w3 ⟨rfl, hc3, hd3⟩
        have ho3 := own_drawn17 (dUnhide HO) hd3 hb1
        clear C2 HO p2
        have hlt' := ho3.lt
        have HC3 := dHide hc3
        have HD3 := dHide ((dUnhide HD).trans hd3)
        have hs3 := hd3.size
        have ba3 : ∀ o, Below w3.heap.size w3 (w3.alloc o) := fun o => (Below.refl _ _).alloc (Nat.le_refl _) o
        clear hc3 hd3 HD
        go_wp2_with (at_builtin; refine appN _ rfl _ _ rfl n1 _ xs rfl (ho3.alloc _) ⟨w3.heap.size, 0, none⟩ 1 1 [y] rfl rfl (one_int _ _ _) ?c3 ?c4 ?_)
        case c3 => simp; omega
        case c4 => simp; omega
        intro v' w4 hown' hgrow
        have hs4 : n1 ≤ w4.heap.size := by have := hgrow.size; simp at this; omega
        have HC4 := dHide (BxZ.grown (BxZ.below (dUnhide HC3) (ba3 (.cells #[.int .i64 y] 3))) hgrow (fun e => by have := (hlt' _ e).1; omega))
        have HD4 := dHide (((dUnhide HD3).trans (Drawn.of_below (ba3 (.cells #[.int .i64 y] 3)))).grown hgrow (fun k hk => by have := (hlt' k hk).1; omega))
        have hown4 := own_lenN hown'
        clear ho3 hown' hgrow hlt' HC3 HD3
        go_wp2
        go_roundw
        case rel => exact ⟨k + 1, xs ++ [y], p', ok', by go_num, by simp; omega, by omega, by omega, fun h => by have := hpk h; omega, hpl, by rw [hj2]; exact dUnhide HK2, hown4, HC4, HD4, hs4⟩
        case measure => simp [intOf]; omega
    · have e0 : n - k = 0 := by omega
      have G := dHide (dUnhide GO (by rw [e0]; exact rdK_zero bs p okb))
      clear GO HK HC HD CN HV p2
      go_wp2
      go_ret
      exact dUnhide G
end Go.Proofs.YtioocibgfhgkhaaDoor
