/- Several texts in one: PkA, PkB, PkC, PkD, PkE, PkF, PkG, PkM. -/
import Derived.Test.YtioocibgfhgkhaaGreatDoorGbF
import Derived.Test.YtioocibgfhgkhaaGreatDoorAppB
import Derived.Test.YtioocibgfhgkhaaGreatDoorGaA
import Derived.Test.YtioocibgfhgkhaaGreatDoorGaC
import Derived.Deep.RegionHeld3
import Derived.Deep.DeepCutAuto
import Derived.Test.YtioocibgfhgkhaaGreatDoorGetA
import Derived.Test.YtioocibgfhgkhaaGreatDoorEntD
import Derived.BigQuiet
import Derived.Deep.QuietTactic
import Derived.Test.YtioocibgfhgkhaaGreatDoorEntE
import Derived.Test.YtioocibgfhgkhaaGreatDoorGaT
import Derived.Test.YtioocibgfhgkhaaGreatDoorRdO
namespace Go.Proofs.YtioocibgfhgkhaaGreatDoor
open Go.ChangeShapes Go.WideShapes Go.ChangeAt Go.RowKit
set_option linter.unusedVariables false
set_option linter.unusedSimpArgs false

/-- The numbers of a list, one behind the other. -/
def numsB (xs : List Int) : List UInt8 := xs.flatMap fun x => numB x.toNat
/-- The bytes of a list of numbers. -/
def lstB (xs : List Int) : List UInt8 := numB xs.length ++ numsB xs
theorem numsB_take (xs : List Int) (k : Nat) (h : k < xs.length) : numsB (xs.take (k + 1)) = numsB (xs.take k) ++ numB xs[k].toNat := by
  unfold numsB
  rw [List.take_succ_eq_append_getElem h, List.flatMap_append, List.flatMap_cons, List.flatMap_nil, List.append_nil]
theorem numsB_len (xs : List Int) : (numsB xs).length ≤ 9 * xs.length := by
  induction xs with
  | nil => simp [numsB]
  | cons x l ih =>
    have h := numB_len x.toNat
    unfold numsB at ih ⊢
    rw [List.flatMap_cons, List.length_append, List.length_cons]
    omega
theorem lstB_pos (xs : List Int) : 0 < (lstB xs).length := by
  have := numB_pos xs.length
  unfold lstB
  rw [List.length_append]
  omega
theorem lstB_len (xs : List Int) : (lstB xs).length ≤ 9 * xs.length + 9 := by
  have h := numB_len xs.length
  have h2 := numsB_len xs
  unfold lstB
  rw [List.length_append]
  omega
/-- The cells of a list of numbers. -/
theorem Ns.at17 {w : World} {a : Option Addr} {n cap : Nat} {xs : List Int} (h : Ns w (.slice a n cap) xs) {k : Nat} (hk : k < xs.length) : ∃ b off, a = some ⟨b, off, none⟩ ∧ ∀ i (hi : i < xs.length), w.cell? ⟨b, off + i, none⟩ = some (.int .i64 xs[i]) := by
  obtain ⟨-, a', cap', e, -, h⟩ := h
  cases e
  rcases h with h | h
  · rw [h] at hk; simp at hk
  · exact h
/-- Numbers that are not below 0. -/
def natI (xs : List Int) : Prop := ∀ x ∈ xs, 0 ≤ x ∧ x ≤ 9223372036854775807
end Go.Proofs.YtioocibgfhgkhaaGreatDoor
namespace Go.Proofs.YtioocibgfhgkhaaGreatDoor
open Go.ChangeShapes Go.WideShapes Go.ChangeAt Go.RowKit
set_option linter.unusedVariables false
set_option linter.unusedSimpArgs false
set_option maxRecDepth 100000

/-- The bytes of a config. -/
def cfgB (ds : List Int) (cop : Int) : List UInt8 := lstB ds ++ numB cop.toNat
open Classical in
/-- ConfigPack. -/
noncomputable def cfgM (ds : List Int) (cop : Int) : List UInt8 × Bool := if cfgP ds cop then (cfgB ds cop, true) else ([], false)
theorem cfgM_yes {ds : List Int} {cop : Int} (h : cfgP ds cop) : cfgM ds cop = (cfgB ds cop, true) := if_pos h
theorem cfgM_no {ds : List Int} {cop : Int} (h : ¬ cfgP ds cop) : cfgM ds cop = ([], false) := if_neg h
end Go.Proofs.YtioocibgfhgkhaaGreatDoor
namespace Go.Proofs.YtioocibgfhgkhaaGreatDoor
open Go.ChangeShapes Go.WideShapes Go.ChangeAt Go.RowKit
set_option linter.unusedVariables false
set_option linter.unusedSimpArgs false
set_option maxRecDepth 100000

/-- A number that is read by the cursor, and where it is then. -/
def rdN (bs : List UInt8) (q : Nat) (ok : Bool) : Int × Nat × Bool := if ok then (match getZ bs (q : Int) with | some (x, k) => ((x : Int), q + k, true) | none => (0, q, false)) else (0, q, false)
theorem rdN_off (bs : List UInt8) (q : Nat) : rdN bs q false = (0, q, false) := rfl
theorem rdN_none {bs : List UInt8} {q : Nat} (ok : Bool) (h : getZ bs (q : Int) = none) : rdN bs q ok = (0, q, false) := by
  cases ok
  · rfl
  · simp [rdN, h]
theorem rdN_some {bs : List UInt8} {q x k : Nat} (h : getZ bs (q : Int) = some (x, k)) : rdN bs q true = ((x : Int), q + k, true) := by simp [rdN, h]
/-- The cursor, in its block cb. -/
def Cu (W : World) (B cb : Nat) (v : Value) (q : Nat) (ok : Bool) : Prop := BxZ W B cb [v, .int .i64 (q : Int), .bool ok]
set_option maxHeartbeats 4000000 in
theorem specNum17_any (B cb : Nat) (v : Value) (bs : List UInt8) (q : Nat) (ok : Bool) (w : World) (hc : Cu w B cb v q ok) (hv : Bs w v bs) (hl : bs.length ≤ 1048576) :
    Calls Tryz.prog 23 #[.pointer (some ⟨cb, 0, none⟩)] w fun e w' => e = .returned (.int .i64 (rdN bs q ok).1) ∧ Cu w' B cb v (rdN bs q ok).2.1 (rdN bs q ok).2.2 ∧ Drawn cb w w' := by
  have CG := dHide fun W (hb : Below w.heap.size w W) => specGetNum_same v bs (q : Int) W (hv.below hb) (by omega)
  obtain ⟨-, a, cap, rfl, -⟩ := hv
  have HC := dHide fun W (hb : Below w.heap.size w W) => BxZ.below hc hb
  cases hz : getZ bs (q : Int) with
  | none =>
    have HR : Hid (rdN bs q ok = (0, q, false)) := rdN_none ok hz
    have CN := dHide fun W (hb : Below w.heap.size w W) => (dUnhide CG W hb).mono fun e w' h => (⟨by rw [h.1, hz]; rfl, h.2⟩ : e = .returned (.tuple #[.int .i64 0, .int .i64 0, .bool false]) ∧ w' = W)
    rw [dUnhide HR]
    clear hz
    obtain ⟨b0, -⟩ := hc.2 0 _ rfl
    obtain ⟨b1, -⟩ := hc.2 1 _ rfl
    clear HR CG
    go_enter Tryz.func23, Tryz.ntmps23
    go_wp2_with fail
    go_quiet ((go_at_call 43; exact Calls.quiet_of_same (dUnhide CN _ (below_drewN (Below.refl _ _) _))))
    have Xd := dUnhide HC (w.drewN nq) (below_drewN (Below.refl _ _) nq)
    have Dd := (Drawn.refl cb w).drewN nq
    obtain ⟨d0, -⟩ := Xd.2 0 _ rfl
    obtain ⟨d1, g1⟩ := Xd.2 1 _ rfl
    obtain ⟨d2, g2⟩ := Xd.2 2 _ rfl
    generalize w.drewN nq = wd at *
    have F := dHide (And.intro (Xd.put 2 (.bool false)) (Dd.setCell 2 (.bool false)))
    clear Xd Dd CN HC hc
    go_wp2
    go_ret
    exact ⟨rfl, (dUnhide F).1, (dUnhide F).2⟩
  | some r =>
    obtain ⟨x, k⟩ := r
    have CN := dHide fun W (hb : Below w.heap.size w W) => (dUnhide CG W hb).mono fun e w' h => (⟨by rw [h.1, hz]; simp [getT], h.2⟩ : e = .returned (.tuple #[.int .i64 (x : Int), .int .i64 ((q + k : Nat) : Int), .bool true]) ∧ w' = W)
    cases ok
    case false =>
      have HR : Hid (rdN bs q false = (0, q, false)) := rdN_off bs q
      rw [dUnhide HR]
      clear hz
      obtain ⟨b0, -⟩ := hc.2 0 _ rfl
      obtain ⟨b1, -⟩ := hc.2 1 _ rfl
      clear HR CG
      go_enter Tryz.func23, Tryz.ntmps23
      go_wp2_with fail
      go_quiet ((go_at_call 43; exact Calls.quiet_of_same (dUnhide CN _ (below_drewN (Below.refl _ _) _))))
      have Xd := dUnhide HC (w.drewN nq) (below_drewN (Below.refl _ _) nq)
      have Dd := (Drawn.refl cb w).drewN nq
      obtain ⟨d0, -⟩ := Xd.2 0 _ rfl
      obtain ⟨d1, g1⟩ := Xd.2 1 _ rfl
      obtain ⟨d2, g2⟩ := Xd.2 2 _ rfl
      generalize w.drewN nq = wd at *
      have F := dHide (And.intro (Xd.put 2 (.bool false)) (Dd.setCell 2 (.bool false)))
      clear Xd Dd CN HC hc
      go_wp2
      go_ret
      exact ⟨rfl, (dUnhide F).1, (dUnhide F).2⟩
    case true =>
      have HR : Hid (rdN bs q true = ((x : Int), q + k, true)) := rdN_some hz
      rw [dUnhide HR]
      clear hz
      obtain ⟨b0, -⟩ := hc.2 0 _ rfl
      obtain ⟨b1, -⟩ := hc.2 1 _ rfl
      clear HR CG
      go_enter Tryz.func23, Tryz.ntmps23
      go_wp2_with fail
      go_quiet ((go_at_call 43; exact Calls.quiet_of_same (dUnhide CN _ (below_drewN (Below.refl _ _) _))))
      have Xd := dUnhide HC (w.drewN nq) (below_drewN (Below.refl _ _) nq)
      have Dd := (Drawn.refl cb w).drewN nq
      obtain ⟨d0, -⟩ := Xd.2 0 _ rfl
      obtain ⟨d1, g1⟩ := Xd.2 1 _ rfl
      obtain ⟨d2, g2⟩ := Xd.2 2 _ rfl
      generalize w.drewN nq = wd at *
      have F := dHide (And.intro (Xd.put 1 (.int .i64 ((q + k : Nat) : Int))) (Dd.setCell 1 (.int .i64 ((q + k : Nat) : Int))))
      clear Xd Dd CN HC hc
      go_wp2
      go_ret
      exact ⟨rfl, (dUnhide F).1, (dUnhide F).2⟩
end Go.Proofs.YtioocibgfhgkhaaGreatDoor
namespace Go.Proofs.YtioocibgfhgkhaaGreatDoor
open Go.ChangeShapes Go.WideShapes Go.ChangeAt Go.RowKit
set_option linter.unusedVariables false
set_option linter.unusedSimpArgs false
set_option maxRecDepth 100000

theorem getZ_step {bs : List UInt8} {q x k : Nat} (h : getZ bs (q : Int) = some (x, k)) : x ≤ 9223372036854775807 ∧ 1 ≤ k ∧ q + k ≤ bs.length := by
  have hb := getZ_bd h
  rw [getZ_of] at h
  obtain ⟨r, h1, h2⟩ := getB_inv h
  have h3 := numB_pos x
  have h4 := congrArg List.length h1
  rw [List.length_drop, List.length_append] at h4
  omega
theorem rdN_step {bs : List UInt8} {q : Nat} (hq : q ≤ bs.length) : (0 ≤ (rdN bs q true).1 ∧ (rdN bs q true).1 ≤ 9223372036854775807) ∧ q ≤ (rdN bs q true).2.1 ∧ (rdN bs q true).2.1 ≤ bs.length ∧ ((rdN bs q true).2.2 = true → q + 1 ≤ (rdN bs q true).2.1) := by
  cases hz : getZ bs (q : Int) with
  | none =>
    rw [rdN_none true hz]
    exact ⟨⟨by simp, by simp⟩, by simp, by simpa using hq, fun h => by cases h⟩
  | some r =>
    obtain ⟨x, k⟩ := r
    rw [rdN_some hz]
    have := getZ_step hz
    simp only
    omega
/-- So many numbers are read, as long as all is right. -/
def rdK (bs : List UInt8) : Nat → Nat → Bool → List Int × Nat × Bool
  | 0, q, ok => ([], q, ok)
  | n + 1, q, false => ([], q, false)
  | n + 1, q, true => ((rdN bs q true).1 :: (rdK bs n (rdN bs q true).2.1 (rdN bs q true).2.2).1, (rdK bs n (rdN bs q true).2.1 (rdN bs q true).2.2).2)
theorem rdK_off (bs : List UInt8) (n q : Nat) : rdK bs n q false = ([], q, false) := by cases n <;> rfl
theorem rdK_zero (bs : List UInt8) (q : Nat) (ok : Bool) : rdK bs 0 q ok = ([], q, ok) := rfl
theorem rdK_succ (bs : List UInt8) (n q : Nat) : rdK bs (n + 1) q true = ((rdN bs q true).1 :: (rdK bs n (rdN bs q true).2.1 (rdN bs q true).2.2).1, (rdK bs n (rdN bs q true).2.1 (rdN bs q true).2.2).2) := rfl
/-- A list of numbers is read. -/
def rdL (bs : List UInt8) (q : Nat) (ok : Bool) : List Int × Nat × Bool := rdK bs (rdN bs q ok).1.toNat (rdN bs q ok).2.1 (rdN bs q ok).2.2
theorem own_drawn17 {bk B n : Nat} {w w' : World} {v : Value} {l : List Value} (h : w.ownsRow B 3 1 v n l) (hd : Drawn bk w w') (hb : bk < B) : w'.ownsRow B 3 1 v n l := h.kept hd.row (by
  by_cases e : v.ownBlock = none
  · exact .inl e
  · exact .inr fun e2 => by have := (h.lt bk e2).1; omega)
set_option maxHeartbeats 8000000 in
theorem specNums17_any (B cb : Nat) (v : Value) (bs : List UInt8) (q : Nat) (ok : Bool) (w : World) (hc : Cu w B cb v q ok) (hv : Bs w v bs) (hl : bs.length ≤ 1048576) (hq : q ≤ bs.length) (hne : bs = [] ∨ blockOf v ≠ cb) :
    Calls Tryz.prog 24 #[.pointer (some ⟨cb, 0, none⟩)] w fun e w' => (∃ u, e = .returned u ∧ OwnN w' w.heap.size u (rdL bs q ok).1) ∧ Cu w' B cb v (rdL bs q ok).2.1 (rdL bs q ok).2.2 ∧ Drawn cb w w' := by
  have hcb := hc.lt
  have HV := dHide fun W (hd : Drawn cb w W) => hv.drawn hd hne
  have CN := dHide fun q ok W (hd : Drawn cb w W) (hc : Cu W B cb v q ok) => specNum17_any B cb v bs q ok W hc (dUnhide HV W hd) hl
  have C1 := dHide (dUnhide CN q ok w (Drawn.refl _ _) hc)
  have EL : Hid (rdL bs q ok = rdK bs (rdN bs q ok).1.toNat (rdN bs q ok).2.1 (rdN bs q ok).2.2) := rfl
  have HS : Hid ((0 ≤ (rdN bs q ok).1 ∧ (rdN bs q ok).1 ≤ 9223372036854775807) ∧ (rdN bs q ok).2.1 ≤ bs.length) := by
    cases ok
    · rw [rdN_off]; exact ⟨⟨by simp, by simp⟩, hq⟩
    · have := rdN_step hq; exact ⟨this.1, this.2.2.1⟩
  generalize rdN bs q ok = R at *
  generalize rdL bs q ok = L at *
  obtain ⟨nI, q1, ok1⟩ := R
  obtain ⟨⟨hn0, hn1⟩, hq1⟩ := dUnhide HS
  simp only at hn0 hn1 hq1 C1 EL
  obtain ⟨n, rfl⟩ := Int.eq_ofNat_of_zero_le hn0
  rw [Int.toNat_natCast] at EL
  clear hv hc HS hn0 hq
  go_enter Tryz.func24, Tryz.ntmps24
  go_wp2_with fail
  refine (dUnhide C1).mono ?_
  rintro e w1 ⟨rfl, hc1, hd1⟩
  have hs1 := hd1.size
  have hoz : (w1.alloc (.cells #[] 3)).ownsRow w1.heap.size 3 1 (.slice (some ⟨w1.heap.size, 0, none⟩) 0 0) 0 (ncells []) := by
    have := World.ownsRow_made (e := 3) (size := 1) (base := w1.heap.size) w1 #[] 0 (Nat.le_refl _) (by decide) (by simp)
    simpa [ncells] using this
  have ba : Below w1.heap.size w1 (w1.alloc (.cells #[] 3)) := (Below.refl _ _).alloc (Nat.le_refl _) _
  have HC2 := dHide (BxZ.below hc1 ba)
  have HD2 := dHide (hd1.trans (Drawn.of_below ba))
  have hb1 : cb < w1.heap.size := by omega
  have hn12 : w1.heap.size ≤ (w1.alloc (.cells #[] 3)).heap.size := by simp
  clear hc1 hd1 ba C1
  go_wp2
  generalize w1.alloc (.cells #[] 3) = w2 at *
  generalize w1.heap.size = n1 at *
  go_loopw [4, 5] (fun ov xv wr => ∃ (k : Nat) (xs : List Int) (p : Nat) (okb : Bool), xv = .int .i64 (k : Int) ∧ xs.length = k ∧ k ≤ n ∧ k ≤ bs.length + 1 ∧ (okb = true → k ≤ p) ∧ p ≤ bs.length ∧ Hid (rdK bs n q1 ok1 = (xs ++ (rdK bs (n - k) p okb).1, (rdK bs (n - k) p okb).2)) ∧ wr.ownsRow n1 3 1 ov xs.length (ncells xs) ∧ Hid (Cu wr B cb v p okb) ∧ Hid (Drawn cb w wr) ∧ n1 ≤ wr.heap.size) (fun _ xv _ => bs.length + 2 - (intOf xv).toNat)
  case atStart => exact ⟨0, [], q1, ok1, rfl, rfl, Nat.zero_le _, Nat.zero_le _, fun _ => Nat.zero_le _, hq1, by simp [Hid], hoz, HC2, HD2, hn12⟩
  case round =>
    clear HC2 HD2 hoz
    obtain ⟨k, xs, p, okb, rfl, hxl, hkn, hkb, hkp, hp, HK, hown, HC, HD, hsz⟩ := hrel
    have p2 := ((dUnhide HC).2 2 _ rfl).1
    have hcz : cb < wr.heap.size := by omega
    have GO : Hid (rdK bs (n - k) p okb = ([], p, okb) → (∃ u, Ending.returned u4 = .returned u ∧ OwnN wr w.heap.size u L.1) ∧ Cu wr B cb v L.2.1 L.2.2 ∧ Drawn cb w wr) := by
      intro e
      have e2 : L = (xs, p, okb) := by
        have := (dUnhide EL).trans (dUnhide HK)
        rw [e] at this
        simpa using this
      rw [e2]
      exact ⟨⟨_, rfl, (ownN_of_row hown).mono hs1⟩, dUnhide HC, dUnhide HD⟩
    by_cases hlt : (k : Int) < (n : Int)
    · cases okb
      · have G := dHide (dUnhide GO (rdK_off bs _ p))
        clear GO HK HC HD CN HV
        go_wp2
        go_ret
        exact dUnhide G
      · have hkp2 : k ≤ p := hkp rfl
        have C2 := dHide (dUnhide CN p true wr (dUnhide HD) (dUnhide HC))
        have HS : Hid ((0 ≤ (rdN bs p true).1 ∧ (rdN bs p true).1 ≤ 9223372036854775807) ∧ p ≤ (rdN bs p true).2.1 ∧ (rdN bs p true).2.1 ≤ bs.length ∧ ((rdN bs p true).2.2 = true → p + 1 ≤ (rdN bs p true).2.1)) := rdN_step hp
        obtain ⟨j, hj⟩ : ∃ j, n - k = j + 1 := ⟨n - k - 1, by omega⟩
        have hj2 : n - (k + 1) = j := by omega
        have HK2 : Hid (rdK bs n q1 ok1 = (xs ++ [(rdN bs p true).1] ++ (rdK bs j (rdN bs p true).2.1 (rdN bs p true).2.2).1, (rdK bs j (rdN bs p true).2.1 (rdN bs p true).2.2).2)) := by
          have := dUnhide HK
          rw [hj, rdK_succ] at this
          rw [Hid, this]
          simp
        generalize rdN bs p true = R at *
        obtain ⟨y, p', ok'⟩ := R
        obtain ⟨hy, hpp, hpl, hpk⟩ := dUnhide HS
        simp only at hy hpp hpl hpk HK2 C2
        have HO := dHide hown
        clear GO HK HS CN HV HC hown
        go_wp2_with fail
        refine (dUnhide C2).mono ?_
        rintro e w3 ⟨rfl, hc3, hd3⟩
        have ho3 := own_drawn17 (dUnhide HO) hd3 hb1
        clear C2 HO p2
        have hlt' := ho3.lt
        have HC3 := dHide hc3
        have HD3 := dHide ((dUnhide HD).trans hd3)
        have hs3 := hd3.size
        have ba3 : ∀ o, Below w3.heap.size w3 (w3.alloc o) := fun o => (Below.refl _ _).alloc (Nat.le_refl _) o
        clear hc3 hd3 HD
        go_wp2_with (at_builtin; refine appN _ rfl _ _ rfl n1 _ xs rfl (ho3.alloc _) ⟨w3.heap.size, 0, none⟩ 1 1 [y] rfl rfl (one_int _ _ _) ?c3 ?c4 ?_)
        case c3 => simp; omega
        case c4 => simp; omega
        intro v' w4 hown' hgrow
        have hs4 : n1 ≤ w4.heap.size := by have := hgrow.size; simp at this; omega
        have HC4 := dHide (BxZ.grown (BxZ.below (dUnhide HC3) (ba3 (.cells #[.int .i64 y] 3))) hgrow (fun e => by have := (hlt' _ e).1; omega))
        have HD4 := dHide (((dUnhide HD3).trans (Drawn.of_below (ba3 (.cells #[.int .i64 y] 3)))).grown hgrow (fun k hk => by have := (hlt' k hk).1; omega))
        have hown4 := own_lenN hown'
        clear ho3 hown' hgrow hlt' HC3 HD3
        go_wp2
        go_roundw
        case rel => exact ⟨k + 1, xs ++ [y], p', ok', by go_num, by simp; omega, by omega, by omega, fun h => by have := hpk h; omega, hpl, by rw [hj2]; exact dUnhide HK2, hown4, HC4, HD4, hs4⟩
        case measure => simp [intOf]; omega
    · have e0 : n - k = 0 := by omega
      have G := dHide (dUnhide GO (by rw [e0]; exact rdK_zero bs p okb))
      clear GO HK HC HD CN HV p2
      go_wp2
      go_ret
      exact dUnhide G
end Go.Proofs.YtioocibgfhgkhaaGreatDoor
namespace Go.Proofs.YtioocibgfhgkhaaGreatDoor
open Go.ChangeShapes Go.WideShapes Go.ChangeAt Go.RowKit
set_option linter.unusedVariables false
set_option linter.unusedSimpArgs false
set_option maxRecDepth 100000

/-- A text that is read by the cursor, and where it is then. -/
def rdT (bs : List UInt8) (q : Nat) (ok : Bool) : List UInt8 × Nat × Bool := if ok then (match gtextZ bs (q : Int) with | some (x, p) => (x, p, true) | none => ([], q, false)) else ([], q, false)
theorem rdT_off (bs : List UInt8) (q : Nat) : rdT bs q false = ([], q, false) := rfl
theorem rdT_none {bs : List UInt8} {q : Nat} (ok : Bool) (h : gtextZ bs (q : Int) = none) : rdT bs q ok = ([], q, false) := by
  cases ok
  · rfl
  · simp [rdT, h]
theorem rdT_some {bs : List UInt8} {q p : Nat} {x : List UInt8} (h : gtextZ bs (q : Int) = some (x, p)) : rdT bs q true = (x, p, true) := by simp [rdT, h]
set_option maxHeartbeats 4000000 in
theorem specText17_any (B cb : Nat) (v : Value) (bs : List UInt8) (q : Nat) (ok : Bool) (w : World) (hc : Cu w B cb v q ok) (hv : Bs w v bs) (hl : bs.length ≤ 1048576) :
    Calls Tryz.prog 35 #[.pointer (some ⟨cb, 0, none⟩)] w fun e w' => e = .returned (.string ⟨(rdT bs q ok).1.toArray⟩) ∧ Cu w' B cb v (rdT bs q ok).2.1 (rdT bs q ok).2.2 ∧ Drawn cb w w' := by
  have CG := dHide fun W (hb : Below w.heap.size w W) => specGetText_same v bs (q : Int) W (hv.below hb) (by omega)
  obtain ⟨-, a, cap, rfl, -⟩ := hv
  have HC := dHide fun W (hb : Below w.heap.size w W) => BxZ.below hc hb
  cases hz : gtextZ bs (q : Int) with
  | none =>
    have HR : Hid (rdT bs q ok = ([], q, false)) := rdT_none ok hz
    have CN := dHide fun W (hb : Below w.heap.size w W) => (dUnhide CG W hb).mono fun e w' h => (⟨by rw [h.1, hz]; rfl, h.2⟩ : e = .returned (.tuple #[.string ⟨#[]⟩, .int .i64 0, .bool false]) ∧ w' = W)
    rw [dUnhide HR]
    clear hz
    obtain ⟨b0, -⟩ := hc.2 0 _ rfl
    obtain ⟨b1, -⟩ := hc.2 1 _ rfl
    clear HR CG
    go_enter Tryz.func35, Tryz.ntmps35
    go_wp2_with fail
    go_quiet ((go_at_call 56; exact Calls.quiet_of_same (dUnhide CN _ (below_drewN (Below.refl _ _) _))))
    have Xd := dUnhide HC (w.drewN nq) (below_drewN (Below.refl _ _) nq)
    have Dd := (Drawn.refl cb w).drewN nq
    obtain ⟨d0, -⟩ := Xd.2 0 _ rfl
    obtain ⟨d1, g1⟩ := Xd.2 1 _ rfl
    obtain ⟨d2, g2⟩ := Xd.2 2 _ rfl
    generalize w.drewN nq = wd at *
    have F := dHide (And.intro (Xd.put 2 (.bool false)) (Dd.setCell 2 (.bool false)))
    clear Xd Dd CN HC hc
    go_wp2
    go_ret
    exact ⟨rfl, (dUnhide F).1, (dUnhide F).2⟩
  | some r =>
    obtain ⟨x, p⟩ := r
    have CN := dHide fun W (hb : Below w.heap.size w W) => (dUnhide CG W hb).mono fun e w' h => (⟨by rw [h.1, hz]; simp [gtextT], h.2⟩ : e = .returned (.tuple #[.string ⟨x.toArray⟩, .int .i64 (p : Int), .bool true]) ∧ w' = W)
    cases ok
    case false =>
      have HR : Hid (rdT bs q false = ([], q, false)) := rdT_off bs q
      rw [dUnhide HR]
      clear hz
      obtain ⟨b0, -⟩ := hc.2 0 _ rfl
      obtain ⟨b1, -⟩ := hc.2 1 _ rfl
      clear HR CG
      go_enter Tryz.func35, Tryz.ntmps35
      go_wp2_with fail
      go_quiet ((go_at_call 56; exact Calls.quiet_of_same (dUnhide CN _ (below_drewN (Below.refl _ _) _))))
      have Xd := dUnhide HC (w.drewN nq) (below_drewN (Below.refl _ _) nq)
      have Dd := (Drawn.refl cb w).drewN nq
      obtain ⟨d0, -⟩ := Xd.2 0 _ rfl
      obtain ⟨d1, g1⟩ := Xd.2 1 _ rfl
      obtain ⟨d2, g2⟩ := Xd.2 2 _ rfl
      generalize w.drewN nq = wd at *
      have F := dHide (And.intro (Xd.put 2 (.bool false)) (Dd.setCell 2 (.bool false)))
      clear Xd Dd CN HC hc
      go_wp2
      go_ret
      exact ⟨rfl, (dUnhide F).1, (dUnhide F).2⟩
    case true =>
      have HR : Hid (rdT bs q true = (x, p, true)) := rdT_some hz
      rw [dUnhide HR]
      clear hz
      obtain ⟨b0, -⟩ := hc.2 0 _ rfl
      obtain ⟨b1, -⟩ := hc.2 1 _ rfl
      clear HR CG
      go_enter Tryz.func35, Tryz.ntmps35
      go_wp2_with fail
      go_quiet ((go_at_call 56; exact Calls.quiet_of_same (dUnhide CN _ (below_drewN (Below.refl _ _) _))))
      have Xd := dUnhide HC (w.drewN nq) (below_drewN (Below.refl _ _) nq)
      have Dd := (Drawn.refl cb w).drewN nq
      obtain ⟨d0, -⟩ := Xd.2 0 _ rfl
      obtain ⟨d1, g1⟩ := Xd.2 1 _ rfl
      obtain ⟨d2, g2⟩ := Xd.2 2 _ rfl
      generalize w.drewN nq = wd at *
      have F := dHide (And.intro (Xd.put 1 (.int .i64 (p : Int))) (Dd.setCell 1 (.int .i64 (p : Int))))
      clear Xd Dd CN HC hc
      go_wp2
      go_ret
      exact ⟨rfl, (dUnhide F).1, (dUnhide F).2⟩
/-- All was read, and nothing was wrong. -/
def endB (bs : List UInt8) (q : Nat) (ok : Bool) : Bool := ok && decide (q = bs.length)
set_option maxHeartbeats 4000000 in
theorem specEnd17_any (B cb : Nat) (v : Value) (bs : List UInt8) (q : Nat) (ok : Bool) (w w0 : World) (hc : Cu w B cb v q ok) (hv : Bs w0 v bs) :
    Calls Tryz.prog 25 #[.pointer (some ⟨cb, 0, none⟩)] w fun e w' => e = .returned (.bool (endB bs q ok)) ∧ Below w.heap.size w w' := by
  obtain ⟨-, a, cap, rfl, -⟩ := hv
  obtain ⟨b0, -⟩ := hc.2 0 _ rfl
  obtain ⟨b1, -⟩ := hc.2 1 _ rfl
  obtain ⟨b2, -⟩ := hc.2 2 _ rfl
  clear hc
  have E : Hid (endB bs q ok = (ok && decide (q = bs.length))) := rfl
  rw [dUnhide E]
  clear E
  cases ok
  · go_enter Tryz.func25, Tryz.ntmps25
    go_wp2_with fail
    go_quiet (fail)
    go_wp2
    go_ret
    exact ⟨rfl, below_drewN (Below.refl _ _) nq⟩
  · have hq : (q : Int) = (bs.length : Int) ∨ (q : Int) ≠ (bs.length : Int) := by omega
    rcases hq with hq | hq
    · have e : Hid (decide (q = bs.length) = true) := by simp [Hid]; omega
      rw [dUnhide e]
      clear e
      go_enter Tryz.func25, Tryz.ntmps25
      go_wp2_with fail
      go_quiet (fail)
      go_wp2
      go_ret
      exact ⟨by simp [hq], below_drewN (Below.refl _ _) nq⟩
    · have e : Hid (decide (q = bs.length) = false) := by simp [Hid]; omega
      rw [dUnhide e]
      clear e
      go_enter Tryz.func25, Tryz.ntmps25
      go_wp2_with fail
      go_quiet (fail)
      go_wp2
      go_ret
      exact ⟨by simp [hq], below_drewN (Below.refl _ _) nq⟩
end Go.Proofs.YtioocibgfhgkhaaGreatDoor
namespace Go.Proofs.YtioocibgfhgkhaaGreatDoor
open Go.ChangeShapes Go.WideShapes Go.ChangeAt Go.RowKit
set_option linter.unusedVariables false
set_option linter.unusedSimpArgs false
set_option maxRecDepth 100000

open Classical in
/-- ConfigRead. -/
noncomputable def cfgR (bs : List UInt8) : List Int × Int × Bool :=
  if endB bs (rdN bs (rdL bs 0 true).2.1 (rdL bs 0 true).2.2).2.1 (rdN bs (rdL bs 0 true).2.1 (rdL bs 0 true).2.2).2.2 = true ∧ cfgP (rdL bs 0 true).1 (rdN bs (rdL bs 0 true).2.1 (rdL bs 0 true).2.2).1 then ((rdL bs 0 true).1, (rdN bs (rdL bs 0 true).2.1 (rdL bs 0 true).2.2).1, true) else ([], 0, false)
theorem rdK_le (bs : List UInt8) (n q : Nat) (ok : Bool) (hq : q ≤ bs.length) : (rdK bs n q ok).2.1 ≤ bs.length := by
  induction n generalizing q ok with
  | zero => exact hq
  | succ n ih =>
    cases ok
    · exact hq
    · rw [rdK_succ]
      exact ih _ _ (rdN_step hq).2.2.1
theorem rdN_le (bs : List UInt8) (q : Nat) (ok : Bool) (hq : q ≤ bs.length) : (rdN bs q ok).2.1 ≤ bs.length := by
  cases ok
  · exact hq
  · exact (rdN_step hq).2.2.1
theorem rdL_le (bs : List UInt8) (q : Nat) (ok : Bool) (hq : q ≤ bs.length) : (rdL bs q ok).2.1 ≤ bs.length := rdK_le _ _ _ _ (rdN_le _ _ _ hq)
theorem OwnN.setNe17 {w : World} {lo b o : Nat} {v : Value} {xs : List Int} (h : OwnN w lo v xs) (hb : xs = [] ∨ blockOf v ≠ b) (u : Value) : OwnN (w.setCell ⟨b, o, none⟩ u) lo v xs := by
  obtain ⟨h0, a, cap, rfl, hcap, h⟩ := h
  refine ⟨h0, a, cap, rfl, hcap, ?_⟩
  rcases h with h | ⟨g, off, rfl, hg, hc⟩
  · exact .inl h
  · rcases hb with hb | hb
    · exact .inl hb
    · exact .inr ⟨g, off, rfl, hg, fun i hi => ⟨set_other (hc i hi).1 (.inl hb), (World.frozen?_setCell _ _ _ _).trans (hc i hi).2⟩⟩
theorem OwnN.ne17 {w : World} {lo : Nat} {v : Value} {xs : List Int} (h : OwnN w lo v xs) : xs = [] ∨ blockOf v ≠ w.heap.size := by
  obtain ⟨h0, a, cap, rfl, hcap, h⟩ := h
  rcases h with h | ⟨g, off, rfl, hg, hc⟩
  · exact .inl h
  · cases xs with
    | nil => exact .inl rfl
    | cons x xs =>
      have := dCell_lt (hc 0 (by simp)).1
      exact .inr (by simp only [blockOf] at this ⊢; omega)
theorem OwnN.drawn17 {bk : Nat} {w w' : World} {base : Nat} {v : Value} {xs : List Int} (h : OwnN w base v xs) (hd : Drawn bk w w') (hb : bk < base) : OwnN w' base v xs := by
  obtain ⟨h0, a, cap, rfl, hcap, h⟩ := h
  refine ⟨h0, a, cap, rfl, hcap, ?_⟩
  rcases h with h | ⟨b, off, rfl, hg, hc⟩
  · exact .inl h
  · exact .inr ⟨b, off, rfl, hg, fun i hi => ⟨hd.cell (hc i hi).1 (by omega), (hd.frozen (by omega) (dCell_lt (hc i hi).1)).trans (hc i hi).2⟩⟩
theorem below_two17 {B b : Nat} {w w' : World} (hb : Below B w w') (h : B ≤ b) (u v : Value) : Below B w ((w'.setCell ⟨b, 0, none⟩ u).setCell ⟨b, 1, none⟩ v) := (hb.setCell (p := ⟨b, 0, none⟩) h u).setCell (p := ⟨b, 1, none⟩) h v
theorem BxZ.two17 {w : World} {B b : Nat} {p q : Value} (h : BxZ w B b [p, q]) (u v : Value) : Bx ((w.setCell ⟨b, 0, none⟩ u).setCell ⟨b, 1, none⟩ v) b [u, v] := ((h.put 0 u).put 1 v).bx
theorem Bs.ne17 {w : World} {v : Value} {bs : List UInt8} (h : Bs w v bs) : bs = [] ∨ blockOf v ≠ w.heap.size + 1 := by
  by_cases e : bs = []
  · exact .inl e
  · exact .inr (by have := h.lt e; omega)
theorem cfgR_yes (bs : List UInt8) (h : endB bs (rdN bs (rdL bs 0 true).2.1 (rdL bs 0 true).2.2).2.1 (rdN bs (rdL bs 0 true).2.1 (rdL bs 0 true).2.2).2.2 = true ∧ cfgP (rdL bs 0 true).1 (rdN bs (rdL bs 0 true).2.1 (rdL bs 0 true).2.2).1) : cfgR bs = ((rdL bs 0 true).1, (rdN bs (rdL bs 0 true).2.1 (rdL bs 0 true).2.2).1, true) := if_pos h
theorem cfgR_no (bs : List UInt8) (h : ¬ (endB bs (rdN bs (rdL bs 0 true).2.1 (rdL bs 0 true).2.2).2.1 (rdN bs (rdL bs 0 true).2.1 (rdL bs 0 true).2.2).2.2 = true ∧ cfgP (rdL bs 0 true).1 (rdN bs (rdL bs 0 true).2.1 (rdL bs 0 true).2.2).1)) : cfgR bs = ([], 0, false) := if_neg h
end Go.Proofs.YtioocibgfhgkhaaGreatDoor
namespace Go.Proofs.YtioocibgfhgkhaaGreatDoor
open Go.ChangeShapes Go.WideShapes Go.ChangeAt Go.RowKit
set_option linter.unusedVariables false
set_option linter.unusedSimpArgs false
set_option maxRecDepth 100000

/-- An event that may be packed. -/
def evPk (e : Ev) : Prop := (1 ≤ e.kind ∧ e.kind ≤ 5) ∧ 0 ≤ e.pl ∧ e.data.size ≤ 40
/-- A reader that may be packed. -/
def rdPk (r : Rr) : Prop := (∀ e ∈ r.out, evPk e) ∧ rrP r
end Go.Proofs.YtioocibgfhgkhaaGreatDoor
namespace Go.Proofs.YtioocibgfhgkhaaGreatDoor
open Go.ChangeShapes Go.WideShapes Go.ChangeAt Go.RowKit
set_option linter.unusedVariables false
set_option linter.unusedSimpArgs false
set_option maxRecDepth 100000

/-- An event that is read by the cursor, and where it is then. -/
def rdE (bs : List UInt8) (q : Nat) (ok : Bool) : Ev × Nat × Bool :=
  (⟨(rdN bs q ok).1, (rdN bs (rdN bs q ok).2.1 (rdN bs q ok).2.2).1, ⟨(rdT bs (rdN bs (rdN bs q ok).2.1 (rdN bs q ok).2.2).2.1 (rdN bs (rdN bs q ok).2.1 (rdN bs q ok).2.2).2.2).1.toArray⟩⟩, (rdT bs (rdN bs (rdN bs q ok).2.1 (rdN bs q ok).2.2).2.1 (rdN bs (rdN bs q ok).2.1 (rdN bs q ok).2.2).2.2).2)
def rdEs (bs : List UInt8) : Nat → Nat → Bool → List Ev × Nat × Bool
  | 0, q, ok => ([], q, ok)
  | n + 1, q, false => ([], q, false)
  | n + 1, q, true => ((rdE bs q true).1 :: (rdEs bs n (rdE bs q true).2.1 (rdE bs q true).2.2).1, (rdEs bs n (rdE bs q true).2.1 (rdE bs q true).2.2).2)
theorem rdEs_off (bs : List UInt8) (n q : Nat) : rdEs bs n q false = ([], q, false) := by cases n <;> rfl
theorem rdEs_zero (bs : List UInt8) (q : Nat) (ok : Bool) : rdEs bs 0 q ok = ([], q, ok) := rfl
theorem rdEs_succ (bs : List UInt8) (n q : Nat) : rdEs bs (n + 1) q true = ((rdE bs q true).1 :: (rdEs bs n (rdE bs q true).2.1 (rdE bs q true).2.2).1, (rdEs bs n (rdE bs q true).2.1 (rdE bs q true).2.2).2) := rfl
theorem rdT_step {bs : List UInt8} {q : Nat} (ok : Bool) (hq : q ≤ bs.length) : q ≤ (rdT bs q ok).2.1 ∧ (rdT bs q ok).2.1 ≤ bs.length := by
  cases ok
  · exact ⟨Nat.le_refl _, hq⟩
  cases hz : gtextZ bs (q : Int) with
  | none => rw [rdT_none true hz]; exact ⟨Nat.le_refl _, hq⟩
  | some p =>
    obtain ⟨x, k⟩ := p
    rw [rdT_some hz]
    unfold gtextZ at hz
    split at hz
    · cases hz
    · unfold gtextB at hz
      split at hz
      · cases hz
      · split at hz
        · simp only [Option.some.injEq, Prod.mk.injEq, Int.toNat_natCast] at hz
          rename_i hle
          simp only [Int.toNat_natCast] at hle
          obtain ⟨-, rfl⟩ := hz
          simp only
          omega
        · cases hz
theorem rdN_mono {bs : List UInt8} {q : Nat} (ok : Bool) (hq : q ≤ bs.length) : q ≤ (rdN bs q ok).2.1 ∧ (rdN bs q ok).2.1 ≤ bs.length ∧ ((rdN bs q ok).2.2 = true → q + 1 ≤ (rdN bs q ok).2.1) := by
  cases ok
  · exact ⟨Nat.le_refl _, hq, fun h => by cases h⟩
  · exact (rdN_step hq).2
theorem rdN_ok {bs : List UInt8} {q : Nat} {ok : Bool} (h : (rdN bs q ok).2.2 = true) : ok = true := by
  cases ok
  · cases h
  · rfl
theorem rdT_ok {bs : List UInt8} {q : Nat} {ok : Bool} (h : (rdT bs q ok).2.2 = true) : ok = true := by
  cases ok
  · cases h
  · rfl
theorem rdE_step {bs : List UInt8} {q : Nat} (hq : q ≤ bs.length) : q ≤ (rdE bs q true).2.1 ∧ (rdE bs q true).2.1 ≤ bs.length ∧ ((rdE bs q true).2.2 = true → q + 1 ≤ (rdE bs q true).2.1) := by
  have h1 := rdN_mono (bs := bs) true hq
  have h2 := rdN_mono (bs := bs) (rdN bs q true).2.2 h1.2.1
  have h3 := rdT_step (bs := bs) (rdN bs (rdN bs q true).2.1 (rdN bs q true).2.2).2.2 h2.2.1
  refine ⟨by unfold rdE; simp only; omega, by unfold rdE; simp only; omega, fun h => ?_⟩
  have h4 := h1.2.2 (rdN_ok (rdT_ok h |> fun h => h))
  unfold rdE
  simp only
  omega
end Go.Proofs.YtioocibgfhgkhaaGreatDoor
