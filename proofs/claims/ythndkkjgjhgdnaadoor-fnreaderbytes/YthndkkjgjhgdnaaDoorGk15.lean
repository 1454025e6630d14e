/- Several texts in one: RdrB, RdrC. -/
import Derived.Test.YthndkkjgjhgdnaaDoorGk11
import Derived.Test.YthndkkjgjhgdnaaDoorGaT
import Derived.Laws.Shifts
namespace Go.Proofs.YthndkkjgjhgdnaaDoor
open Go.ChangeShapes Go.WideShapes Go.ChangeAt Go.RowKit
set_option linter.unusedVariables false

/-- Only block pk is turned, and it holds a place still. -/
def Moved (pk : Nat) (w w' : World) : Prop := Drawn pk w w' ∧ ∃ y : Int, Plc w' pk y
/-- num's answer, as a value. -/
def numT (o : Option (Nat × Nat)) : Value := match o with
  | none => .tuple #[.int .i64 0, .bool false]
  | some (x, _) => .tuple #[.int .i64 (x : Int), .bool true]
theorem shl7 (X d k : Nat) (hk : k ≤ 8) (hX : X + d % 128 * 128 ^ k < 9223372036854775808) : wrap64 ((X : Int) + wrap64 ((d : Int) % 128 * 2 ^ (7 * k))) = ((X + d % 128 * 128 ^ k : Nat) : Int) := by
  have e3 : (2 : Int) ^ (7 * k) = ((128 ^ k : Nat) : Int) := by rw [Int.pow_mul]; push_cast; rfl
  rw [e3, show ((d : Int) % 128 * ((128 ^ k : Nat) : Int)) = ((d % 128 * 128 ^ k : Nat) : Int) by push_cast; rfl]
  generalize d % 128 * 128 ^ k = M at *
  rw [IntWalk.wrap64_in (M : Int) (by omega), show ((X : Int) + (M : Int)) = ((X + M : Nat) : Int) by push_cast; rfl]
  exact IntWalk.wrap64_in _ (by omega)
set_option maxHeartbeats 1000000 in
theorem num_neg (v : Value) (bs : List UInt8) (pk : Nat) (x : Int) (w : World) (hv : Bs w v bs) (hp : Plc w pk x) (hx : x < 0) :
    Calls Tryd.prog 80 #[rdr v pk] w fun e w' => e = .returned (numT none) ∧ Moved pk w w' := by
  have plt := dCell_lt hp.1
  have hb : ∀ o, Below w.heap.size w (w.alloc o) := fun o => (Below.refl _ _).alloc (Nat.le_refl _) o
  have HV := fun o => hv.below (hb o)
  have HP := fun o => hp.below (hb o)
  have D0 := fun o => Drawn.of_below (bk := pk) (hb o)
  clear hv hp hb
  unfold rdr at *
  go_enter Tryd.func80, Tryd.ntmps80
  go_wp2
  go_loopw [4, 5] (fun xv iv wr => xv = .int .i64 0 ∧ iv = .int .i64 0 ∧ Hid (Bs wr v bs) ∧ Hid (Plc wr pk x) ∧ wr.cell? ⟨w.heap.size, 0, none⟩ = some v ∧ wr.cell? ⟨w.heap.size, 1, none⟩ = some (.pointer (some ⟨pk, 0, none⟩)) ∧ Hid (Drawn pk w wr)) (fun _ iv _ => 9 - (intOf iv).toNat)
  case atStart => exact ⟨rfl, rfl, HV _, HP _, by simp, by simp, D0 _⟩
  case round =>
    obtain ⟨rfl, rfl, hv, hp, c0, c1, hd⟩ := hrel
    clear HV HP D0
    have C := dHide (next_no v bs pk x wr (dUnhide hv) (dUnhide hp) (.inl hx))
    go_wp2_with fail
    refine (dUnhide C).mono ?_
    rintro e w1 ⟨rfl, hb1⟩
    have hdd : Hid (Moved pk w w1) := ⟨(dUnhide hd).trans (Drawn.of_below hb1), _, (dUnhide hp).below hb1⟩
    clear hd hv hp c0 c1 C
    go_wp2
    go_ret2
    exact ⟨rfl, hdd⟩
set_option maxHeartbeats 1000000 in
set_option maxRecDepth 100000 in
theorem num_nat (v : Value) (bs : List UInt8) (pk : Nat) (at0 : Nat) (w : World) (hv : Bs w v bs) (hp : Plc w pk (at0 : Int)) (hne : bs = [] ∨ blockOf v ≠ pk) :
    Calls Tryd.prog 80 #[rdr v pk] w fun e w' => e = .returned (numT (getB (bs.drop at0))) ∧ (∀ x k, getB (bs.drop at0) = some (x, k) → Plc w' pk ((at0 + k : Nat) : Int)) ∧ Moved pk w w' := by
  have hlen := hv.1
  have plt := dCell_lt hp.1
  have hb : ∀ o, Below w.heap.size w (w.alloc o) := fun o => (Below.refl _ _).alloc (Nat.le_refl _) o
  have HV := fun o => hv.below (hb o)
  have HP := fun o => hp.below (hb o)
  have D0 := fun o => Drawn.of_below (bk := pk) (hb o)
  clear hv hp hb
  unfold rdr at *
  go_enter Tryd.func80, Tryd.ntmps80
  go_wp2
  go_loopw [4, 5] (fun xv iv wr => ∃ k X : Nat, xv = .int .i64 (X : Int) ∧ iv = .int .i64 (k : Int) ∧ k ≤ 9 ∧ Hid (GetInv bs at0 k X) ∧ Hid (Bs wr v bs) ∧ Hid (Plc wr pk ((at0 + k : Nat) : Int)) ∧ wr.cell? ⟨w.heap.size, 0, none⟩ = some v ∧ wr.cell? ⟨w.heap.size, 1, none⟩ = some (.pointer (some ⟨pk, 0, none⟩)) ∧ Hid (Drawn pk w wr)) (fun _ iv _ => 9 - (intOf iv).toNat)
  case atStart => exact ⟨0, 0, rfl, rfl, by omega, GetInv.start _ _, HV _, HP _, by simp, by simp, D0 _⟩
  case round =>
    obtain ⟨k, X, rfl, rfl, hk9, hinv, hv, hp, c0, c1, hd⟩ := hrel
    clear HV HP D0
    by_cases hk : (k : Int) < 9
    · by_cases hlt : at0 + k < bs.length
      · have hne' : blockOf v ≠ pk := hne.resolve_left (by rintro rfl; simp at hlt)
        have C := dHide (next_yes v bs pk (at0 + k) wr (dUnhide hv) (dUnhide hp) hlt hne')
        have hstop := dHide (GetInv.stop hinv (by omega) hlt)
        have hmore := dHide (GetInv.more hinv (by omega) hlt)
        have hbd := pow_step k X bs[at0 + k].toNat (dUnhide hinv).2.2
        have hp9 := pow_le9 (show k ≤ 8 by omega)
        have hd256 : bs[at0 + k].toNat < 256 := bs[at0 + k].toNat_lt
        have hs7 := dHide (shl7 X bs[at0 + k].toNat k (by omega) (by omega))
        have hrb : w.heap.size ≠ pk := by omega
        clear hinv
        generalize bs[at0 + k].toNat = d at *
        generalize d % 128 * 128 ^ k = M at *
        go_wp2_with fail
        refine (dUnhide C).mono ?_
        rintro e w1 ⟨rfl, hp1, hd1⟩
        have c01 := hd1.cell c0 hrb
        have c11 := hd1.cell c1 hrb
        have hv1 : Hid (Bs w1 v bs) := (dUnhide hv).drawn hd1 (.inr hne')
        have hp1' := dHide hp1
        have hdd : Hid (Drawn pk w w1) := (dUnhide hd).trans hd1
        clear c0 c1 hv hp hd C hp1 hd1
        by_cases hz : ((d : Int) == 0) = true
        · by_cases hk0 : (0 : Int) < (k : Int)
          · have hs := dUnhide hstop (by simp at hz; omega)
            rw [if_pos ⟨by simpa using hz, by omega⟩] at hs
            have HS := dHide hs
            clear hs hstop hmore
            go_wp2
            go_ret2
            exact ⟨by rw [dUnhide HS]; rfl, (fun x k h => by rw [dUnhide HS] at h; cases h), hdd, _, dUnhide hp1'⟩
          · have hs := dUnhide hstop (by simp at hz; omega)
            rw [if_neg (by omega)] at hs
            have HS := dHide hs
            have hdlt : (d : Int) < 128 := by simp at hz; omega
            clear hs hstop hmore
            go_wp2
            go_ret2
            exact ⟨by rw [dUnhide HS]; simp only [numT]; rw [dUnhide hs7]; rfl, (fun x k' h => by rw [dUnhide HS] at h; cases h; exact dUnhide hp1'), hdd, _, dUnhide hp1'⟩
        · have hz' : ((d : Int) == 0) = false := by simpa using hz
          by_cases hdl : (d : Int) < 128
          · have hs := dUnhide hstop (by omega)
            rw [if_neg (by intro h; apply hz; rw [beq_iff_eq]; omega)] at hs
            have HS := dHide hs
            clear hs hstop hmore hz
            go_wp2
            go_ret2
            exact ⟨by rw [dUnhide HS]; simp only [numT]; rw [dUnhide hs7]; rfl, (fun x k' h => by rw [dUnhide HS] at h; cases h; exact dUnhide hp1'), hdd, _, dUnhide hp1'⟩
          · have hm := dHide (dUnhide hmore (by omega))
            clear hstop hmore hz
            go_wp2
            go_roundw
            case rel => exact ⟨k + 1, X + M, by rw [dUnhide hs7], by go_num, by omega, hm, hv1, hp1', c01, c11, hdd⟩
            case measure => simp [intOf]; omega
      · have C := dHide (next_no v bs pk ((at0 + k : Nat) : Int) wr (dUnhide hv) (dUnhide hp) (.inr (by omega)))
        have HS := dHide (GetInv.none hinv (.inr (by omega)))
        go_wp2_with fail
        refine (dUnhide C).mono ?_
        rintro e w1 ⟨rfl, hb1⟩
        have hdd : Hid (Moved pk w w1) := ⟨(dUnhide hd).trans (Drawn.of_below hb1), _, (dUnhide hp).below hb1⟩
        clear hd hv hp c0 c1 hinv C
        go_wp2
        go_ret2
        exact ⟨by rw [dUnhide HS]; rfl, (fun x k h => by rw [dUnhide HS] at h; cases h), hdd⟩
    · have HS := dHide (GetInv.none hinv (.inl (by omega)))
      go_wp2
      go_ret2
      exact ⟨by rw [dUnhide HS]; rfl, (fun x k h => by rw [dUnhide HS] at h; cases h), dUnhide hd, _, dUnhide hp⟩
end Go.Proofs.YthndkkjgjhgdnaaDoor
namespace Go.Proofs.YthndkkjgjhgdnaaDoor
open Go.ChangeShapes Go.WideShapes Go.ChangeAt Go.RowKit
set_option linter.unusedVariables false

theorem Moved.drewN {pk : Nat} {w w' : World} (h : Moved pk w w') (n : Nat) : Moved pk w (w'.drewN n) := ⟨h.1.drewN n, by obtain ⟨y, hy⟩ := h.2; exact ⟨y, hy.below (below_drewN (Below.refl _ _) _)⟩⟩
/-- text's answer, as a value. -/
def rtextT (o : Option (List UInt8 × Nat)) : Value := match o with
  | none => .tuple #[.string ⟨#[]⟩, .bool false]
  | some (t, _) => .tuple #[.string ⟨t.toArray⟩, .bool true]
set_option maxHeartbeats 1000000 in
set_option maxRecDepth 100000 in
theorem text_neg (v : Value) (bs : List UInt8) (pk : Nat) (x : Int) (w : World) (hv : Bs w v bs) (hp : Plc w pk x) (hx : x < 0) :
    Calls Tryd.prog 88 #[rdr v pk] w fun e w' => e = .returned (rtextT none) ∧ Moved pk w w' := by
  have plt := dCell_lt hp.1
  have hb : ∀ o, Below w.heap.size w (w.alloc o) := fun o => (Below.refl _ _).alloc (Nat.le_refl _) o
  have C := dHide fun o => num_neg v bs pk x (w.alloc o) (hv.below (hb o)) (hp.below (hb o)) hx
  have D0 := fun o => Drawn.of_below (bk := pk) (hb o)
  clear hv hp hb
  unfold rdr at *
  go_enter Tryd.func88, Tryd.ntmps88
  go_wp2_with fail
  refine (dUnhide C _).mono ?_
  rintro e w1 ⟨rfl, hd1⟩
  have hdd' : Hid (Moved pk w w1) := ⟨(D0 _).trans hd1.1, hd1.2⟩
  clear C D0 hd1
  simp only [numT]
  go_wp2
  go_quiet (fail)
  go_wp2
  go_ret2
  exact ⟨rfl, (dUnhide hdd').drewN _⟩
set_option maxHeartbeats 1000000 in
set_option maxRecDepth 100000 in
theorem text_nat (v : Value) (bs : List UInt8) (pk : Nat) (at0 : Nat) (w : World) (hv : Bs w v bs) (hl : bs.length ≤ 1099511627776) (hp : Plc w pk (at0 : Int)) (hne : bs = [] ∨ blockOf v ≠ pk) :
    Calls Tryd.prog 88 #[rdr v pk] w fun e w' => e = .returned (rtextT (gtextB bs at0)) ∧ (∀ t k, gtextB bs at0 = some (t, k) → Plc w' pk (k : Int)) ∧ Moved pk w w' := by
  have plt := dCell_lt hp.1
  have hb : ∀ o, Below w.heap.size w (w.alloc o) := fun o => (Below.refl _ _).alloc (Nat.le_refl _) o
  have HV := fun o => hv.below (hb o)
  have HP := fun o => hp.below (hb o)
  have C := dHide fun o => num_nat v bs pk at0 (w.alloc o) (HV o) (HP o) hne
  have D0 := fun o => Drawn.of_below (bk := pk) (hb o)
  have hrb : w.heap.size ≠ pk := by omega
  have hcb : ∀ o, (w.alloc (.cells #[v, .pointer (some ⟨pk, 0, none⟩)] o)).cell? ⟨w.heap.size, 0, none⟩ = some v := fun o => by simp
  have hcc : ∀ o, (w.alloc (.cells #[v, .pointer (some ⟨pk, 0, none⟩)] o)).cell? ⟨w.heap.size, 1, none⟩ = some (.pointer (some ⟨pk, 0, none⟩)) := fun o => by simp
  clear hv hp hb HP
  unfold rdr at *
  cases hg : getB (bs.drop at0) with
  | none =>
    have hfin : gtextB bs at0 = none := by simp only [gtextB, hg]
    have HF := dHide hfin
    rw [hg] at C
    clear hfin hg
    go_enter Tryd.func88, Tryd.ntmps88
    go_wp2_with fail
    refine (dUnhide C _).mono ?_
    rintro e w1 ⟨rfl, -, hd1⟩
    have hdd' : Hid (Moved pk w w1) := ⟨(D0 _).trans hd1.1, hd1.2⟩
    clear C D0 hd1 HV hcb hcc
    simp only [numT]
    go_wp2
    go_quiet (fail)
    go_wp2
    go_ret2
    exact ⟨by rw [dUnhide HF]; rfl, (fun t k h => by rw [dUnhide HF] at h; cases h), (dUnhide hdd').drewN _⟩
  | some r =>
    obtain ⟨n, k⟩ := r
    obtain ⟨b1, b2, b3⟩ := getB_bd hg
    rw [List.length_drop] at b2
    rw [hg] at C
    have hple : at0 ≤ bs.length := by
      rcases Nat.lt_or_ge bs.length at0 with h | h
      · rw [getB_nil bs at0 (by omega)] at hg; cases hg
      · exact h
    have hplt : at0 < bs.length := by
      rcases Nat.lt_or_ge at0 bs.length with h | h
      · exact h
      · rw [getB_nil bs at0 h] at hg; cases hg
    have hple : at0 + k ≤ bs.length := by omega
    by_cases hn : n + (at0 + k) ≤ bs.length
    · have hfin : gtextB bs at0 = some ((bs.drop (at0 + k)).take n, at0 + k + n) := by simp only [gtextB, hg]; rw [if_pos hn]
      have HF := dHide hfin
      generalize hpp : at0 + k = p at *
      have HPP := dHide hpp
      clear hfin hg hpp
      have t1 : ¬ ((bs.length : Int) - (p : Int) < (n : Int)) := by omega
      go_enter Tryd.func88, Tryd.ntmps88
      go_wp2_with fail
      refine (dUnhide C _).mono ?_
      rintro e w1 ⟨rfl, hp1, hd1⟩
      have hne' : blockOf v ≠ pk := hne.resolve_left (by rintro rfl; simp at hplt)
      have hd1 := hd1.1
      have hdd' : Hid (Drawn pk w w1) := (D0 _).trans hd1
      have hp1' := hp1 _ _ rfl
      rw [dUnhide HPP] at hp1'
      have HP1 := dHide hp1'
      obtain ⟨q1, q2⟩ := hp1'
      have c0 := hd1.cell (hcb _) hrb
      have c1 := hd1.cell (hcc _) hrb
      obtain ⟨h0, a, cap, rfl, hcap, hv1⟩ := (HV _).drawn hd1 hne
      obtain ⟨b, off, rfl, hc⟩ := or_of_lt hv1 hplt
      have hbk : b ≠ pk := by simpa [blockOf] using hne'
      clear C D0 hd1 HV hcb hcc hp1 hv1
      simp only [numT]
      go_wp2
      go_quiet (fail)
      go_wp2
      have hdW : Hid (Drawn pk w ((w1.drewN nq).setCell ⟨pk, 0, none⟩ (.int .i64 ((p : Int) + (n : Int))))) := ((dUnhide hdd').drewN _).setCell 0 _
      have k0 : ((w1.drewN nq).setCell ⟨pk, 0, none⟩ (.int .i64 ((p : Int) + (n : Int)))).cell? ⟨w.heap.size, 0, none⟩ = _ := set_other (by simpa using c0) (.inl hrb)
      have k1 : ((w1.drewN nq).setCell ⟨pk, 0, none⟩ (.int .i64 ((p : Int) + (n : Int)))).cell? ⟨w.heap.size, 1, none⟩ = _ := set_other (by simpa using c1) (.inl hrb)
      have k2 : ((w1.drewN nq).setCell ⟨pk, 0, none⟩ (.int .i64 ((p : Int) + (n : Int)))).cell? ⟨pk, 0, none⟩ = _ := World.cell?_setCell_same _ _ _ (by simpa using q1)
      have k3 : ((w1.drewN nq).setCell ⟨pk, 0, none⟩ (.int .i64 ((p : Int) + (n : Int)))).frozen? ⟨pk, 0, none⟩ = false := (World.frozen?_setCell _ _ _ _).trans (by simpa using q2)
      have kc : ∀ i (h : i < bs.length), ((w1.drewN nq).setCell ⟨pk, 0, none⟩ (.int .i64 ((p : Int) + (n : Int)))).cell? ⟨b, off + i, none⟩ = some (.int .u8 (bs[i].toNat : Int)) := fun i h => set_other (by simpa using hc i h) (.inl hbk)
      clear c0 c1 q1 q2 hc hdd' HP1
      generalize (w1.drewN nq).setCell ⟨pk, 0, none⟩ (.int .i64 ((p : Int) + (n : Int))) = W at *
      have hPW : Hid (Plc W pk ((p : Int) + (n : Int))) := ⟨k2, k3⟩
      have hcv := fun m cap' => conv_cut (w := W.drewN m) (cap := cap') (fun i h => (by simpa using kc i h)) (show p + n ≤ bs.length by omega)
      have hcv1 := fun cap' => conv_cut (w := W) (cap := cap') kc (show p + n ≤ bs.length by omega)
      have hcv0 := fun m => conv_none (w := W.drewN m) b off
      have hcv2 := conv_none (w := W) b off
      clear kc
      by_cases hcp : cap = p
      · obtain rfl : n = 0 := by omega
        go_quiet (fail)
        go_wp2
        go_ret2
        exact ⟨by rw [dUnhide HF]; simp only [rtextT, List.take_zero]; rfl, (fun t k h => by rw [dUnhide HF] at h; cases h; exact (dUnhide hPW).below (below_drewN (Below.refl _ _) _)), (dUnhide hdW).drewN _, _, (dUnhide hPW).below (below_drewN (Below.refl _ _) _)⟩
      · go_quiet (fail)
        go_wp2
        go_ret2
        exact ⟨by rw [dUnhide HF]; simp only [rtextT]; rfl, (fun t k h => by rw [dUnhide HF] at h; cases h; exact (dUnhide hPW).below (below_drewN (Below.refl _ _) _)), (dUnhide hdW).drewN _, _, (dUnhide hPW).below (below_drewN (Below.refl _ _) _)⟩
    · have hfin : gtextB bs at0 = none := by simp only [gtextB, hg]; rw [if_neg hn]
      have HF := dHide hfin
      generalize hpp : at0 + k = p at *
      have HPP := dHide hpp
      clear hfin hg hpp
      have t1 : ((bs.length : Int) - (p : Int) < (n : Int)) := by omega
      go_enter Tryd.func88, Tryd.ntmps88
      go_wp2_with fail
      refine (dUnhide C _).mono ?_
      rintro e w1 ⟨rfl, hp1, hd1⟩
      have hdd' : Hid (Moved pk w w1) := ⟨(D0 _).trans hd1.1, hd1.2⟩
      have hd1 := hd1.1
      have hp1' := hp1 _ _ rfl
      rw [dUnhide HPP] at hp1'
      obtain ⟨q1, q2⟩ := hp1'
      have c0 := hd1.cell (hcb _) hrb
      have c1 := hd1.cell (hcc _) hrb
      obtain ⟨h0, a, cap, rfl, -, -⟩ := HV (.cells #[] 0)
      clear C D0 hd1 HV hcb hcc hp1
      simp only [numT]
      go_wp2
      go_quiet (fail)
      go_wp2
      go_ret2
      exact ⟨by rw [dUnhide HF]; rfl, (fun t k h => by rw [dUnhide HF] at h; cases h), (dUnhide hdd').drewN _⟩
end Go.Proofs.YthndkkjgjhgdnaaDoor
