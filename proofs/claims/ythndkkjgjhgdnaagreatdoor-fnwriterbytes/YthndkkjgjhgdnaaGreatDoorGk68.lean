/- Several texts in one: RdrA, RdrB, RdrC, AsE, AsF, DoorH. -/
import Derived.Test.YthndkkjgjhgdnaaGreatDoorGaA
import Derived.Test.YthndkkjgjhgdnaaGreatDoorGk83
import Derived.Laws.Shifts
import Derived.Stop.Asserts
import Derived.Deep.MidRow
import GoSem.ClaimJoined
import Derived.WalkKit
import Derived.LaidEql
import Derived.Stop.IfaceNil
import Derived.RowKitTokens
import Derived.Laws.Externs
import Derived.Test.YthndkkjgjhgdnaaGreatDoorRows
import Derived.Handy
import Derived.LaidMore
import Derived.LaidHandle
import Derived.KernelRfl
import Derived.Stop.Joined
namespace Go.Proofs.YthndkkjgjhgdnaaGreatDoor
open Go.ChangeShapes Go.WideShapes Go.ChangeAt Go.RowKit
set_option linter.unusedVariables false

/-- Block pk holds the place x, and may be written. -/
def Plc (w : World) (pk : Nat) (x : Int) : Prop := w.cell? ⟨pk, 0, none⟩ = some (.int .i64 x) ∧ w.frozen? ⟨pk, 0, none⟩ = false
/-- The reader of v at block pk. -/
def rdr (v : Value) (pk : Nat) : Value := .agg #[v, .pointer (some ⟨pk, 0, none⟩)]
theorem Plc.below {w w' : World} {pk : Nat} {x : Int} (h : Plc w pk x) (hb : Below w.heap.size w w') : Plc w' pk x :=
  ⟨(hb.cell (p := ⟨pk, 0, none⟩) (dCell_lt h.1)).trans h.1, (hb.frozen (p := ⟨pk, 0, none⟩) (dCell_lt h.1)).trans h.2⟩

set_option maxHeartbeats 1000000 in
theorem next_no (v : Value) (bs : List UInt8) (pk : Nat) (x : Int) (w : World) (hv : Bs w v bs) (hp : Plc w pk x) (hx : x < 0 ∨ (bs.length : Int) ≤ x) :
    Calls Tryz.prog 137 #[rdr v pk] w fun e w' => e = .returned (.tuple #[.int .i64 0, .bool false]) ∧ Below w.heap.size w w' := by
  obtain ⟨h0, a, cap, rfl, -, hv⟩ := hv
  clear hv
  obtain ⟨p1, p2⟩ := hp
  have plt := dCell_lt p1
  unfold rdr
  by_cases h : x < 0
  · go_enter Tryz.func137, Tryz.ntmps137
    go_wp2
    go_ret2
    exact ⟨rfl, (Below.refl _ _).alloc (Nat.le_refl _) _⟩
  · have h2 : (bs.length : Int) ≤ x := by omega
    go_enter Tryz.func137, Tryz.ntmps137
    go_wp2
    go_ret2
    exact ⟨rfl, (Below.refl _ _).alloc (Nat.le_refl _) _⟩
set_option maxHeartbeats 1000000 in
theorem next_yes (v : Value) (bs : List UInt8) (pk : Nat) (x : Nat) (w : World) (hv : Bs w v bs) (hp : Plc w pk (x : Int)) (hx : x < bs.length) (hne : blockOf v ≠ pk) :
    Calls Tryz.prog 137 #[rdr v pk] w fun e w' => e = .returned (.tuple #[.int .i64 ((bs[x]'hx).toNat : Int), .bool true]) ∧ Plc w' pk ((x + 1 : Nat) : Int) ∧ Drawn pk w w' := by
  obtain ⟨h0, a, cap, rfl, -, hv⟩ := hv
  obtain ⟨b, off, rfl, hc⟩ := or_of_lt hv hx
  obtain ⟨p1, p2⟩ := hp
  have plt := dCell_lt p1
  have c1 := hc x hx
  have clt := dCell_lt c1
  have hne' : b ≠ pk := by simpa [blockOf] using hne
  have hd256 : (bs[x]'hx).toNat < 256 := (bs[x]'hx).toNat_lt
  unfold rdr
  clear hv hc hne
  generalize (bs[x]'hx).toNat = d at *
  have a1 : ¬ ((x : Int) < 0) := by omega
  have a2 : ¬ ((bs.length : Int) ≤ (x : Int)) := by omega
  go_enter Tryz.func137, Tryz.ntmps137
  go_wp2
  go_ret2
  have hd : Drawn pk w (w.setCell ⟨pk, 0, none⟩ (.int .i64 ((x + 1 : Nat) : Int))) := (Drawn.refl pk w).setCell 0 _
  have hps : Plc (w.setCell ⟨pk, 0, none⟩ (.int .i64 ((x + 1 : Nat) : Int))) pk ((x + 1 : Nat) : Int) := ⟨World.cell?_setCell_same _ _ _ p1, (World.frozen?_setCell _ _ _ _).trans p2⟩
  have hb : ∀ o, Below (w.setCell ⟨pk, 0, none⟩ (.int .i64 ((x + 1 : Nat) : Int))).heap.size (w.setCell ⟨pk, 0, none⟩ (.int .i64 ((x + 1 : Nat) : Int))) ((w.setCell ⟨pk, 0, none⟩ (.int .i64 ((x + 1 : Nat) : Int))).alloc o) := fun o => (Below.refl _ _).alloc (Nat.le_refl _) o
  exact ⟨rfl, hps.below (hb _), hd.trans (Drawn.of_below (hb _))⟩
end Go.Proofs.YthndkkjgjhgdnaaGreatDoor
namespace Go.Proofs.YthndkkjgjhgdnaaGreatDoor
open Go.ChangeShapes Go.WideShapes Go.ChangeAt Go.RowKit
set_option linter.unusedVariables false

/-- Only block pk is turned, and it holds a place still. -/
def Moved (pk : Nat) (w w' : World) : Prop := Drawn pk w w' ∧ ∃ y : Int, Plc w' pk y
/-- num's answer, as a value. -/
def numT (o : Option (Nat × Nat)) : Value := match o with
  | none => .tuple #[.int .i64 0, .bool false]
  | some (x, _) => .tuple #[.int .i64 (x : Int), .bool true]
theorem shl7 (X d k : Nat) (hk : k ≤ 8) (hX : X + d % 128 * 128 ^ k < 9223372036854775808) : wrap64 ((X : Int) + wrap64 ((d : Int) % 128 * 2 ^ (7 * k))) = ((X + d % 128 * 128 ^ k : Nat) : Int) := by
  have e3 : (2 : Int) ^ (7 * k) = ((128 ^ k : Nat) : Int) := by rw [Int.pow_mul]; push_cast; rfl
  rw [e3, show ((d : Int) % 128 * ((128 ^ k : Nat) : Int)) = ((d % 128 * 128 ^ k : Nat) : Int) by push_cast; rfl]
  generalize d % 128 * 128 ^ k = M at *
  rw [IntWalk.wrap64_in (M : Int) (by omega), show ((X : Int) + (M : Int)) = ((X + M : Nat) : Int) by push_cast; rfl]
  exact IntWalk.wrap64_in _ (by omega)
set_option maxHeartbeats 1000000 in
theorem num_neg (v : Value) (bs : List UInt8) (pk : Nat) (x : Int) (w : World) (hv : Bs w v bs) (hp : Plc w pk x) (hx : x < 0) :
    Calls Tryz.prog 123 #[rdr v pk] w fun e w' => e = .returned (numT none) ∧ Moved pk w w' := by
  have plt := dCell_lt hp.1
  have hb : ∀ o, Below w.heap.size w (w.alloc o) := fun o => (Below.refl _ _).alloc (Nat.le_refl _) o
  have HV := fun o => hv.below (hb o)
  have HP := fun o => hp.below (hb o)
  have D0 := fun o => Drawn.of_below (bk := pk) (hb o)
  clear hv hp hb
  unfold rdr at *
  go_enter Tryz.func123, Tryz.ntmps123
  go_wp2
  go_loopw [4, 5] (fun xv iv wr => xv = .int .i64 0 ∧ iv = .int .i64 0 ∧ Hid (Bs wr v bs) ∧ Hid (Plc wr pk x) ∧ wr.cell? ⟨w.heap.size, 0, none⟩ = some v ∧ wr.cell? ⟨w.heap.size, 1, none⟩ = some (.pointer (some ⟨pk, 0, none⟩)) ∧ Hid (Drawn pk w wr)) (fun _ iv _ => 9 - (intOf iv).toNat)
  case atStart => exact ⟨rfl, rfl, HV _, HP _, by simp, by simp, D0 _⟩
  case round =>
    obtain ⟨rfl, rfl, hv, hp, c0, c1, hd⟩ := hrel
    clear HV HP D0
    have C := dHide (next_no v bs pk x wr (dUnhide hv) (dUnhide hp) (.inl hx))
    go_wp2_with fail
    refine (dUnhide C).mono ?_
    rintro e w1 ⟨rfl, hb1⟩
    have hdd : Hid (Moved pk w w1) := ⟨(dUnhide hd).trans (Drawn.of_below hb1), _, (dUnhide hp).below hb1⟩
    clear hd hv hp c0 c1 C
    go_wp2
    go_ret2
    exact ⟨rfl, hdd⟩
set_option maxHeartbeats 1000000 in
set_option maxRecDepth 100000 in
theorem num_nat (v : Value) (bs : List UInt8) (pk : Nat) (at0 : Nat) (w : World) (hv : Bs w v bs) (hp : Plc w pk (at0 : Int)) (hne : bs = [] ∨ blockOf v ≠ pk) :
    Calls Tryz.prog 123 #[rdr v pk] w fun e w' => e = .returned (numT (getB (bs.drop at0))) ∧ (∀ x k, getB (bs.drop at0) = some (x, k) → Plc w' pk ((at0 + k : Nat) : Int)) ∧ Moved pk w w' := by
  have hlen := hv.1
  have plt := dCell_lt hp.1
  have hb : ∀ o, Below w.heap.size w (w.alloc o) := fun o => (Below.refl _ _).alloc (Nat.le_refl _) o
  have HV := fun o => hv.below (hb o)
  have HP := fun o => hp.below (hb o)
  have D0 := fun o => Drawn.of_below (bk := pk) (hb o)
  clear hv hp hb
  unfold rdr at *
  go_enter Tryz.func123, Tryz.ntmps123
  go_wp2
  go_loopw [4, 5] (fun xv iv wr => ∃ k X : Nat, xv = .int .i64 (X : Int) ∧ iv = .int .i64 (k : Int) ∧ k ≤ 9 ∧ Hid (GetInv bs at0 k X) ∧ Hid (Bs wr v bs) ∧ Hid (Plc wr pk ((at0 + k : Nat) : Int)) ∧ wr.cell? ⟨w.heap.size, 0, none⟩ = some v ∧ wr.cell? ⟨w.heap.size, 1, none⟩ = some (.pointer (some ⟨pk, 0, none⟩)) ∧ Hid (Drawn pk w wr)) (fun _ iv _ => 9 - (intOf iv).toNat)
  case atStart => exact ⟨0, 0, rfl, rfl, by omega, GetInv.start _ _, HV _, HP _, by simp, by simp, D0 _⟩
  case round =>
    obtain ⟨k, X, rfl, rfl, hk9, hinv, hv, hp, c0, c1, hd⟩ := hrel
    clear HV HP D0
    by_cases hk : (k : Int) < 9
    · by_cases hlt : at0 + k < bs.length
      · have hne' : blockOf v ≠ pk := hne.resolve_left (by rintro rfl; simp at hlt)
        have C := dHide (next_yes v bs pk (at0 + k) wr (dUnhide hv) (dUnhide hp) hlt hne')
        have hstop := dHide (GetInv.stop hinv (by omega) hlt)
        have hmore := dHide (GetInv.more hinv (by omega) hlt)
        have hbd := pow_step k X bs[at0 + k].toNat (dUnhide hinv).2.2
        have hp9 := pow_le9 (show k ≤ 8 by omega)
        have hd256 : bs[at0 + k].toNat < 256 := bs[at0 + k].toNat_lt
        have hs7 := dHide (shl7 X bs[at0 + k].toNat k (by omega) (by omega))
        have hrb : w.heap.size ≠ pk := by omega
        clear hinv
        generalize bs[at0 + k].toNat = d at *
        generalize d % 128 * 128 ^ k = M at *
        go_wp2_with fail
        refine (dUnhide C).mono ?_
        rintro e w1 ⟨rfl, hp1, hd1⟩
        have c01 := hd1.cell c0 hrb
        have c11 := hd1.cell c1 hrb
        have hv1 : Hid (Bs w1 v bs) := (dUnhide hv).drawn hd1 (.inr hne')
        have hp1' := dHide hp1
        have hdd : Hid (Drawn pk w w1) := (dUnhide hd).trans hd1
        clear c0 c1 hv hp hd C hp1 hd1
        by_cases hz : ((d : Int) == 0) = true
        · by_cases hk0 : (0 : Int) < (k : Int)
          · have hs := dUnhide hstop (by simp at hz; omega)
            rw [if_pos ⟨by simpa using hz, by omega⟩] at hs
            have HS := dHide hs
            clear hs hstop hmore
            go_wp2
            go_ret2
            exact ⟨by rw [dUnhide HS]; rfl, (fun x k h => by rw [dUnhide HS] at h; cases h), hdd, _, dUnhide hp1'⟩
          · have hs := dUnhide hstop (by simp at hz; omega)
            rw [if_neg (by omega)] at hs
            have HS := dHide hs
            have hdlt : (d : Int) < 128 := by simp at hz; omega
            clear hs hstop hmore
            go_wp2
            go_ret2
            exact ⟨by rw [dUnhide HS]; simp only [numT]; rw [dUnhide hs7]; rfl, (fun x k' h => by rw [dUnhide HS] at h; cases h; exact dUnhide hp1'), hdd, _, dUnhide hp1'⟩
        · have hz' : ((d : Int) == 0) = false := by simpa using hz
          by_cases hdl : (d : Int) < 128
          · have hs := dUnhide hstop (by omega)
            rw [if_neg (by intro h; apply hz; rw [beq_iff_eq]; omega)] at hs
            have HS := dHide hs
            clear hs hstop hmore hz
            go_wp2
            go_ret2
            exact ⟨by rw [dUnhide HS]; simp only [numT]; rw [dUnhide hs7]; rfl, (fun x k' h => by rw [dUnhide HS] at h; cases h; exact dUnhide hp1'), hdd, _, dUnhide hp1'⟩
          · have hm := dHide (dUnhide hmore (by omega))
            clear hstop hmore hz
            go_wp2
            go_roundw
            case rel => exact ⟨k + 1, X + M, by rw [dUnhide hs7], by go_num, by omega, hm, hv1, hp1', c01, c11, hdd⟩
            case measure => simp [intOf]; omega
      · have C := dHide (next_no v bs pk ((at0 + k : Nat) : Int) wr (dUnhide hv) (dUnhide hp) (.inr (by omega)))
        have HS := dHide (GetInv.none hinv (.inr (by omega)))
        go_wp2_with fail
        refine (dUnhide C).mono ?_
        rintro e w1 ⟨rfl, hb1⟩
        have hdd : Hid (Moved pk w w1) := ⟨(dUnhide hd).trans (Drawn.of_below hb1), _, (dUnhide hp).below hb1⟩
        clear hd hv hp c0 c1 hinv C
        go_wp2
        go_ret2
        exact ⟨by rw [dUnhide HS]; rfl, (fun x k h => by rw [dUnhide HS] at h; cases h), hdd⟩
    · have HS := dHide (GetInv.none hinv (.inl (by omega)))
      go_wp2
      go_ret2
      exact ⟨by rw [dUnhide HS]; rfl, (fun x k h => by rw [dUnhide HS] at h; cases h), dUnhide hd, _, dUnhide hp⟩
end Go.Proofs.YthndkkjgjhgdnaaGreatDoor
namespace Go.Proofs.YthndkkjgjhgdnaaGreatDoor
open Go.ChangeShapes Go.WideShapes Go.ChangeAt Go.RowKit
set_option linter.unusedVariables false

theorem Moved.drewN {pk : Nat} {w w' : World} (h : Moved pk w w') (n : Nat) : Moved pk w (w'.drewN n) := ⟨h.1.drewN n, by obtain ⟨y, hy⟩ := h.2; exact ⟨y, hy.below (below_drewN (Below.refl _ _) _)⟩⟩
/-- text's answer, as a value. -/
def rtextT (o : Option (List UInt8 × Nat)) : Value := match o with
  | none => .tuple #[.string ⟨#[]⟩, .bool false]
  | some (t, _) => .tuple #[.string ⟨t.toArray⟩, .bool true]
set_option maxHeartbeats 1000000 in
set_option maxRecDepth 100000 in
theorem text_neg (v : Value) (bs : List UInt8) (pk : Nat) (x : Int) (w : World) (hv : Bs w v bs) (hp : Plc w pk x) (hx : x < 0) :
    Calls Tryz.prog 142 #[rdr v pk] w fun e w' => e = .returned (rtextT none) ∧ Moved pk w w' := by
  have plt := dCell_lt hp.1
  have hb : ∀ o, Below w.heap.size w (w.alloc o) := fun o => (Below.refl _ _).alloc (Nat.le_refl _) o
  have C := dHide fun o => num_neg v bs pk x (w.alloc o) (hv.below (hb o)) (hp.below (hb o)) hx
  have D0 := fun o => Drawn.of_below (bk := pk) (hb o)
  clear hv hp hb
  unfold rdr at *
  go_enter Tryz.func142, Tryz.ntmps142
  go_wp2_with fail
  refine (dUnhide C _).mono ?_
  rintro e w1 ⟨rfl, hd1⟩
  have hdd' : Hid (Moved pk w w1) := ⟨(D0 _).trans hd1.1, hd1.2⟩
  clear C D0 hd1
  simp only [numT]
  go_wp2
  go_quiet (fail)
  go_wp2
  go_ret2
  exact ⟨rfl, (dUnhide hdd').drewN _⟩
set_option maxHeartbeats 1000000 in
set_option maxRecDepth 100000 in
theorem text_nat (v : Value) (bs : List UInt8) (pk : Nat) (at0 : Nat) (w : World) (hv : Bs w v bs) (hl : bs.length ≤ 1099511627776) (hp : Plc w pk (at0 : Int)) (hne : bs = [] ∨ blockOf v ≠ pk) :
    Calls Tryz.prog 142 #[rdr v pk] w fun e w' => e = .returned (rtextT (gtextB bs at0)) ∧ (∀ t k, gtextB bs at0 = some (t, k) → Plc w' pk (k : Int)) ∧ Moved pk w w' := by
  have plt := dCell_lt hp.1
  have hb : ∀ o, Below w.heap.size w (w.alloc o) := fun o => (Below.refl _ _).alloc (Nat.le_refl _) o
  have HV := fun o => hv.below (hb o)
  have HP := fun o => hp.below (hb o)
  have C := dHide fun o => num_nat v bs pk at0 (w.alloc o) (HV o) (HP o) hne
  have D0 := fun o => Drawn.of_below (bk := pk) (hb o)
  have hrb : w.heap.size ≠ pk := by omega
  have hcb : ∀ o, (w.alloc (.cells #[v, .pointer (some ⟨pk, 0, none⟩)] o)).cell? ⟨w.heap.size, 0, none⟩ = some v := fun o => by simp
  have hcc : ∀ o, (w.alloc (.cells #[v, .pointer (some ⟨pk, 0, none⟩)] o)).cell? ⟨w.heap.size, 1, none⟩ = some (.pointer (some ⟨pk, 0, none⟩)) := fun o => by simp
  clear hv hp hb HP
  unfold rdr at *
  cases hg : getB (bs.drop at0) with
  | none =>
    have hfin : gtextB bs at0 = none := by simp only [gtextB, hg]
    have HF := dHide hfin
    rw [hg] at C
    clear hfin hg
    go_enter Tryz.func142, Tryz.ntmps142
    go_wp2_with fail
    refine (dUnhide C _).mono ?_
    rintro e w1 ⟨rfl, -, hd1⟩
    have hdd' : Hid (Moved pk w w1) := ⟨(D0 _).trans hd1.1, hd1.2⟩
    clear C D0 hd1 HV hcb hcc
    simp only [numT]
    go_wp2
    go_quiet (fail)
    go_wp2
    go_ret2
    exact ⟨by rw [dUnhide HF]; rfl, (fun t k h => by rw [dUnhide HF] at h; cases h), (dUnhide hdd').drewN _⟩
  | some r =>
    obtain ⟨n, k⟩ := r
    obtain ⟨b1, b2, b3⟩ := getB_bd hg
    rw [List.length_drop] at b2
    rw [hg] at C
    have hple : at0 ≤ bs.length := by
      rcases Nat.lt_or_ge bs.length at0 with h | h
      · rw [getB_nil bs at0 (by omega)] at hg; cases hg
      · exact h
    have hplt : at0 < bs.length := by
      rcases Nat.lt_or_ge at0 bs.length with h | h
      · exact h
      · rw [getB_nil bs at0 h] at hg; cases hg
    have hple : at0 + k ≤ bs.length := by omega
    by_cases hn : n + (at0 + k) ≤ bs.length
    · have hfin : gtextB bs at0 = some ((bs.drop (at0 + k)).take n, at0 + k + n) := by simp only [gtextB, hg]; rw [if_pos hn]
      have HF := dHide hfin
      generalize hpp : at0 + k = p at *
      have HPP := dHide hpp
      clear hfin hg hpp
      have t1 : ¬ ((bs.length : Int) - (p : Int) < (n : Int)) := by omega
      go_enter Tryz.func142, Tryz.ntmps142
      go_wp2_with fail
      refine (dUnhide C _).mono ?_
      rintro e w1 ⟨rfl, hp1, hd1⟩
      have hne' : blockOf v ≠ pk := hne.resolve_left (by rintro rfl; simp at hplt)
      have hd1 := hd1.1
      have hdd' : Hid (Drawn pk w w1) := (D0 _).trans hd1
      have hp1' := hp1 _ _ rfl
      rw [dUnhide HPP] at hp1'
      have HP1 := dHide hp1'
      obtain ⟨q1, q2⟩ := hp1'
      have c0 := hd1.cell (hcb _) hrb
      have c1 := hd1.cell (hcc _) hrb
      obtain ⟨h0, a, cap, rfl, hcap, hv1⟩ := (HV _).drawn hd1 hne
      obtain ⟨b, off, rfl, hc⟩ := or_of_lt hv1 hplt
      have hbk : b ≠ pk := by simpa [blockOf] using hne'
      clear C D0 hd1 HV hcb hcc hp1 hv1
      simp only [numT]
      go_wp2
      go_quiet (fail)
      go_wp2
      have hdW : Hid (Drawn pk w ((w1.drewN nq).setCell ⟨pk, 0, none⟩ (.int .i64 ((p : Int) + (n : Int))))) := ((dUnhide hdd').drewN _).setCell 0 _
      have k0 : ((w1.drewN nq).setCell ⟨pk, 0, none⟩ (.int .i64 ((p : Int) + (n : Int)))).cell? ⟨w.heap.size, 0, none⟩ = _ := set_other (by simpa using c0) (.inl hrb)
      have k1 : ((w1.drewN nq).setCell ⟨pk, 0, none⟩ (.int .i64 ((p : Int) + (n : Int)))).cell? ⟨w.heap.size, 1, none⟩ = _ := set_other (by simpa using c1) (.inl hrb)
      have k2 : ((w1.drewN nq).setCell ⟨pk, 0, none⟩ (.int .i64 ((p : Int) + (n : Int)))).cell? ⟨pk, 0, none⟩ = _ := World.cell?_setCell_same _ _ _ (by simpa using q1)
      have k3 : ((w1.drewN nq).setCell ⟨pk, 0, none⟩ (.int .i64 ((p : Int) + (n : Int)))).frozen? ⟨pk, 0, none⟩ = false := (World.frozen?_setCell _ _ _ _).trans (by simpa using q2)
      have kc : ∀ i (h : i < bs.length), ((w1.drewN nq).setCell ⟨pk, 0, none⟩ (.int .i64 ((p : Int) + (n : Int)))).cell? ⟨b, off + i, none⟩ = some (.int .u8 (bs[i].toNat : Int)) := fun i h => set_other (by simpa using hc i h) (.inl hbk)
      clear c0 c1 q1 q2 hc hdd' HP1
      generalize (w1.drewN nq).setCell ⟨pk, 0, none⟩ (.int .i64 ((p : Int) + (n : Int))) = W at *
      have hPW : Hid (Plc W pk ((p : Int) + (n : Int))) := ⟨k2, k3⟩
      have hcv := fun m cap' => conv_cut (w := W.drewN m) (cap := cap') (fun i h => (by simpa using kc i h)) (show p + n ≤ bs.length by omega)
      have hcv1 := fun cap' => conv_cut (w := W) (cap := cap') kc (show p + n ≤ bs.length by omega)
      have hcv0 := fun m => conv_none (w := W.drewN m) b off
      have hcv2 := conv_none (w := W) b off
      clear kc
      by_cases hcp : cap = p
      · obtain rfl : n = 0 := by omega
        go_quiet (fail)
        go_wp2
        go_ret2
        exact ⟨by rw [dUnhide HF]; simp only [rtextT, List.take_zero]; rfl, (fun t k h => by rw [dUnhide HF] at h; cases h; exact (dUnhide hPW).below (below_drewN (Below.refl _ _) _)), (dUnhide hdW).drewN _, _, (dUnhide hPW).below (below_drewN (Below.refl _ _) _)⟩
      · go_quiet (fail)
        go_wp2
        go_ret2
        exact ⟨by rw [dUnhide HF]; simp only [rtextT]; rfl, (fun t k h => by rw [dUnhide HF] at h; cases h; exact (dUnhide hPW).below (below_drewN (Below.refl _ _) _)), (dUnhide hdW).drewN _, _, (dUnhide hPW).below (below_drewN (Below.refl _ _) _)⟩
    · have hfin : gtextB bs at0 = none := by simp only [gtextB, hg]; rw [if_neg hn]
      have HF := dHide hfin
      generalize hpp : at0 + k = p at *
      have HPP := dHide hpp
      clear hfin hg hpp
      have t1 : ((bs.length : Int) - (p : Int) < (n : Int)) := by omega
      go_enter Tryz.func142, Tryz.ntmps142
      go_wp2_with fail
      refine (dUnhide C _).mono ?_
      rintro e w1 ⟨rfl, hp1, hd1⟩
      have hdd' : Hid (Moved pk w w1) := ⟨(D0 _).trans hd1.1, hd1.2⟩
      have hd1 := hd1.1
      have hp1' := hp1 _ _ rfl
      rw [dUnhide HPP] at hp1'
      obtain ⟨q1, q2⟩ := hp1'
      have c0 := hd1.cell (hcb _) hrb
      have c1 := hd1.cell (hcc _) hrb
      obtain ⟨h0, a, cap, rfl, -, -⟩ := HV (.cells #[] 0)
      clear C D0 hd1 HV hcb hcc hp1
      simp only [numT]
      go_wp2
      go_quiet (fail)
      go_wp2
      go_ret2
      exact ⟨by rw [dUnhide HF]; rfl, (fun t k h => by rw [dUnhide HF] at h; cases h), (dUnhide hdd').drewN _⟩
end Go.Proofs.YthndkkjgjhgdnaaGreatDoor
namespace Go.Proofs.YthndkkjgjhgdnaaGreatDoor
open Go.ChangeShapes Go.WideShapes Go.ChangeAt Go.RowKit Go.Stop
set_option linter.unusedVariables false
set_option maxRecDepth 100000

/-- A type's handle, as the library tells it. -/
def hdl (t : TypeId) : Value := .pointer (some ⟨1, t, none⟩)
def rty (t : TypeId) : Value := .iface 183 (.agg #[hdl t])
theorem asValueT (tb : Nat) (w : World) : (callFunc 97 #[.iface 107 (.pointer (some ⟨tb, 0, none⟩))]).run Tryz.prog w = .ok (.value (.agg #[hdl 107, .pointer (some ⟨w.heap.size, 0, none⟩), .int .u64 150])) (w.alloc (.cells #[.pointer (some ⟨tb, 0, none⟩)] 107)) := by kernel_rfl
theorem asValueE (p : Int) (w : World) : (callFunc 97 #[.iface 105 (.agg #[.int .i64 p])]).run Tryz.prog w = .ok (.value (.agg #[hdl 105, .pointer (some ⟨w.heap.size, 0, none⟩), .int .u64 153])) (w.alloc (.cells #[.int .i64 p] 105)) := by kernel_rfl
theorem asType (x : Addr) (w : World) : (callFunc 98 #[.agg #[hdl 107, .pointer (some x), .int .u64 150]]).run Tryz.prog w = .ok (.value (rty 107)) w := by kernel_rfl
theorem asKindP (w : World) : (callFunc 162 #[hdl 107]).run Tryz.prog w = .ok (.value (.int .u8 22)) w := by kernel_rfl
theorem asKindS (w : World) : (callFunc 162 #[hdl 105]).run Tryz.prog w = .ok (.value (.int .u8 25)) w := by kernel_rfl
theorem asElem (w : World) : (callFunc 174 #[.agg #[hdl 107]]).run Tryz.prog w = .ok (.value (rty 105)) w := by kernel_rfl
theorem asImpl (w : World) : (callFunc 175 #[.agg #[hdl 105], rty 101]).run Tryz.prog w = .ok (.value (.bool true)) w := by kernel_rfl
theorem asAsg (w : World) : (callFunc 172 #[.agg #[hdl 105], rty 105]).run Tryz.prog w = .ok (.value (.bool true)) w := by kernel_rfl
theorem asTypeOf (p : Int) (w : World) : (callFunc 126 #[.iface 105 (.agg #[.int .i64 p])]).run Tryz.prog w = .ok (.value (rty 105)) w := by kernel_rfl
theorem mtKind (v : Value) (w : World) : (Go.method 347 183 (.agg #[v]) "Kind").run Tryz.prog w = .ok (162, v) w := by kernel_rfl
theorem mtElem (v : Value) (w : World) : (Go.method 347 183 v "Elem").run Tryz.prog w = .ok (174, v) w := by kernel_rfl
theorem mtImpl (v : Value) (w : World) : (Go.method 347 183 v "Implements").run Tryz.prog w = .ok (175, v) w := by kernel_rfl
theorem mtAsg (v : Value) (w : World) : (Go.method 347 183 v "AssignableTo").run Tryz.prog w = .ok (172, v) w := by kernel_rfl
open Go.Extern Go.Extern.Rtype in
theorem asIsNil (x : Nat) (tb : Addr) (w : World) (h : w.cell? ⟨x, 0, none⟩ = some (.pointer (some tb))) : (callFunc 99 #[.agg #[hdl 107, .pointer (some ⟨x, 0, none⟩), .int .u64 150]]).run Tryz.prog w = .ok (.value (.bool false)) w := by
  have e : ∀ w : World, (callFunc 99 #[.agg #[hdl 107, .pointer (some ⟨x, 0, none⟩), .int .u64 150]]).run Tryz.prog w = (ReflectliteValue.isNil 107 ⟨x, 0, none⟩ 0 22 >>= fun u => pure (Next.value u)).run Tryz.prog w := fun w => by kernel_rfl
  have ha : ∀ w : World, (isAgg 107).run Tryz.prog w = .ok false w := fun w => by kernel_rfl
  rw [e]
  simp [ReflectliteValue.isNil, loadVar, ha, h, Result.andThen]
open Go.Extern Go.Extern.Rtype in
theorem asElemV (x tb : Nat) (w : World) (h : w.cell? ⟨x, 0, none⟩ = some (.pointer (some ⟨tb, 0, none⟩))) : (callFunc 127 #[.agg #[hdl 107, .pointer (some ⟨x, 0, none⟩), .int .u64 150]]).run Tryz.prog w = .ok (.value (.agg #[hdl 105, .pointer (some ⟨tb, 0, none⟩), .int .u64 409])) w := by
  have e : ∀ w : World, (callFunc 127 #[.agg #[hdl 107, .pointer (some ⟨x, 0, none⟩), .int .u64 150]]).run Tryz.prog w = (ReflectliteValue.elem 107 ⟨x, 0, none⟩ 0 22 >>= fun u => pure (Next.value u)).run Tryz.prog w := fun w => by kernel_rfl
  have ha : ∀ w : World, (isAgg 107).run Tryz.prog w = .ok false w := fun w => by kernel_rfl
  have he : ∀ w : World, (elem? 107).run Tryz.prog w = .ok (some 105) w := fun w => by kernel_rfl
  have hm : ∀ (a : Addr) (w : World), (ReflectliteValue.mk 105 a ReflectliteValue.flagAddr).run Tryz.prog w = .ok (.agg #[hdl 105, .pointer (some a), .int .u64 409]) w := fun a w => by kernel_rfl
  rw [e]
  simp [ReflectliteValue.elem, loadVar, ha, he, h, hm, Result.andThen]
open Go.Extern Go.Extern.Rtype in
theorem asSet (tb y : Nat) (p q : Int) (w : World) (h : w.cell? ⟨y, 0, none⟩ = some (.int .i64 p)) (ht : w.cell? ⟨tb, 0, none⟩ = some (.int .i64 q)) (hf : w.frozen? ⟨tb, 0, none⟩ = false) : (callFunc 128 #[.agg #[hdl 105, .pointer (some ⟨tb, 0, none⟩), .int .u64 409], .agg #[hdl 105, .pointer (some ⟨y, 0, none⟩), .int .u64 153]]).run Tryz.prog w = .ok (.value (.tuple #[])) (w.setCell ⟨tb, 0, none⟩ (.int .i64 p)) := by
  have e : ∀ w : World, (callFunc 128 #[.agg #[hdl 105, .pointer (some ⟨tb, 0, none⟩), .int .u64 409], .agg #[hdl 105, .pointer (some ⟨y, 0, none⟩), .int .u64 153]]).run Tryz.prog w = (loadVar 105 ⟨y, 0, none⟩ >>= fun v => storeVar 105 ⟨tb, 0, none⟩ v >>= fun _ => pure (Next.value (.tuple #[]))).run Tryz.prog w := fun w => by kernel_rfl
  have hl : (loadVar 105 ⟨y, 0, none⟩).run Tryz.prog w = .ok (.agg [.int .i64 p].toArray) w := run_loadVar_mid (P := Tryz.prog) w y 0 105 [.int .i64 p] _ (fun j v hv => by
    cases j with
    | zero => simp at hv; subst hv; simpa using h
    | succ j => simp at hv) Tryz.underlying105 rfl (by kernel_rfl)
  have hs : (storeVar 105 ⟨tb, 0, none⟩ (.agg #[.int .i64 p])).run Tryz.prog w = .ok () (w.setCell ⟨tb, 0, none⟩ (.int .i64 p)) := run_storeVar_mid (P := Tryz.prog) w tb 0 105 #[.int .i64 p] (fun j hj => by
    have : j = 0 := by simpa using hj
    subst this
    exact ⟨by rw [ht]; rfl, hf⟩) (by kernel_rfl) (by kernel_rfl)
  rw [e]
  simp [hl, hs, Result.andThen]
end Go.Proofs.YthndkkjgjhgdnaaGreatDoor
namespace Go.Proofs.YthndkkjgjhgdnaaGreatDoor
open Go.ChangeShapes Go.WideShapes Go.ChangeAt Go.RowKit Go.Stop
set_option linter.unusedVariables false
set_option maxRecDepth 100000

set_option maxHeartbeats 4000000 in
theorem as_at (tb x : Nat) (p q : Int) (w : World) (hx : w.cell? ⟨x, 0, none⟩ = some (.pointer (some ⟨tb, 0, none⟩))) (ht : w.cell? ⟨tb, 0, none⟩ = some (.int .i64 q)) (hf : w.frozen? ⟨tb, 0, none⟩ = false) :
    Calls Tryz.prog 100 #[.iface 105 (.agg #[.int .i64 p]), .iface 107 (.pointer (some ⟨tb, 0, none⟩)), .agg #[hdl 107, .pointer (some ⟨x, 0, none⟩), .int .u64 150], rty 105] w fun e w' => e = .returned (.bool true) ∧ Drawn tb w w' := by
  have tT := asTypeOf
  have mA := mtAsg
  have aA := asAsg
  have vE := asValueE
  have b1 : ∀ o, Below w.heap.size w (w.alloc o) := fun o => (Below.refl _ _).alloc (Nat.le_refl _) o
  have b2 : ∀ o o', Below w.heap.size w ((w.alloc o).alloc o') := fun o o' => belowThen (b1 o) ((Below.refl _ _).alloc (Nat.le_refl _) o')
  have e1 := fun o => asElemV x tb (w.alloc o) (((b1 o).cell (p := ⟨x, 0, none⟩) (dCell_lt hx)).trans hx)
  have s1 := fun o => asSet tb (w.alloc o).heap.size p q ((w.alloc o).alloc (.cells #[.int .i64 p] 105)) (by simp) (((b2 o _).cell (p := ⟨tb, 0, none⟩) (dCell_lt ht)).trans ht) (((b2 o _).frozen (p := ⟨tb, 0, none⟩) (dCell_lt ht)).trans hf)
  have F := dHide fun o => (Drawn.of_below (bk := tb) (b2 o (.cells #[.int .i64 p] 105))).setCell 0 (.int .i64 p)
  simp only [World.size_alloc] at s1
  unfold rty hdl at *
  clear b1 b2 hx ht hf
  go_enter Tryz.func100, Tryz.ntmps100
  go_wp2
  refine wp_loop_rounds 1 ?_
  rw [rounds_succ]
  go_wp2
  go_ret
  exact ⟨rfl, dUnhide F _⟩
/-- The variable that the library's errors holds: the handle of error. -/
def Hnd (w : World) : Prop := w.cell? ⟨0, 0, none⟩ = some (rty 101)
theorem Hnd.below {w w' : World} {B : Nat} (h : Hnd w) (hb : Below B w w') (hB : w.heap.size ≤ B) : Hnd w' := by
  have hl := dCell_lt h
  exact (hb.cell (p := ⟨0, 0, none⟩) (by simp only at hl ⊢; omega)).trans h
set_option maxHeartbeats 4000000 in
theorem as_bad (tb : Nat) (p q : Int) (w : World) (hH : Hnd w) (ht : w.cell? ⟨tb, 0, none⟩ = some (.int .i64 q)) (hf : w.frozen? ⟨tb, 0, none⟩ = false) :
    Calls Tryz.prog 56 #[.iface 105 (.agg #[.int .i64 p]), .iface 107 (.pointer (some ⟨tb, 0, none⟩))] w fun e w' => e = .returned (.bool true) ∧ Drawn tb w w' := by
  have vT := fun w => asValueT tb w
  have tV := asType
  have mK := mtKind
  have kP := asKindP
  have kS := asKindS
  have mE := mtElem
  have eP := asElem
  have mI := mtImpl
  have iE := asImpl
  have b0 : ∀ o, Below w.heap.size w (w.alloc o) := fun o => (Below.refl _ _).alloc (Nat.le_refl _) o
  have b2 : ∀ o o', Below w.heap.size w ((w.alloc o).alloc o') := fun o o' => belowThen (b0 o) ((Below.refl _ _).alloc (Nat.le_refl _) o')
  have hx : ∀ o', ((w.alloc (.cells #[.pointer (some ⟨tb, 0, none⟩)] 107)).alloc o').cell? ⟨w.heap.size, 0, none⟩ = some (.pointer (some ⟨tb, 0, none⟩)) := fun o' => ((Bx.new w [.pointer (some ⟨tb, 0, none⟩)] 107).below ((Below.refl _ _).alloc (Nat.le_refl _) o')) 0 _ rfl
  have iN := fun o' => asIsNil w.heap.size ⟨tb, 0, none⟩ _ (hx o')
  have hg : ∀ o o', ((w.alloc o).alloc o').cell? ⟨0, 0, none⟩ = some (rty 101) := fun o o' => hH.below (b2 o o') (Nat.le_refl _)
  have C := dHide fun o' => as_at tb w.heap.size p q _ (hx o') (((b2 _ o').cell (p := ⟨tb, 0, none⟩) (dCell_lt ht)).trans ht) (((b2 _ o').frozen (p := ⟨tb, 0, none⟩) (dCell_lt ht)).trans hf)
  have F := dHide fun o' => Drawn.of_below (bk := tb) (b2 (.cells #[.pointer (some ⟨tb, 0, none⟩)] 107) o')
  clear hH hx b0 b2 ht hf
  unfold rty hdl at *
  go_enter Tryz.func56, Tryz.ntmps56
  go_wp2_with fail
  refine (dUnhide C _).mono ?_
  rintro e w1 ⟨rfl, d1⟩
  have D := dHide ((dUnhide F _).trans d1)
  clear C F d1
  go_wp2
  go_ret
  exact ⟨rfl, dUnhide D⟩
set_option maxHeartbeats 1000000 in
theorem as_nil (v : Value) (w : World) :
    Calls Tryz.prog 56 #[.nilIface, v] w fun e w' => e = .returned (.bool false) ∧ w' = w := by
  go_enter Tryz.func56, Tryz.ntmps56
  go_wp2
  go_ret
  exact ⟨rfl, rfl⟩
end Go.Proofs.YthndkkjgjhgdnaaGreatDoor
namespace Go.Proofs.YthndkkjgjhgdnaaGreatDoor
open Go.ChangeShapes Go.WideShapes Go.ChangeAt Go.RowKit

section
variable {H : Type} {enc : TypeId × Value → H}
/-- The kit's two wraps in one: a condition on the first world that its heap alone decides, and the world's shape. -/
theorem andShaped {a : Assume} {C : Checked} {os : Os} {f : FuncId} {fn : Func} {s : ChangeSpec} {conds : List PathCond} {apart fresh handsOn again : Bool} {X : World → Array Value → Prop}
    (hX : ∀ (w w' : World) (args : Array Value), w.heap = w'.heap → X w args → X w' args)
    (own : ownKnob C.prog.godebug = none) (started : os.Started) (noInit : C.prog.inits.idxOf? f = none) (hfn : C.prog.funcs[f]? = some fn)
    (witness : ∃ (w : World) (tape : Tape) (i : Input), w.os = os ∧ (w.forCall tape i).Shaped C.prog ∧ i.vars = [] ∧ Input.okWide C.prog (w.forCall tape i) .any w.heap.size f i ∧
      ((s.pre enc C.prog fn conds apart (w.forCall tape i).memory i.args ∧ X (w.forCall tape i).memory i.args) ∧ sizedMet enc C.prog fn (OpenSpec.ofChange s) apart (w.forCall tape i).memory i.args) ∧ a.holds C.prog (lone (Frame.enter C.prog f i.args .normal) [] (w.forCall tape i)))
    (contract : ∀ (W : World) (base : Nat) (args : Array Value) (ds gs : List (DataW H)) (before : List MemPlace),
      (∀ (j : Nat) t v, fn.params[j]? = some t → args[j]? = some v → Value.okWide C.prog W .any base t v) →
      DataW.Whole enc C.prog fn.params.toList s.vars apart W args.toList ds gs before →
      X W args → W.ShapedOpen C.prog →
      Calls C.prog f args W fun e W' => ∃ v, e = .returned v ∧ s.post enc C.prog fn apart fresh handsOn again W args v W') :
    ReturnsInHanded a C os f .any (fun w args => (s.pre enc C.prog fn conds apart w args ∧ X w args) ∧ sizedMet enc C.prog fn (OpenSpec.ofChange s) apart w args) (s.post enc C.prog fn apart fresh handsOn again) := by
  refine returnsInHanded_of_calls own started noInit witness ?_
  intro w tape i _ hsh _ hok hpre _
  obtain ⟨_, _, _, fn', hfn', _, _, _, _, hval⟩ := hok
  obtain rfl : fn' = fn := Option.some.inj (hfn'.symm.trans hfn)
  obtain ⟨⟨⟨ds, gs, before, hw, _⟩, hx⟩, _⟩ := hpre
  refine (contract (w.forCall tape i) w.heap.size i.args ds gs before hval (DataW.Whole.of_heap (w' := w.forCall tape i) (by rfl) hw) (hX _ _ _ (by rfl) hx) hsh).mono fun e W' ⟨v, he, hp⟩ => ?_
  subst he
  exact ChangeSpec.post_blind hp
end


theorem gET : Tryz.prog.globalNamed "errors.errorType" = some 0 := by kernel_rfl
theorem rtN : (Tryz.prog.cutTypes.find? (·.1 == "internal/reflectlite.rtype")).map (·.2) = some 183 := by kernel_rfl
theorem szT : Tryz.prog.types.size = 247 := by kernel_rfl
theorem onlyErr : ((List.range 247).all fun t => !Tryz.prog.rowNamed t [101, 114, 114, 111, 114] || t == 101) = true := by kernel_rfl
theorem szG : Tryz.prog.globals.size = 1 := by kernel_rfl
/-- The listed variable is the handle of error. -/
theorem hnd_of {w : World} (hL : laidMetH Tryz.prog [("errors.errorType", Rows.laid_errors_errorType)] w) : Hnd w := by
  have h0 : laidMet Tryz.prog [] w ∧ handlesMet Tryz.prog [("errors.errorType", Rows.laid_errors_errorType)] w := hL
  have h : ∃ name u ty, (Rows.laid_errors_errorType : DataW Unit).handleName? = some name ∧ (Tryz.prog.cutTypes.find? (·.1 == "internal/reflectlite.rtype")).map (·.2) = some u ∧ ty < Tryz.prog.types.size ∧ Tryz.prog.rowNamed ty name = true ∧ w.var? Tryz.prog "errors.errorType" = some #[.iface u (.agg #[typeHandle Tryz.prog ty])] := h0.2 _ (List.mem_singleton.2 rfl)
  obtain ⟨name, u, ty, h1, h2, h3, h4, h5⟩ := h
  have e1 : (Rows.laid_errors_errorType : DataW Unit).handleName? = some [101, 114, 114, 111, 114] := by kernel_rfl
  obtain rfl := Option.some.inj (e1.symm.trans h1)
  obtain rfl := Option.some.inj (rtN.symm.trans h2)
  rw [szT] at h3
  have h6 := List.all_eq_true.1 onlyErr ty (List.mem_range.2 h3)
  rw [h4] at h6
  obtain rfl : ty = 101 := by simpa using h6
  have x0 := World.var?_cell gET h5 0
  unfold Hnd rty hdl
  have e2 : typeHandle Tryz.prog 101 = .pointer (some ⟨1, 101, none⟩) := by unfold typeHandle; rw [szG]
  rw [e2] at x0
  simpa using x0
end Go.Proofs.YthndkkjgjhgdnaaGreatDoor
