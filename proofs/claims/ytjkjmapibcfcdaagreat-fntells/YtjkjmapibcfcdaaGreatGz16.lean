/- Several texts in one: SitT, RgB. -/
import Derived.Test.YtjkjmapibcfcdaaGreatGaD
import Derived.Test.YtjkjmapibcfcdaaGreatGw2
import Derived.Test.YtjkjmapibcfcdaaGreatGaC
namespace Go.Proofs.YtjkjmapibcfcdaaGreat
open Go.ChangeShapes Go.WideShapes Go.ChangeAt Go.RowKit
set_option linter.unusedSimpArgs false
set_option linter.unusedVariables false
set_option maxRecDepth 100000
def mkF (k0 : Nat) (rs : List (Nst Er)) (k : Nat) (i : Nat) : Nst Er :=
 if i < k then ⟨(rs.getD i zeroEr).a, (rs.getD i zeroEr).c, mkEr (k0 + cntEraS ((rs.map Nst.m).take i)) (rs.getD i zeroEr).m⟩ else rs.getD i zeroEr
theorem mkF_nodes (k0 : Nat) (rs : List (Nst Er)) (k i : Nat) : (mkF k0 rs k i).m.nodes.length = (rs.getD i zeroEr).m.nodes.length ∧ Sv Er.nodes (mkF k0 rs k i) = Sv Er.nodes (rs.getD i zeroEr) := by
 unfold mkF
 split
 ·have e : (mkEr (k0 + cntEraS ((rs.map Nst.m).take i)) (rs.getD i zeroEr).m).nodes.length = (rs.getD i zeroEr).m.nodes.length := marksN_len _ _
  refine ⟨e, ?_⟩
  unfold Sv
  simp only [e]
 ·exact ⟨rfl, rfl⟩
def MarkK (lo hi k0 : Nat) (w wr : World) (b off : Nat) (rs : List (Nst Er)) (k : Nat) : Prop :=
 RowG 3 erCl wr b off rs.length (mkF k0 rs k) ∧ (∀ i, i < rs.length → OwN lo hi (Sv Er.nodes (mkF k0 rs k i)) (mkF k0 rs k i).m.nodes wr) ∧ Wr lo hi w wr ∧ hi ≤ wr.heap.size
theorem MarkK.step {lo hi k0 : Nat} {w wr w2 : World} {b off k : Nat} {rs : List (Nst Er)} {v : Value} (h : MarkK lo hi k0 w wr b off rs k) (hk : k < rs.length) (hb1 : lo ≤ b) (hb2 : b < hi) (hA : Apart Er.nodes v rs) (hv : bO v = b)
  (hO : OwN lo hi (Sv Er.nodes rs[k]) (marksN (k0 + cntEraS ((rs.map Nst.m).take k)) rs[k].m.nodes.length) w2) (b1 b2 : Nat) (hW : Wr b1 b2 wr w2) (hd : (rs[k].m.nodes = [] ∧ b1 = 0 ∧ b2 = 0) ∨ (rs[k].m.nodes ≠ [] ∧ b1 = bO (Sv Er.nodes rs[k]) ∧ b2 = bO (Sv Er.nodes rs[k]) + 1)) (hW' : Wr lo hi wr w2) :
  RowG 3 erCl w2 b off rs.length (mkF k0 rs k) ∧ MarkK lo hi k0 w ((w2.setCell ⟨b, off + k * 3 + 1, none⟩ (.bool ((k0 + cntEraS ((rs.map Nst.m).take k) + rs[k].m.nodes.length) % 3 == 0))).setCell ⟨b, off + k * 3 + 2, none⟩ (.int .i64 ((k0 + cntEraS ((rs.map Nst.m).take k) + rs[k].m.nodes.length + 1 : Nat) : Int))) b off rs (k + 1) := by
 obtain ⟨h1, h2, h3, h4⟩ := h
 have ek : mkF k0 rs k k = rs[k] := by unfold mkF; rw [if_neg (by omega), getD_lt _ hk]
 have ek1 : mkF k0 rs (k + 1) k = ⟨rs[k].a, rs[k].c, mkEr (k0 + cntEraS ((rs.map Nst.m).take k)) rs[k].m⟩ := by unfold mkF; rw [if_pos (by omega), getD_lt _ hk]
 have ei : ∀ i, i ≠ k → mkF k0 rs (k + 1) i = mkF k0 rs k i := fun i hi => by
  unfold mkF
  by_cases e : i < k
  ·rw [if_pos (by omega), if_pos e]
  ·rw [if_neg (by omega), if_neg e]
 have hR : RowG 3 erCl w2 b off rs.length (mkF k0 rs k) := h1.wr hW (by
  rcases hd with ⟨-, rfl, rfl⟩ | ⟨hn, rfl, rfl⟩
  ·exact .inr (Nat.zero_le _)
  ·have := (hA.2 k hk).resolve_left hn
   omega)
 refine ⟨hR, ?_, fun i hil => ?_, ?_, ?_⟩
 ·have r1 := hR.put erCl_len hk 1 (by decide) (.bool ((k0 + cntEraS ((rs.map Nst.m).take k) + rs[k].m.nodes.length) % 3 == 0)) ⟨rs[k].a, rs[k].c, ⟨marksN (k0 + cntEraS ((rs.map Nst.m).take k)) rs[k].m.nodes.length, _, rs[k].m.last⟩⟩ (by rw [ek]; unfold erCl Sv; simp only [marksN_len]; rfl)
  have r2 := r1.put erCl_len hk 2 (by decide) (.int .i64 ((k0 + cntEraS ((rs.map Nst.m).take k) + rs[k].m.nodes.length + 1 : Nat) : Int)) ⟨rs[k].a, rs[k].c, mkEr (k0 + cntEraS ((rs.map Nst.m).take k)) rs[k].m⟩ (by rw [putG_same]; rfl)
  rw [putG_twice] at r2
  refine r2.congr fun i hi => ?_
  by_cases e : i = k
  ·subst e
   rw [putG_same, ek1]
  ·rw [putG_ne _ _ e, ei i e]
 ·have far : ∀ {v : Value} {xs : List Int} (u u' : Value), OwN lo hi v xs w2 → (xs = [] ∨ bO v ≠ b) → OwN lo hi v xs ((w2.setCell ⟨b, off + k * 3 + 1, none⟩ u).setCell ⟨b, off + k * 3 + 2, none⟩ u') := fun {v xs} u u' q hb => (q.putW hb _).putW hb _
  by_cases e : i = k
  ·subst e
   have eS := (mkF_nodes k0 rs (i + 1) i).2
   rw [getD_lt _ hk] at eS
   rw [eS, ek1]
   refine far _ _ hO ?_
   rcases hA.2 i hk with h | h
   ·left
    exact (nil_of_len (marksN_len _ _)).2 h
   ·right
    rw [← hv]; exact h
  ·rw [ei i e]
   obtain ⟨eN, eS⟩ := mkF_nodes k0 rs k i
   rw [getD_lt _ hil] at eN eS
   have q := h2 i hil
   have q1 : OwN lo hi (Sv Er.nodes (mkF k0 rs k i)) (mkF k0 rs k i).m.nodes w2 := q.wr hW (by
    rcases hd with ⟨-, rfl, rfl⟩ | ⟨hn, rfl, rfl⟩
    ·exact .inr (.inr (Nat.zero_le _))
    ·rcases hA.1 i k hil hk e with h | h | h
     ·exact .inl ((nil_of_len eN).2 h)
     ·exact absurd h hn
     ·rw [eS]
      exact .inr (by omega))
   refine far _ _ q1 ?_
   rcases hA.2 i hil with h | h
   ·exact .inl ((nil_of_len eN).2 h)
   ·right
    rw [eS, ← hv]; exact h
 ·exact ((h3.trans hW').setW hb1 hb2 _).setW hb1 hb2 _
 ·have := hW'.size
  simp
  omega
def firstO : List Er → Nat
 | [] => 0
 | e :: l => if e.closed then (if firstO l = 0 then 0 else firstO l + 1) else 1
theorem firstO_le : ∀ ms : List Er, firstO ms ≤ ms.length
 | [] => Nat.le_refl _
 | e :: l => by
  have := firstO_le l
  unfold firstO
  split
  ·split <;> simp <;> omega
  ·simp
theorem firstO_none : ∀ ms : List Er, (∀ i (h : i < ms.length), ms[i].closed = true) → firstO ms = 0
 | [], _ => rfl
 | e :: l, h => by
  have h0 : e.closed = true := h 0 (by simp)
  have h1 := firstO_none l fun i hi => h (i + 1) (by simpa using hi)
  unfold firstO
  rw [if_pos h0, if_pos h1]
theorem firstO_at : ∀ (ms : List Er) (k : Nat) (hk : k < ms.length), (∀ i (h : i < ms.length), i < k → ms[i].closed = true) → ms[k].closed = false → firstO ms = k + 1
 | [], k, hk, _, _ => by simp at hk
 | e :: l, 0, hk, _, ho => by
  have h0 : e.closed = false := ho
  unfold firstO
  rw [h0]
  rfl
 | e :: l, k + 1, hk, h, ho => by
  have h0 : e.closed = true := h 0 (by simp) (by omega)
  have h1 := firstO_at l k (by simpa using hk) (fun i hi hik => h (i + 1) (by simpa using hi) (by omega)) (by simpa using ho)
  unfold firstO
  rw [if_pos h0, if_neg (by omega), h1]
theorem firstO_pos {ms : List Er} (h : firstO ms ≠ 0) : ∃ k, ∃ hk : k < ms.length, firstO ms = k + 1 ∧ ms[k].closed = false ∧ ∀ i (hi : i < ms.length), i < k → ms[i].closed = true := by
 induction ms with
 | nil => exact absurd rfl h
 | cons e l ih =>
  cases hc : e.closed with
  | false => exact ⟨0, by simp, by unfold firstO; rw [hc]; rfl, hc, fun i hi h' => by omega⟩
  | true =>
   have e1 : firstO (e :: l) = if firstO l = 0 then 0 else firstO l + 1 := by conv => lhs; unfold firstO; rw [if_pos hc]
   by_cases h0 : firstO l = 0
   ·rw [e1, if_pos h0] at h; exact absurd rfl h
   ·obtain ⟨k, hk, q1, q2, q3⟩ := ih h0
    refine ⟨k + 1, by simpa using hk, by rw [e1, if_neg h0, q1], by simpa using q2, fun i hi hik => ?_⟩
    cases i with
    | zero => exact hc
    | succ i => simpa using q3 i (by simpa using hi) (by omega)
theorem firstO_zero {ms : List Er} (h : firstO ms = 0) : ∀ i (hi : i < ms.length), ms[i].closed = true := by
 induction ms with
 | nil => intro i hi; simp at hi
 | cons e l ih =>
  cases hc : e.closed with
  | false =>
   have e1 : firstO (e :: l) = 1 := by unfold firstO; rw [hc]; rfl
   omega
  | true =>
   have e1 : firstO (e :: l) = if firstO l = 0 then 0 else firstO l + 1 := by conv => lhs; unfold firstO; rw [if_pos hc]
   by_cases h0 : firstO l = 0
   ·intro i hi
    cases i with
    | zero => exact hc
    | succ i => simpa using ih h0 i (by simpa using hi)
   ·rw [e1, if_neg h0] at h; omega
set_option maxHeartbeats 2000000 in
theorem specFirst_any (v : Value) (m : Rg) (w : World) (hv : RdRegister v m w) :
  Calls Tryz.prog 157 #[v] w fun e w' => e = .returned (.int .i64 (firstO m.eras : Int)) ∧ Below w.heap.size w w' := by
 obtain ⟨sv, rfl, hv⟩ := hv
 obtain ⟨tr, hr⟩ : ∃ tr, m.trim = tr := ⟨_, rfl⟩
 rw [hr]
 generalize hm : m.eras = ms at *
 clear hm hr
 obtain ⟨rs, rfl, hr, -⟩ := hv
 have hl0 := hr.1
 have HV := dH fun W (hb : Below w.heap.size w W) => hr.below hb
 obtain ⟨-, a, cap, rfl, -, -⟩ := hr
 have FN : Hid ((∀ i (h : i < rs.length), rs[i].m.closed = true) → firstO (rs.map Nst.m) = 0) := fun h => firstO_none _ fun i hi => by rw [List.getElem_map]; exact h i (by simpa using hi)
 have FA : Hid (∀ k (hk : k < rs.length), (∀ i (h : i < rs.length), i < k → rs[i].m.closed = true) → rs[k].m.closed = false → firstO (rs.map Nst.m) = k + 1) := fun k hk h1 h2 => firstO_at _ k (by simpa using hk) (fun i hi hik => by rw [List.getElem_map]; exact h1 i (by simpa using hi) hik) (by rw [List.getElem_map]; exact h2)
 generalize firstO (rs.map Nst.m) = F at *
 have ba : Below w.heap.size w (w.alloc (.cells #[.slice a rs.length cap, .int .i64 tr] 42)) := (Below.refl _ _).alloc (Nat.le_refl _) _
 have X0 := Bx.new w [.slice a rs.length cap, .int .i64 tr] 42
 go_enter Tryz.func157, Tryz.ntmps157
 go_wp2
 have k0 := X0 0 _ rfl
 have HR := dH (dU HV _ ba)
 generalize w.alloc (.cells #[.slice a rs.length cap, .int .i64 tr] 42) = w0 at *
 clear HV X0
 go_loopw [3] (fun x wr => ∃ k : Nat, x = .int .i64 (k : Int) ∧ k ≤ rs.length ∧ Hid (∀ i (h : i < rs.length), i < k → rs[i].m.closed = true) ∧ wr = w0) (fun x _ => rs.length - (intOf x).toNat)
 case atStart => exact ⟨0, rfl, Nat.zero_le _, fun i h h' => by omega, rfl⟩
 case round =>
  obtain ⟨k, rfl, hk, hc, rfl⟩ := hrel
  by_cases hlt : (k : Int) < (rs.length : Int)
  ·have hkl : k < rs.length := by omega
   obtain ⟨b, off, rfl, he⟩ := (dU HR).era hkl
   have c1 := (he k hkl).2.1
   cases hcl : rs[k].m.closed with
   | true =>
    rw [hcl] at c1
    have H2 : Hid (∀ i (h : i < rs.length), i < k + 1 → rs[i].m.closed = true) := fun i h hi => by
     by_cases e : i = k
     ·subst e; exact hcl
     ·exact dU hc i h (by omega)
    clear hc he
    go_wp2
    go_roundw
    case rel => exact ⟨k + 1, by go_num, by omega, H2, by trivial⟩
    case measure => simp [intOf]; omega
   | false =>
    rw [hcl] at c1
    have e1 := dU FA k hkl (dU hc) hcl
    have e2 : Hid ((F : Int) = (k : Int) + 1) := by rw [Hid, e1]; omega
    clear hc he FN FA e1
    go_wp2
    go_ret
    exact ⟨by rw [dU e2]; go_num, ba⟩
  ·have e1 := dU FN fun i h => dU hc i h (by omega)
   clear hc FN FA
   go_wp2
   go_ret
   exact ⟨by first | rfl | (rw [e1]; rfl), ba⟩
def eraN (m : Rg) (x : Int) : List Int := if 1 ≤ x ∧ x ≤ (m.eras.length : Int) then (m.eras.getD (x.toNat - 1) ⟨[], false, 0⟩).nodes else []
theorem eraN_at {m : Rg} {k : Nat} (hk : k < m.eras.length) : eraN m ((k : Int) + 1) = m.eras[k].nodes := by
 unfold eraN
 rw [if_pos (by omega), show ((k : Int) + 1).toNat - 1 = k by omega, getD_lt _ hk]
theorem eraN_no {m : Rg} {x : Int} (h : ¬ (1 ≤ x ∧ x ≤ (m.eras.length : Int))) : eraN m x = [] := if_neg h
end Go.Proofs.YtjkjmapibcfcdaaGreat
