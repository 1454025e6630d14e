/- Several texts in one: SitT, RgB, RgC, ImGa. -/
import Derived.Test.YtekgkjomdpjkbaaGreatSitS
import Derived.Test.YtekgkjomdpjkbaaGreatGk14
import Derived.Test.YtekgkjomdpjkbaaGreatGk16
import Derived.Test.YtekgkjomdpjkbaaGreatGaC
import Derived.Test.YtekgkjomdpjkbaaGreatGbP
import Derived.Test.YtekgkjomdpjkbaaGreatGaT
import Derived.Lib.SliceRun
namespace Go.Proofs.YtekgkjomdpjkbaaGreat
open Go.ChangeShapes Go.WideShapes Go.ChangeAt Go.RowKit
set_option linter.unusedSimpArgs false
set_option linter.unusedVariables false
set_option maxRecDepth 100000
def mkF (k0 : Nat) (rs : List (Nst Er)) (k : Nat) (i : Nat) : Nst Er :=
 if i < k then ⟨(rs.getD i zeroEr).a, (rs.getD i zeroEr).c, mkEr (k0 + cntEraS ((rs.map Nst.m).take i)) (rs.getD i zeroEr).m⟩ else rs.getD i zeroEr
theorem mkF_nodes (k0 : Nat) (rs : List (Nst Er)) (k i : Nat) : (mkF k0 rs k i).m.nodes.length = (rs.getD i zeroEr).m.nodes.length ∧ Sv Er.nodes (mkF k0 rs k i) = Sv Er.nodes (rs.getD i zeroEr) := by
 unfold mkF
 split
 ·have e : (mkEr (k0 + cntEraS ((rs.map Nst.m).take i)) (rs.getD i zeroEr).m).nodes.length = (rs.getD i zeroEr).m.nodes.length := marksN_len _ _
  refine ⟨e, ?_⟩
  unfold Sv
  simp only [e]
 ·exact ⟨rfl, rfl⟩
def MarkK (lo hi k0 : Nat) (w wr : World) (b off : Nat) (rs : List (Nst Er)) (k : Nat) : Prop :=
 RowG 3 erCl wr b off rs.length (mkF k0 rs k) ∧ (∀ i, i < rs.length → OwN lo hi (Sv Er.nodes (mkF k0 rs k i)) (mkF k0 rs k i).m.nodes wr) ∧ Wr lo hi w wr ∧ hi ≤ wr.heap.size
theorem MarkK.step {lo hi k0 : Nat} {w wr w2 : World} {b off k : Nat} {rs : List (Nst Er)} {v : Value} (h : MarkK lo hi k0 w wr b off rs k) (hk : k < rs.length) (hb1 : lo ≤ b) (hb2 : b < hi) (hA : Apart Er.nodes v rs) (hv : bO v = b)
  (hO : OwN lo hi (Sv Er.nodes rs[k]) (marksN (k0 + cntEraS ((rs.map Nst.m).take k)) rs[k].m.nodes.length) w2) (b1 b2 : Nat) (hW : Wr b1 b2 wr w2) (hd : (rs[k].m.nodes = [] ∧ b1 = 0 ∧ b2 = 0) ∨ (rs[k].m.nodes ≠ [] ∧ b1 = bO (Sv Er.nodes rs[k]) ∧ b2 = bO (Sv Er.nodes rs[k]) + 1)) (hW' : Wr lo hi wr w2) :
  RowG 3 erCl w2 b off rs.length (mkF k0 rs k) ∧ MarkK lo hi k0 w ((w2.setCell ⟨b, off + k * 3 + 1, none⟩ (.bool ((k0 + cntEraS ((rs.map Nst.m).take k) + rs[k].m.nodes.length) % 3 == 0))).setCell ⟨b, off + k * 3 + 2, none⟩ (.int .i64 ((k0 + cntEraS ((rs.map Nst.m).take k) + rs[k].m.nodes.length + 1 : Nat) : Int))) b off rs (k + 1) := by
 obtain ⟨h1, h2, h3, h4⟩ := h
 have ek : mkF k0 rs k k = rs[k] := by unfold mkF; rw [if_neg (by omega), getD_lt _ hk]
 have ek1 : mkF k0 rs (k + 1) k = ⟨rs[k].a, rs[k].c, mkEr (k0 + cntEraS ((rs.map Nst.m).take k)) rs[k].m⟩ := by unfold mkF; rw [if_pos (by omega), getD_lt _ hk]
 have ei : ∀ i, i ≠ k → mkF k0 rs (k + 1) i = mkF k0 rs k i := fun i hi => by
  unfold mkF
  by_cases e : i < k
  ·rw [if_pos (by omega), if_pos e]
  ·rw [if_neg (by omega), if_neg e]
 have hR : RowG 3 erCl w2 b off rs.length (mkF k0 rs k) := h1.wr hW (by
  rcases hd with ⟨-, rfl, rfl⟩ | ⟨hn, rfl, rfl⟩
  ·exact .inr (Nat.zero_le _)
  ·have := (hA.2 k hk).resolve_left hn
   omega)
 refine ⟨hR, ?_, fun i hil => ?_, ?_, ?_⟩
 ·have r1 := hR.put erCl_len hk 1 (by decide) (.bool ((k0 + cntEraS ((rs.map Nst.m).take k) + rs[k].m.nodes.length) % 3 == 0)) ⟨rs[k].a, rs[k].c, ⟨marksN (k0 + cntEraS ((rs.map Nst.m).take k)) rs[k].m.nodes.length, _, rs[k].m.last⟩⟩ (by rw [ek]; unfold erCl Sv; simp only [marksN_len]; rfl)
  have r2 := r1.put erCl_len hk 2 (by decide) (.int .i64 ((k0 + cntEraS ((rs.map Nst.m).take k) + rs[k].m.nodes.length + 1 : Nat) : Int)) ⟨rs[k].a, rs[k].c, mkEr (k0 + cntEraS ((rs.map Nst.m).take k)) rs[k].m⟩ (by rw [putG_same]; rfl)
  rw [putG_twice] at r2
  refine r2.congr fun i hi => ?_
  by_cases e : i = k
  ·subst e
   rw [putG_same, ek1]
  ·rw [putG_ne _ _ e, ei i e]
 ·have far : ∀ {v : Value} {xs : List Int} (u u' : Value), OwN lo hi v xs w2 → (xs = [] ∨ bO v ≠ b) → OwN lo hi v xs ((w2.setCell ⟨b, off + k * 3 + 1, none⟩ u).setCell ⟨b, off + k * 3 + 2, none⟩ u') := fun {v xs} u u' q hb => (q.putW hb _).putW hb _
  by_cases e : i = k
  ·subst e
   have eS := (mkF_nodes k0 rs (i + 1) i).2
   rw [getD_lt _ hk] at eS
   rw [eS, ek1]
   refine far _ _ hO ?_
   rcases hA.2 i hk with h | h
   ·left
    exact (nil_of_len (marksN_len _ _)).2 h
   ·right
    rw [← hv]; exact h
  ·rw [ei i e]
   obtain ⟨eN, eS⟩ := mkF_nodes k0 rs k i
   rw [getD_lt _ hil] at eN eS
   have q := h2 i hil
   have q1 : OwN lo hi (Sv Er.nodes (mkF k0 rs k i)) (mkF k0 rs k i).m.nodes w2 := q.wr hW (by
    rcases hd with ⟨-, rfl, rfl⟩ | ⟨hn, rfl, rfl⟩
    ·exact .inr (.inr (Nat.zero_le _))
    ·rcases hA.1 i k hil hk e with h | h | h
     ·exact .inl ((nil_of_len eN).2 h)
     ·exact absurd h hn
     ·rw [eS]
      exact .inr (by omega))
   refine far _ _ q1 ?_
   rcases hA.2 i hil with h | h
   ·exact .inl ((nil_of_len eN).2 h)
   ·right
    rw [eS, ← hv]; exact h
 ·exact ((h3.trans hW').setW hb1 hb2 _).setW hb1 hb2 _
 ·have := hW'.size
  simp
  omega
def firstO : List Er → Nat
 | [] => 0
 | e :: l => if e.closed then (if firstO l = 0 then 0 else firstO l + 1) else 1
theorem firstO_le : ∀ ms : List Er, firstO ms ≤ ms.length
 | [] => Nat.le_refl _
 | e :: l => by
  have := firstO_le l
  unfold firstO
  split
  ·split <;> simp <;> omega
  ·simp
theorem firstO_none : ∀ ms : List Er, (∀ i (h : i < ms.length), ms[i].closed = true) → firstO ms = 0
 | [], _ => rfl
 | e :: l, h => by
  have h0 : e.closed = true := h 0 (by simp)
  have h1 := firstO_none l fun i hi => h (i + 1) (by simpa using hi)
  unfold firstO
  rw [if_pos h0, if_pos h1]
theorem firstO_at : ∀ (ms : List Er) (k : Nat) (hk : k < ms.length), (∀ i (h : i < ms.length), i < k → ms[i].closed = true) → ms[k].closed = false → firstO ms = k + 1
 | [], k, hk, _, _ => by simp at hk
 | e :: l, 0, hk, _, ho => by
  have h0 : e.closed = false := ho
  unfold firstO
  rw [h0]
  rfl
 | e :: l, k + 1, hk, h, ho => by
  have h0 : e.closed = true := h 0 (by simp) (by omega)
  have h1 := firstO_at l k (by simpa using hk) (fun i hi hik => h (i + 1) (by simpa using hi) (by omega)) (by simpa using ho)
  unfold firstO
  rw [if_pos h0, if_neg (by omega), h1]
theorem firstO_pos {ms : List Er} (h : firstO ms ≠ 0) : ∃ k, ∃ hk : k < ms.length, firstO ms = k + 1 ∧ ms[k].closed = false ∧ ∀ i (hi : i < ms.length), i < k → ms[i].closed = true := by
 induction ms with
 | nil => exact absurd rfl h
 | cons e l ih =>
  cases hc : e.closed with
  | false => exact ⟨0, by simp, by unfold firstO; rw [hc]; rfl, hc, fun i hi h' => by omega⟩
  | true =>
   have e1 : firstO (e :: l) = if firstO l = 0 then 0 else firstO l + 1 := by conv => lhs; unfold firstO; rw [if_pos hc]
   by_cases h0 : firstO l = 0
   ·rw [e1, if_pos h0] at h; exact absurd rfl h
   ·obtain ⟨k, hk, q1, q2, q3⟩ := ih h0
    refine ⟨k + 1, by simpa using hk, by rw [e1, if_neg h0, q1], by simpa using q2, fun i hi hik => ?_⟩
    cases i with
    | zero => exact hc
    | succ i => simpa using q3 i (by simpa using hi) (by omega)
theorem firstO_zero {ms : List Er} (h : firstO ms = 0) : ∀ i (hi : i < ms.length), ms[i].closed = true := by
 induction ms with
 | nil => intro i hi; simp at hi
 | cons e l ih =>
  cases hc : e.closed with
  | false =>
   have e1 : firstO (e :: l) = 1 := by unfold firstO; rw [hc]; rfl
   omega
  | true =>
   have e1 : firstO (e :: l) = if firstO l = 0 then 0 else firstO l + 1 := by conv => lhs; unfold firstO; rw [if_pos hc]
   by_cases h0 : firstO l = 0
   ·intro i hi
    cases i with
    | zero => exact hc
    | succ i => simpa using ih h0 i (by simpa using hi)
   ·rw [e1, if_neg h0] at h; omega
set_option maxHeartbeats 2000000 in
theorem specFirst_any (v : Value) (m : Rg) (w : World) (hv : RdRegister v m w) :
  Calls Tryz.prog 98 #[v] w fun e w' => e = .returned (.int .i64 (firstO m.eras : Int)) ∧ Below w.heap.size w w' := by
 obtain ⟨sv, rfl, hv⟩ := hv
 obtain ⟨tr, hr⟩ : ∃ tr, m.trim = tr := ⟨_, rfl⟩
 rw [hr]
 generalize hm : m.eras = ms at *
 clear hm hr
 obtain ⟨rs, rfl, hr, -⟩ := hv
 have hl0 := hr.1
 have HV := dH fun W (hb : Below w.heap.size w W) => hr.below hb
 obtain ⟨-, a, cap, rfl, -, -⟩ := hr
 have FN : Hid ((∀ i (h : i < rs.length), rs[i].m.closed = true) → firstO (rs.map Nst.m) = 0) := fun h => firstO_none _ fun i hi => by rw [List.getElem_map]; exact h i (by simpa using hi)
 have FA : Hid (∀ k (hk : k < rs.length), (∀ i (h : i < rs.length), i < k → rs[i].m.closed = true) → rs[k].m.closed = false → firstO (rs.map Nst.m) = k + 1) := fun k hk h1 h2 => firstO_at _ k (by simpa using hk) (fun i hi hik => by rw [List.getElem_map]; exact h1 i (by simpa using hi) hik) (by rw [List.getElem_map]; exact h2)
 generalize firstO (rs.map Nst.m) = F at *
 have ba : Below w.heap.size w (w.alloc (.cells #[.slice a rs.length cap, .int .i64 tr] 41)) := (Below.refl _ _).alloc (Nat.le_refl _) _
 have X0 := Bx.new w [.slice a rs.length cap, .int .i64 tr] 41
 go_enter Tryz.func98, Tryz.ntmps98
 go_wp2
 have k0 := X0 0 _ rfl
 have HR := dH (dU HV _ ba)
 generalize w.alloc (.cells #[.slice a rs.length cap, .int .i64 tr] 41) = w0 at *
 clear HV X0
 go_loopw [3] (fun x wr => ∃ k : Nat, x = .int .i64 (k : Int) ∧ k ≤ rs.length ∧ Hid (∀ i (h : i < rs.length), i < k → rs[i].m.closed = true) ∧ wr = w0) (fun x _ => rs.length - (intOf x).toNat)
 case atStart => exact ⟨0, rfl, Nat.zero_le _, fun i h h' => by omega, rfl⟩
 case round =>
  obtain ⟨k, rfl, hk, hc, rfl⟩ := hrel
  by_cases hlt : (k : Int) < (rs.length : Int)
  ·have hkl : k < rs.length := by omega
   obtain ⟨b, off, rfl, he⟩ := (dU HR).era hkl
   have c1 := (he k hkl).2.1
   cases hcl : rs[k].m.closed with
   | true =>
    rw [hcl] at c1
    have H2 : Hid (∀ i (h : i < rs.length), i < k + 1 → rs[i].m.closed = true) := fun i h hi => by
     by_cases e : i = k
     ·subst e; exact hcl
     ·exact dU hc i h (by omega)
    clear hc he
    go_wp2
    go_roundw
    case rel => exact ⟨k + 1, by go_num, by omega, H2, by trivial⟩
    case measure => simp [intOf]; omega
   | false =>
    rw [hcl] at c1
    have e1 := dU FA k hkl (dU hc) hcl
    have e2 : Hid ((F : Int) = (k : Int) + 1) := by rw [Hid, e1]; omega
    clear hc he FN FA e1
    go_wp2
    go_ret
    exact ⟨by rw [dU e2]; go_num, ba⟩
  ·have e1 := dU FN fun i h => dU hc i h (by omega)
   clear hc FN FA
   go_wp2
   go_ret
   exact ⟨by first | rfl | (rw [e1]; rfl), ba⟩
def erC (ds : List Int) (cop : Int) (y : Er) (n i : Nat) (prev : Bool) : Prop :=
 holdsP ds cop y.nodes ∧ (0 ≤ y.last ∧ y.last ≤ 60) ∧ (y.closed = false → y.last = 0) ∧ (y.closed = true → i + 1 ≠ n ∧ (0 < i → prev = true))
def prevC (ms : List Er) (i : Nat) : Bool := (ms.getD (i - 1) ⟨[], false, 0⟩).closed
def plIn (n : Nat) (x : Int) : Prop := isPl x ∧ x / 4294967296 ≤ (n : Int)
def regP (ds : List Int) (cop : Int) (m : Rg) : Prop := cfgP ds cop ∧ m.eras.length ≤ 30 ∧ (m.trim = 0 ∨ plIn m.eras.length m.trim) ∧ ∀ i (h : i < m.eras.length), erC ds cop m.eras[i] m.eras.length i (prevC m.eras i)
set_option maxHeartbeats 8000000 in
theorem specRegOk_any (cv v : Value) (c : List Int × Int) (m : Rg) (w : World) (hc : RdConfig cv c w) (hv : RdRegister v m w) (ht : okInt m.trim) (hs : sizRegister m ≤ 1048576) :
  Calls Tryz.prog 95 #[cv, v] w fun e w' => RetB (regP c.1 c.2 m) e ∧ Below w.heap.size w w' := by
 obtain ⟨ds, cop⟩ := c
 obtain ⟨sc, rfl, hc⟩ := hc
 obtain ⟨sv, rfl, rs, hm, hr, hn⟩ := hv
 obtain ⟨t0, t1⟩ := ht
 simp only at *
 have hle : rs.length ≤ 1048576 := by unfold sizRegister sizEraS at hs; rw [← hm, List.length_map] at hs; omega
 have HL : Hid (∀ k (hk : k < rs.length), rs[k].m.nodes.length ≤ 1048576) := fun k hk => by
  have h1 := sumN_mem (ms := rs.map Nst.m) (k := k) (by simpa using hk)
  rw [List.getElem_map] at h1
  unfold sizRegister sizEraS at hs
  rw [← hm] at hs
  omega
 have CC := dH fun W (hb : Below w.heap.size w W) => specCfg_any sc ds cop W (hc.below hb)
 have CH := dH fun W (hb : Below w.heap.size w W) k (hk : k < rs.length) => specHolds_any sc (Sv Er.nodes rs[k]) ds rs[k].m.nodes cop W (hc.below hb) ((hn _ (List.getElem_mem hk)).below hb) (by have := dU HL k hk; omega)
 have HR := dH fun W (hb : Below w.heap.size w W) => hr.below hb
 have PD : Hid (regP ds cop m ↔ cfgP ds cop ∧ rs.length ≤ 30 ∧ (m.trim = 0 ∨ plIn rs.length m.trim) ∧ ∀ i (h : i < rs.length), erC ds cop rs[i].m rs.length i (prevC (rs.map Nst.m) i)) := by
  obtain ⟨em, tr⟩ := m
  simp only at hm
  subst hm
  unfold regP Hid
  simp only [List.length_map, List.getElem_map]
 generalize regP ds cop m = P at *
 generalize m.trim = tr at *
 obtain ⟨-, ca, cc, rfl, -, -⟩ := hc
 obtain ⟨-, a, cap, rfl, -, -⟩ := hr
 clear hn hm hs
 have ba : ∀ (w : World) o, Below w.heap.size w (w.alloc o) := fun w o => (Below.refl _ _).alloc (Nat.le_refl _) o
 have B0 := bT (ba w (.cells #[.slice ca ds.length cc, .int .i64 cop] 37)) (ba _ (.cells #[.slice a rs.length cap, .int .i64 tr] 41))
 have X0 := dH ((Bx.new w [.slice ca ds.length cc, .int .i64 cop] 37).below (ba _ (.cells #[.slice a rs.length cap, .int .i64 tr] 41)))
 have Y0 := Bx.new (w.alloc (.cells #[.slice ca ds.length cc, .int .i64 cop] 37)) [.slice a rs.length cap, .int .i64 tr] 41
 have e1 : (w.alloc (.cells #[.slice ca ds.length cc, .int .i64 cop] 37)).heap.size = w.heap.size + 1 := by simp
 rw [e1] at Y0
 replace Y0 := dH Y0
 clear e1
 go_enter Tryz.func95, Tryz.ntmps95
 go_wp2_with fail
 generalize (w.alloc (.cells #[.slice ca ds.length cc, .int .i64 cop] 37)).alloc (.cells #[.slice a rs.length cap, .int .i64 tr] 41) = w0 at *
 refine (dU CC _ B0).mono ?_
 rintro e w1 ⟨⟨b1, rfl, h1⟩, bl1⟩
 have B1 := bT B0 bl1
 have X1 := dH ((dU X0).below bl1)
 have Y1 := dH ((dU Y0).below bl1)
 have k0 := dU Y1 0 _ rfl
 have k1 := dU Y1 1 _ rfl
 clear X0 Y0 B0 bl1 CC
 cases b1
 ·have R : RetB P (.returned (.bool false)) := RetB.no fun h => by have := h1.2 ((dU PD).1 h).1; cases this
  clear h1
  go_wp2
  go_ret
  exact ⟨R, B1⟩
 have H1 := dH (h1.1 rfl)
 clear h1
 by_cases h30 : (rs.length : Int) > 30
 ·have R : RetB P (.returned (.bool false)) := RetB.no fun h => by have := ((dU PD).1 h).2.1; omega
  go_wp2
  go_ret
  exact ⟨R, B1⟩
 by_cases htr : tr = 0
 ·subst htr
  have PT := dH (show (0 : Int) = 0 ∨ plIn rs.length 0 from .inl rfl)
  have GY : Hid ((∀ i (h : i < rs.length), i < rs.length → erC ds cop rs[i].m rs.length i (prevC (rs.map Nst.m) i)) → P) := fun h => (dU PD).2 ⟨dU H1, by omega, dU PT, fun i hi => h i hi hi⟩
  have GN : Hid (∀ i (h : i < rs.length), ¬ erC ds cop rs[i].m rs.length i (prevC (rs.map Nst.m) i) → ¬ P) := fun i hi h hP => h (((dU PD).1 hP).2.2.2 i hi)
  clear PD PT 
  go_wp2
  go_loopw [6] (fun x wr => ∃ k : Nat, x = .int .i64 (k : Int) ∧ k ≤ rs.length ∧ Hid (∀ i (h : i < rs.length), i < k → erC ds cop rs[i].m rs.length i (prevC (rs.map Nst.m) i)) ∧ Hid (Bx wr w.heap.size [.slice ca ds.length cc, .int .i64 cop]) ∧ Hid (Bx wr (w.heap.size + 1) [.slice a rs.length cap, .int .i64 0]) ∧ Below w.heap.size w wr) (fun x _ => rs.length - (intOf x).toNat)
  case atStart => exact ⟨0, rfl, Nat.zero_le _, fun i h h' => by omega, X1, Y1, B1⟩
  case round =>
   obtain ⟨k, rfl, hk, hcd, hX, hY, hb⟩ := hrel
   clear B1 X1 Y1 k0 k1
   have x0 := dU hX 0 _ rfl
   have x1 := dU hX 1 _ rfl
   have y0 := dU hY 0 _ rfl
   by_cases hlt : (k : Int) < (rs.length : Int)
   ·have hkl : k < rs.length := by omega
    obtain ⟨b, off, rfl, he⟩ := (dU HR wr hb).era hkl
    have HE := dH fun i (hi : i < rs.length) => (he i hi).2.1
    obtain ⟨c0, c1, c2⟩ := he k hkl
    have CHk := dH fun W (hB : Below wr.heap.size wr W) => dU CH W (bT hb hB) k hkl
    have GNk := dH (dU GN k hkl)
    have GYk : Hid (erC ds cop rs[k].m rs.length k (prevC (rs.map Nst.m) k) → ∀ i (h : i < rs.length), i < k + 1 → erC ds cop rs[i].m rs.length i (prevC (rs.map Nst.m) i)) := fun h i hi hik => by
     by_cases e : i = k
     ·subst e; exact h
     ·exact dU hcd i hi (by omega)
    have PV : Hid (∀ j, k = j + 1 → wr.cell? ⟨b, off + j * 3 + 1, none⟩ = some (.bool (prevC (rs.map Nst.m) k))) := fun j hj => by
     subst hj
     have h1 := dU HE j (by omega)
     rw [h1]
     unfold prevC
     rw [Nat.add_sub_cancel, getD_lt _ (by simp; omega), List.getElem_map]
    unfold erC at GNk GYk
    unfold Sv at CHk
    generalize prevC (rs.map Nst.m) k = pv at *
    generalize rs[k] = y at *
    obtain ⟨ya, yc, yn, yb, yl⟩ := y
    simp only at GNk GYk CHk c0 c1 c2
    clear he HE hcd GN
    have bA := ba wr (.cells #[.slice ya yn.length yc, .bool yb, .int .i64 yl] 156)
    have x0' := ((dU hX).below bA) 0 _ rfl
    have x1' := ((dU hX).below bA) 1 _ rfl
    go_wp2_with fail
    have E2 := dH (Bx.new wr [.slice ya yn.length yc, .bool yb, .int .i64 yl] 156)
    have hsz : Hid ((wr.alloc (.cells #[.slice ya yn.length yc, .bool yb, .int .i64 yl] 156)).heap.size = wr.heap.size + 1) := by simp [Hid]
    generalize wr.alloc (.cells #[.slice ya yn.length yc, .bool yb, .int .i64 yl] 156) = w2 at *
    refine (dU CHk _ bA).mono ?_
    rintro e w3 ⟨⟨bh, rfl, hh⟩, b3⟩
    have bB := bT bA b3
    have B3 := bT hb bB
    have X3 := dH ((dU hX).below bB)
    have Y3 := dH ((dU hY).below bB)
    have E3 := dH ((dU E2).below b3)
    have PV3 : Hid (∀ j, k = j + 1 → w3.cell? ⟨b, off + j * 3 + 1, none⟩ = some (.bool pv)) := fun j hj => (bB.cell (p := ⟨b, off + j * 3 + 1, none⟩) (dCell_lt (dU PV j hj))).trans (dU PV j hj)
    have y0' := dU Y3 0 _ rfl
    have e1 := dU E3 1 _ rfl
    have e2 := dU E3 2 _ rfl
    clear x0 x1 x0' x1' y0 c0 c1 c2 bA b3 bB hX hY hb E2 PV CHk CH hsz
    cases bh
    ·have R : RetB P (.returned (.bool false)) := RetB.no (dU GNk fun h => by have := hh.2 h.1; cases this)
     clear hh
     go_wp2
     go_ret
     exact ⟨R, B3⟩
    have HH := dH (hh.1 rfl)
    clear hh
    by_cases hla : 0 ≤ yl ∧ yl ≤ 60
    ·have CI := dH fun W => l1In_yes yl 0 60 hla.1 hla.2 W
     go_wp2_with fail
     refine (dU CI _).mono ?_
     rintro e w4 ⟨rfl, rfl⟩
     clear CI
     cases yb with
     | false =>
      by_cases hl0 : yl = 0
      ·have G := dH (dU GYk ⟨dU HH, hla, fun _ => hl0, fun h => by cases h⟩)
       subst hl0
       clear GYk GNk hla
       go_wp2
       go_roundw
       case rel => exact ⟨k + 1, by go_num, by omega, G, X3, Y3, B3⟩
       case measure => simp [intOf]; omega
      ·have R : RetB P (.returned (.bool false)) := RetB.no (dU GNk fun h => hl0 (h.2.2.1 rfl))
       have hbn : (yl != 0) = true := by simp [hl0]
       clear GYk GNk hla
       go_wp2
       go_ret
       exact ⟨R, B3⟩
     | true =>
      by_cases hn : (k : Int) = (rs.length : Int) - 1
      ·have R : RetB P (.returned (.bool false)) := RetB.no (dU GNk fun h => (h.2.2.2 rfl).1 (by omega))
       have hbn : ((k : Int) == (rs.length : Int) - 1) = true := by simp [hn]
       clear GYk GNk hla
       go_wp2
       go_ret
       exact ⟨R, B3⟩
      ·have hbn : ((k : Int) == (rs.length : Int) - 1) = false := by simp [hn]
       rcases Nat.eq_zero_or_pos k with h0 | h0
       ·have G := dH (dU GYk ⟨dU HH, hla, (fun h => by cases h), fun _ => ⟨by omega, fun h => by omega⟩⟩)
        subst h0
        clear GYk GNk hla
        go_wp2
        go_roundw
        case rel => exact ⟨0 + 1, by go_num, by omega, G, X3, Y3, B3⟩
        case measure => simp [intOf]; omega
       ·obtain ⟨j, rfl⟩ : ∃ j, k = j + 1 := ⟨k - 1, by omega⟩
        have c1 := dU PV3 j rfl
        have ek : ((j + 1 : Nat) : Int) - 1 = (j : Int) := by omega
        have hjl : j < rs.length := by omega
        cases pv with
        | true =>
         have G := dH (dU GYk ⟨dU HH, hla, (fun h => by cases h), fun _ => ⟨by omega, fun _ => rfl⟩⟩)
         clear GYk GNk hla
         go_wp2
         go_roundw
         case rel => exact ⟨j + 1 + 1, by go_num, by omega, G, X3, Y3, B3⟩
         case measure => simp [intOf]; omega
        | false =>
         have R : RetB P (.returned (.bool false)) := RetB.no (dU GNk fun h => by have := (h.2.2.2 rfl).2 h0; cases this)
         clear GYk GNk hla
         go_wp2
         go_ret
         exact ⟨R, B3⟩
    ·have CI := dH fun W => l1In_no yl 0 60 (by omega) W
     have R : RetB P (.returned (.bool false)) := RetB.no (dU GNk fun h => hla h.2.1)
     clear GYk GNk hla
     go_wp2_with fail
     refine (dU CI _).mono ?_
     rintro e w4 ⟨rfl, rfl⟩
     go_wp2
     go_ret
     exact ⟨R, B3⟩
   ·have R : RetB P (.returned (.bool true)) := RetB.yes (dU GY fun i hi _ => dU hcd i hi (by omega))
    clear hcd GN GY
    go_wp2
    go_ret
    exact ⟨R, hb⟩
 ·have hbn : (tr != 0) = true := by simp [htr]
  by_cases hp : isPl tr
  ·have CP := dH fun W => specOk_yes tr hp W
   have CE := dH fun W => specEpoch_yes tr hp W
   go_wp2_with fail
   refine (dU CP _).mono ?_
   rintro e w2 ⟨rfl, rfl⟩
   go_wp2_with fail
   refine (dU CE _).mono ?_
   rintro e w2 ⟨rfl, rfl⟩
   have hpp := hp
   obtain ⟨p0, p1, p2, p3, p4⟩ := hpp
   generalize hq : tr / 4294967296 = q at *
   by_cases hqn : q > (rs.length : Int)
   ·have R : RetB P (.returned (.bool false)) := RetB.no fun h => by
     rcases ((dU PD).1 h).2.2.1 with h | h
     ·exact htr h
     ·have := h.2; omega
    clear hp
    go_wp2
    go_ret
    exact ⟨R, B1⟩
   ·have PT := dH (show tr = 0 ∨ plIn rs.length tr from .inr ⟨hp, by rw [hq]; omega⟩)
    have GY : Hid ((∀ i (h : i < rs.length), i < rs.length → erC ds cop rs[i].m rs.length i (prevC (rs.map Nst.m) i)) → P) := fun h => (dU PD).2 ⟨dU H1, by omega, dU PT, fun i hi => h i hi hi⟩
    have GN : Hid (∀ i (h : i < rs.length), ¬ erC ds cop rs[i].m rs.length i (prevC (rs.map Nst.m) i) → ¬ P) := fun i hi h hP => h (((dU PD).1 hP).2.2.2 i hi)
    clear PD PT hp hq p0 p1 p2 p3 p4 htr hbn CP CE
    go_wp2
    go_loopw [6] (fun x wr => ∃ k : Nat, x = .int .i64 (k : Int) ∧ k ≤ rs.length ∧ Hid (∀ i (h : i < rs.length), i < k → erC ds cop rs[i].m rs.length i (prevC (rs.map Nst.m) i)) ∧ Hid (Bx wr w.heap.size [.slice ca ds.length cc, .int .i64 cop]) ∧ Hid (Bx wr (w.heap.size + 1) [.slice a rs.length cap, .int .i64 tr]) ∧ Below w.heap.size w wr) (fun x _ => rs.length - (intOf x).toNat)
    case atStart => exact ⟨0, rfl, Nat.zero_le _, fun i h h' => by omega, X1, Y1, B1⟩
    case round =>
     obtain ⟨k, rfl, hk, hcd, hX, hY, hb⟩ := hrel
     clear B1 X1 Y1 k0 k1
     have x0 := dU hX 0 _ rfl
     have x1 := dU hX 1 _ rfl
     have y0 := dU hY 0 _ rfl
     by_cases hlt : (k : Int) < (rs.length : Int)
     ·have hkl : k < rs.length := by omega
      obtain ⟨b, off, rfl, he⟩ := (dU HR wr hb).era hkl
      have HE := dH fun i (hi : i < rs.length) => (he i hi).2.1
      obtain ⟨c0, c1, c2⟩ := he k hkl
      have CHk := dH fun W (hB : Below wr.heap.size wr W) => dU CH W (bT hb hB) k hkl
      have GNk := dH (dU GN k hkl)
      have GYk : Hid (erC ds cop rs[k].m rs.length k (prevC (rs.map Nst.m) k) → ∀ i (h : i < rs.length), i < k + 1 → erC ds cop rs[i].m rs.length i (prevC (rs.map Nst.m) i)) := fun h i hi hik => by
       by_cases e : i = k
       ·subst e; exact h
       ·exact dU hcd i hi (by omega)
      have PV : Hid (∀ j, k = j + 1 → wr.cell? ⟨b, off + j * 3 + 1, none⟩ = some (.bool (prevC (rs.map Nst.m) k))) := fun j hj => by
       subst hj
       have h1 := dU HE j (by omega)
       rw [h1]
       unfold prevC
       rw [Nat.add_sub_cancel, getD_lt _ (by simp; omega), List.getElem_map]
      unfold erC at GNk GYk
      unfold Sv at CHk
      generalize prevC (rs.map Nst.m) k = pv at *
      generalize rs[k] = y at *
      obtain ⟨ya, yc, yn, yb, yl⟩ := y
      simp only at GNk GYk CHk c0 c1 c2
      clear he HE hcd GN
      have bA := ba wr (.cells #[.slice ya yn.length yc, .bool yb, .int .i64 yl] 156)
      have x0' := ((dU hX).below bA) 0 _ rfl
      have x1' := ((dU hX).below bA) 1 _ rfl
      go_wp2_with fail
      have E2 := dH (Bx.new wr [.slice ya yn.length yc, .bool yb, .int .i64 yl] 156)
      have hsz : Hid ((wr.alloc (.cells #[.slice ya yn.length yc, .bool yb, .int .i64 yl] 156)).heap.size = wr.heap.size + 1) := by simp [Hid]
      generalize wr.alloc (.cells #[.slice ya yn.length yc, .bool yb, .int .i64 yl] 156) = w2 at *
      refine (dU CHk _ bA).mono ?_
      rintro e w3 ⟨⟨bh, rfl, hh⟩, b3⟩
      have bB := bT bA b3
      have B3 := bT hb bB
      have X3 := dH ((dU hX).below bB)
      have Y3 := dH ((dU hY).below bB)
      have E3 := dH ((dU E2).below b3)
      have PV3 : Hid (∀ j, k = j + 1 → w3.cell? ⟨b, off + j * 3 + 1, none⟩ = some (.bool pv)) := fun j hj => (bB.cell (p := ⟨b, off + j * 3 + 1, none⟩) (dCell_lt (dU PV j hj))).trans (dU PV j hj)
      have y0' := dU Y3 0 _ rfl
      have e1 := dU E3 1 _ rfl
      have e2 := dU E3 2 _ rfl
      clear x0 x1 x0' x1' y0 c0 c1 c2 bA b3 bB hX hY hb E2 PV CHk CH hsz
      cases bh
      ·have R : RetB P (.returned (.bool false)) := RetB.no (dU GNk fun h => by have := hh.2 h.1; cases this)
       clear hh
       go_wp2
       go_ret
       exact ⟨R, B3⟩
      have HH := dH (hh.1 rfl)
      clear hh
      by_cases hla : 0 ≤ yl ∧ yl ≤ 60
      ·have CI := dH fun W => l1In_yes yl 0 60 hla.1 hla.2 W
       go_wp2_with fail
       refine (dU CI _).mono ?_
       rintro e w4 ⟨rfl, rfl⟩
       clear CI
       cases yb with
       | false =>
        by_cases hl0 : yl = 0
        ·have G := dH (dU GYk ⟨dU HH, hla, fun _ => hl0, fun h => by cases h⟩)
         subst hl0
         clear GYk GNk hla
         go_wp2
         go_roundw
         case rel => exact ⟨k + 1, by go_num, by omega, G, X3, Y3, B3⟩
         case measure => simp [intOf]; omega
        ·have R : RetB P (.returned (.bool false)) := RetB.no (dU GNk fun h => hl0 (h.2.2.1 rfl))
         have hbn : (yl != 0) = true := by simp [hl0]
         clear GYk GNk hla
         go_wp2
         go_ret
         exact ⟨R, B3⟩
       | true =>
        by_cases hn : (k : Int) = (rs.length : Int) - 1
        ·have R : RetB P (.returned (.bool false)) := RetB.no (dU GNk fun h => (h.2.2.2 rfl).1 (by omega))
         have hbn : ((k : Int) == (rs.length : Int) - 1) = true := by simp [hn]
         clear GYk GNk hla
         go_wp2
         go_ret
         exact ⟨R, B3⟩
        ·have hbn : ((k : Int) == (rs.length : Int) - 1) = false := by simp [hn]
         rcases Nat.eq_zero_or_pos k with h0 | h0
         ·have G := dH (dU GYk ⟨dU HH, hla, (fun h => by cases h), fun _ => ⟨by omega, fun h => by omega⟩⟩)
          subst h0
          clear GYk GNk hla
          go_wp2
          go_roundw
          case rel => exact ⟨0 + 1, by go_num, by omega, G, X3, Y3, B3⟩
          case measure => simp [intOf]; omega
         ·obtain ⟨j, rfl⟩ : ∃ j, k = j + 1 := ⟨k - 1, by omega⟩
          have c1 := dU PV3 j rfl
          have ek : ((j + 1 : Nat) : Int) - 1 = (j : Int) := by omega
          have hjl : j < rs.length := by omega
          cases pv with
          | true =>
           have G := dH (dU GYk ⟨dU HH, hla, (fun h => by cases h), fun _ => ⟨by omega, fun _ => rfl⟩⟩)
           clear GYk GNk hla
           go_wp2
           go_roundw
           case rel => exact ⟨j + 1 + 1, by go_num, by omega, G, X3, Y3, B3⟩
           case measure => simp [intOf]; omega
          | false =>
           have R : RetB P (.returned (.bool false)) := RetB.no (dU GNk fun h => by have := (h.2.2.2 rfl).2 h0; cases this)
           clear GYk GNk hla
           go_wp2
           go_ret
           exact ⟨R, B3⟩
      ·have CI := dH fun W => l1In_no yl 0 60 (by omega) W
       have R : RetB P (.returned (.bool false)) := RetB.no (dU GNk fun h => hla h.2.1)
       clear GYk GNk hla
       go_wp2_with fail
       refine (dU CI _).mono ?_
       rintro e w4 ⟨rfl, rfl⟩
       go_wp2
       go_ret
       exact ⟨R, B3⟩
     ·have R : RetB P (.returned (.bool true)) := RetB.yes (dU GY fun i hi _ => dU hcd i hi (by omega))
      clear hcd GN GY
      go_wp2
      go_ret
      exact ⟨R, hb⟩
  ·have CP := dH fun W => specOk_no tr t1 hp W
   have R : RetB P (.returned (.bool false)) := RetB.no fun h => by
    rcases ((dU PD).1 h).2.2.1 with h | h
    ·exact htr h
    ·exact hp h.1
   clear hp
   go_wp2_with fail
   refine (dU CP _).mono ?_
   rintro e w2 ⟨rfl, rfl⟩
   go_wp2
   go_ret
   exact ⟨R, B1⟩
def idxQ {α : Type} (q : α → Bool) : List α → Int
 | [] => -1
 | e :: l => if q e then 0 else (if idxQ q l = -1 then -1 else idxQ q l + 1)
theorem idxQ_ge {α : Type} (q : α → Bool) : ∀ l : List α, -1 ≤ idxQ q l ∧ idxQ q l < l.length
 | [] => by simp [idxQ]
 | e :: l => by
  have := idxQ_ge q l
  unfold idxQ
  split
  ·simp <;> omega
  ·split <;> simp <;> omega
theorem idxQ_none {α : Type} (q : α → Bool) : ∀ l : List α, (∀ i (h : i < l.length), q l[i] = false) → idxQ q l = -1
 | [], _ => rfl
 | e :: l, h => by
  have h0 : q e = false := h 0 (by simp)
  have h1 := idxQ_none q l fun i hi => h (i + 1) (by simpa using hi)
  unfold idxQ
  rw [h0, h1]
  rfl
theorem idxQ_at {α : Type} (q : α → Bool) : ∀ (l : List α) (k : Nat) (hk : k < l.length), (∀ i (h : i < l.length), i < k → q l[i] = false) → q l[k] = true → idxQ q l = (k : Int)
 | [], k, hk, _, _ => by simp at hk
 | e :: l, 0, hk, _, ho => by
  have h0 : q e = true := ho
  unfold idxQ
  rw [h0]
  rfl
 | e :: l, k + 1, hk, h, ho => by
  have h0 : q e = false := h 0 (by simp) (by omega)
  have h1 := idxQ_at q l k (by simpa using hk) (fun i hi hik => h (i + 1) (by simpa using hi) (by omega)) (by simpa using ho)
  unfold idxQ
  rw [h0, h1, if_neg (by simp), if_neg (by omega)]
  omega
theorem idxQ_neg {α : Type} {q : α → Bool} {l : List α} : idxQ q l = -1 ↔ ∀ e ∈ l, q e = false := by
 induction l with
 | nil => simp [idxQ]
 | cons e l ih =>
  have hg := idxQ_ge q l
  unfold idxQ
  cases hq : q e with
  | true => simp [hq]
  | false =>
   rw [if_neg (by simp)]
   by_cases h : idxQ q l = -1
   ·rw [if_pos h]
    simp only [List.mem_cons, true_iff]
    rintro x (rfl | hx)
    ·exact hq
    ·exact ih.1 h x hx
   ·rw [if_neg h]
    constructor
    ·intro h'; omega
    ·intro h'
     exact absurd (ih.2 fun x hx => h' x (List.mem_cons_of_mem _ hx)) h
set_option maxHeartbeats 2000000 in
theorem indexFunc_any (v : Value) (rs : List (Nst Er)) (F : Nat) (caps : Array Value) (q : Er → Bool) (w : World) (hF : ∀ args w, (callFunc F args).run Tryz.prog w = .ok (.enter F args) w) (hr : Rw 3 erCl w v rs)
  (hq : ∀ W, Below w.heap.size w W → ∀ k (hk : k < rs.length), Calls Tryz.prog F (#[.agg #[.slice rs[k].a rs[k].m.nodes.length rs[k].c, .bool rs[k].m.closed, .int .i64 rs[k].m.last]] ++ caps) W fun e w' => e = .returned (.bool (q rs[k].m)) ∧ Below W.heap.size W w') :
  Calls Tryz.prog 209 #[v, .func (.func F) #[] caps] w fun e w' => e = .returned (.int .i64 (idxQ q (rs.map Nst.m))) ∧ Below w.heap.size w w' := by
 have HV := dH fun W (hb : Below w.heap.size w W) => hr.below hb
 have HQ := dH hq
 have hl0 := hr.1
 obtain ⟨-, a, cap, rfl, -, -⟩ := hr
 have FN : Hid ((∀ i (h : i < rs.length), q rs[i].m = false) → idxQ q (rs.map Nst.m) = -1) := fun h => idxQ_none _ _ fun i hi => by rw [List.getElem_map]; exact h i (by simpa using hi)
 have FA : Hid (∀ k (hk : k < rs.length), (∀ i (h : i < rs.length), i < k → q rs[i].m = false) → q rs[k].m = true → idxQ q (rs.map Nst.m) = (k : Int)) := fun k hk h1 h2 => idxQ_at _ _ k (by simpa using hk) (fun i hi hik => by rw [List.getElem_map]; exact h1 i (by simpa using hi) hik) (by rw [List.getElem_map]; exact h2)
 generalize idxQ q (rs.map Nst.m) = M at *
 clear hq
 go_enter Tryz.func209, Tryz.ntmps209
 go_wp2
 go_loopw [8] (fun x wr => ∃ k : Nat, x = .int .i64 (k : Int) ∧ k ≤ rs.length ∧ Hid (∀ i (h : i < rs.length), i < k → q rs[i].m = false) ∧ Below w.heap.size w wr) (fun x _ => rs.length - (intOf x).toNat)
 case atStart => exact ⟨0, rfl, Nat.zero_le _, fun i h h' => by omega, Below.refl _ _⟩
 case round =>
  obtain ⟨k, rfl, hk, hc, hb⟩ := hrel
  by_cases hlt : (k : Int) < (rs.length : Int)
  ·have hkl : k < rs.length := by omega
   obtain ⟨b, off, rfl, he⟩ := (dU HV _ hb).era hkl
   obtain ⟨c0, c1, c2⟩ := he k hkl
   have CE := dH (dU HQ wr hb k hkl)
   cases hcl : q rs[k].m with
   | false =>
    rw [hcl] at CE
    have H2 : Hid (∀ i (h : i < rs.length), i < k + 1 → q rs[i].m = false) := fun i h hi => by
     by_cases e : i = k
     ·subst e; exact hcl
     ·exact dU hc i h (by omega)
    generalize rs[k] = y at *
    obtain ⟨ya, yc, yn, yb, yl⟩ := y
    simp only at *
    clear hc he
    go_wp2_with fail
    refine (dU CE).mono ?_
    rintro e w1 ⟨rfl, b1⟩
    clear CE c0 c1 c2
    go_wp2
    go_roundw
    case rel => exact ⟨k + 1, by go_num, by omega, H2, bT hb b1⟩
    case measure => simp [intOf]; omega
   | true =>
    rw [hcl] at CE
    have e1 := dU FA k hkl (dU hc) hcl
    subst e1
    generalize rs[k] = y at *
    obtain ⟨ya, yc, yn, yb, yl⟩ := y
    simp only at *
    clear hc he FN FA
    go_wp2_with fail
    refine (dU CE).mono ?_
    rintro e w1 ⟨rfl, b1⟩
    clear CE c0 c1 c2
    go_wp2
    go_ret
    exact ⟨rfl, bT hb b1⟩
  ·have e1 := dU FN fun i h => dU hc i h (by omega)
   subst e1
   clear hc FN FA
   go_wp2
   go_ret
   exact ⟨rfl, hb⟩
theorem firstOpenFn (p : Nst Er) (w : World) : Calls Tryz.prog 210 #[.agg #[.slice p.a p.m.nodes.length p.c, .bool p.m.closed, .int .i64 p.m.last]] w fun e w' => e = .returned (.bool (!p.m.closed)) ∧ Below w.heap.size w w' := by
 obtain ⟨pa, pc, yn, yb, yl⟩ := p
 simp only at *
 go_enter Tryz.func210, Tryz.ntmps210
 go_wp2
 go_ret
 exact ⟨rfl, (Below.refl _ _).alloc (Nat.le_refl _) _⟩
theorem idxQ_first (ms : List Er) : idxQ (fun e => !e.closed) ms + 1 = (firstO ms : Int) := by
 induction ms with
 | nil => rfl
 | cons e l ih =>
  have hg := idxQ_ge (fun e : Er => !e.closed) l
  unfold idxQ firstO
  cases hc : e.closed with
  | false => rfl
  | true =>
   simp only [Bool.not_true, if_true]
   rw [if_neg (by decide)]
   by_cases h0 : firstO l = 0
   ·rw [if_pos h0, if_pos (by omega)]; rfl
   ·rw [if_neg h0, if_neg (by omega)]; omega
set_option maxHeartbeats 1000000 in
theorem implFirst_any (v : Value) (m : Rg) (w : World) (hv : RdRegister v m w) (hs : m.eras.length ≤ 1048576) :
  Calls Tryz.prog 165 #[v] w fun e w' => e = .returned (.int .i64 (firstO m.eras : Int)) ∧ Below w.heap.size w w' := by
 obtain ⟨sv, rfl, rs, hm, hr, -⟩ := hv
 have ba : ∀ o, Below w.heap.size w (w.alloc o) := fun o => (Below.refl _ _).alloc (Nat.le_refl _) o
 have C1 := dH fun W (hb : Below w.heap.size w W) => indexFunc_any sv rs 210 #[] (fun e => !e.closed) W Tryz.call210 (hr.below hb) (fun W' _ k hk => firstOpenFn rs[k] W')
 rw [hm] at C1
 have e1 := idxQ_first m.eras
 have h1 := idxQ_ge (fun e : Er => !e.closed) m.eras
 obtain ⟨-, a, cap, rfl, -, -⟩ := hr
 have e2 : Hid ((firstO m.eras : Int) = 1 + idxQ (fun e => !e.closed) m.eras) := by rw [Hid]; omega
 rw [dU e2]
 generalize idxQ (fun e : Er => !e.closed) m.eras = M at *
 generalize m.trim = tr at *
 clear e1 e2 hm
 go_enter Tryz.func165, Tryz.ntmps165
 go_wp2_with fail
 refine (dU C1 _ (ba _)).mono ?_
 rintro e w1 ⟨rfl, b1⟩
 have B1 := bT (ba _) b1
 clear b1 ba C1
 go_wp2
 go_ret
 exact ⟨rfl, B1⟩
theorem lastEpoch_any (v : Value) (m : Rg) (w : World) (hv : RdRegister v m w) :
  Calls Tryz.prog 164 #[v] w fun e w' => e = .returned (.int .i64 (m.eras.length : Int)) ∧ Below w.heap.size w w' := by
 obtain ⟨a, cap, rfl, -⟩ := formRegister hv
 clear hv
 go_enter Tryz.func164, Tryz.ntmps164
 go_wp2
 go_ret
 exact ⟨rfl, (Below.refl _ _).alloc (Nat.le_refl _) _⟩
set_option maxHeartbeats 1000000 in
theorem hasEpoch_any (v : Value) (m : Rg) (x : Int) (w : World) (hv : RdRegister v m w) (ok : okInt x) (hs : m.eras.length ≤ 1048576) :
  Calls Tryz.prog 160 #[v, .int .i64 x] w fun e w' => RetB (1 ≤ x ∧ x ≤ (m.eras.length : Int)) e ∧ Below w.heap.size w w' := by
 have ba : ∀ o, Below w.heap.size w (w.alloc o) := fun o => (Below.refl _ _).alloc (Nat.le_refl _) o
 have C1 := dH fun W (hb : Below w.heap.size w W) => lastEpoch_any v m W (hv.below hb)
 obtain ⟨a, cap, rfl, -⟩ := formRegister hv
 obtain ⟨o1, o2⟩ := ok
 generalize m.trim = tr at *
 clear hv
 by_cases h1 : x ≥ 1
 ·go_enter Tryz.func160, Tryz.ntmps160
  go_wp2_with fail
  refine (dU C1 _ (ba _)).mono ?_
  rintro e w1 ⟨rfl, b1⟩
  have B1 := bT (ba _) b1
  clear b1 ba C1
  have R : RetB (1 ≤ x ∧ x ≤ (m.eras.length : Int)) (.returned (.bool (decide (x ≤ (m.eras.length : Int))))) := ⟨_, rfl, by rw [decide_eq_true_iff]; exact ⟨fun h => ⟨h1, h⟩, fun h => h.2⟩⟩
  go_wp2
  go_ret
  exact ⟨R, B1⟩
 ·have R : RetB (1 ≤ x ∧ x ≤ (m.eras.length : Int)) (.returned (.bool false)) := RetB.no fun h => h1 h.1
  go_enter Tryz.func160, Tryz.ntmps160
  go_wp2
  go_ret
  exact ⟨R, ba _⟩
end Go.Proofs.YtekgkjomdpjkbaaGreat
