/- Several texts in one: RetQ, RdO, RgB, RgC, NxA, NxV, NxS, RgD, WrC, WkA, WkB, MnB, WkC, WkDa, WkD. -/
import Derived.Test.YtodfgehicpejgaaGreatDoorGk172
import Derived.Test.YtodfgehicpejgaaGreatDoorGk164
import Derived.Test.YtodfgehicpejgaaGreatDoorGk170
import Derived.Test.YtodfgehicpejgaaGreatDoorGk144
import Derived.Test.YtodfgehicpejgaaGreatDoorGk136
import Derived.Test.YtodfgehicpejgaaGreatDoorGk185
import Derived.Test.YtodfgehicpejgaaGreatDoorGk169
import Derived.Test.YtodfgehicpejgaaGreatDoorGk171
import Derived.Test.YtodfgehicpejgaaGreatDoorGk162
import Derived.Deep.RegionHeld3
import Derived.Deep.DeepCutAuto
import Derived.Test.YtodfgehicpejgaaGreatDoorGk157
import Derived.BigQuiet
import Derived.Deep.QuietTactic
namespace Go.Proofs.YtodfgehicpejgaaGreatDoor
open Go.ChangeShapes Go.WideShapes Go.ChangeAt Go.RowKit
set_option linter.unusedSimpArgs false
set_option linter.unusedVariables false
set_option maxRecDepth 100000
theorem retB_yes {F : Nat} {args : Array Value} {w : World} {p : Prop} (h : Calls Tryz.prog F args w fun e w' => RetB p e ∧ Below w.heap.size w w') (hp : p) : Calls Tryz.prog F args w fun e w' => e = .returned (.bool true) ∧ Below w.heap.size w w' := h.mono fun e w' ⟨h1, h2⟩ => ⟨h1.of_yes hp, h2⟩
theorem retB_no {F : Nat} {args : Array Value} {w : World} {p : Prop} (h : Calls Tryz.prog F args w fun e w' => RetB p e ∧ Below w.heap.size w w') (hp : ¬ p) : Calls Tryz.prog F args w fun e w' => e = .returned (.bool false) ∧ Below w.heap.size w w' := h.mono fun e w' ⟨h1, h2⟩ => ⟨h1.of_no hp, h2⟩
def rrP (r : Rr) : Prop := (1 ≤ r.epoch ∧ r.epoch ≤ 31) ∧ (1 ≤ r.off ∧ r.off ≤ 61) ∧ r.out.length ≤ 120
set_option maxHeartbeats 2000000 in
theorem implReaderOk_any (v : Value) (m : Rr) (w : World) (hv : RdReader v m w) :
  Calls Tryz.prog 83 #[v] w fun e w' => RetB (rrP m) e ∧ Below w.heap.size w w' := by
 have ba : ∀ (w : World) o, Below w.heap.size w (w.alloc o) := fun w o => (Below.refl _ _).alloc (Nat.le_refl _) o
 obtain ⟨a, cap, rfl, hle⟩ := formReader hv
 have PD : Hid (rrP m ↔ (1 ≤ m.epoch ∧ m.epoch ≤ 31) ∧ (1 ≤ m.off ∧ m.off ≤ 61) ∧ m.out.length ≤ 120) := Iff.rfl
 generalize rrP m = P at *
 generalize m.epoch = y0 at *
 generalize m.off = y1 at *
 generalize m.out.length = n at *
 clear hv
 by_cases h1 : y0 < 1
 ·have R : RetB P (.returned (.bool false)) := RetB.no fun h => by have := (dU PD).1 h; omega
  clear PD
  go_enter Tryz.func83, Tryz.ntmps83
  go_wp2
  go_ret
  exact ⟨R, ba _ _⟩
 by_cases h2 : 31 < y0
 ·have R : RetB P (.returned (.bool false)) := RetB.no fun h => by have := (dU PD).1 h; omega
  clear PD
  go_enter Tryz.func83, Tryz.ntmps83
  go_wp2
  go_ret
  exact ⟨R, ba _ _⟩
 by_cases h3 : y1 < 1
 ·have R : RetB P (.returned (.bool false)) := RetB.no fun h => by have := (dU PD).1 h; omega
  clear PD
  go_enter Tryz.func83, Tryz.ntmps83
  go_wp2
  go_ret
  exact ⟨R, ba _ _⟩
 by_cases h4 : 61 < y1
 ·have R : RetB P (.returned (.bool false)) := RetB.no fun h => by have := (dU PD).1 h; omega
  clear PD
  go_enter Tryz.func83, Tryz.ntmps83
  go_wp2
  go_ret
  exact ⟨R, ba _ _⟩
 have R : RetB P (.returned (.bool (decide ((n : Int) ≤ 120)))) := by
  by_cases h5 : (n : Int) ≤ 120
  ·rw [decide_eq_true h5]
   exact RetB.yes ((dU PD).2 ⟨by omega, by omega, by omega⟩)
  ·rw [decide_eq_false h5]
   exact RetB.no fun h => by have := (dU PD).1 h; omega
 clear PD
 go_enter Tryz.func83, Tryz.ntmps83
 go_wp2
 go_ret
 exact ⟨R, ba _ _⟩
theorem implReaderNew_any (w : World) : Calls Tryz.prog 17 #[] w fun e w' => e = .returned (.agg #[.int .i64 1, .int .i64 1, .slice none 0 0]) ∧ Below w.heap.size w w' := by
 go_enter Tryz.func17, Tryz.ntmps17
 go_wp2
 go_returns
 exact ⟨rfl, by go_grown⟩
def firstO : List Er → Nat
 | [] => 0
 | e :: l => if e.closed then (if firstO l = 0 then 0 else firstO l + 1) else 1
theorem firstO_le : ∀ ms : List Er, firstO ms ≤ ms.length
 | [] => Nat.le_refl _
 | e :: l => by
  have := firstO_le l
  unfold firstO
  split
  ·split <;> simp <;> omega
  ·simp
theorem firstO_pos {ms : List Er} (h : firstO ms ≠ 0) : ∃ k, ∃ hk : k < ms.length, firstO ms = k + 1 ∧ ms[k].closed = false ∧ ∀ i (hi : i < ms.length), i < k → ms[i].closed = true := by
 induction ms with
 | nil => exact absurd rfl h
 | cons e l ih =>
  cases hc : e.closed with
  | false => exact ⟨0, by simp, by unfold firstO; rw [hc]; rfl, hc, fun i hi h' => by omega⟩
  | true =>
   have e1 : firstO (e :: l) = if firstO l = 0 then 0 else firstO l + 1 := by conv => lhs; unfold firstO; rw [if_pos hc]
   by_cases h0 : firstO l = 0
   ·rw [e1, if_pos h0] at h; exact absurd rfl h
   ·obtain ⟨k, hk, q1, q2, q3⟩ := ih h0
    refine ⟨k + 1, by simpa using hk, by rw [e1, if_neg h0, q1], by simpa using q2, fun i hi hik => ?_⟩
    cases i with
    | zero => exact hc
    | succ i => simpa using q3 i (by simpa using hi) (by omega)
theorem firstO_zero {ms : List Er} (h : firstO ms = 0) : ∀ i (hi : i < ms.length), ms[i].closed = true := by
 induction ms with
 | nil => intro i hi; simp at hi
 | cons e l ih =>
  cases hc : e.closed with
  | false =>
   have e1 : firstO (e :: l) = 1 := by unfold firstO; rw [hc]; rfl
   omega
  | true =>
   have e1 : firstO (e :: l) = if firstO l = 0 then 0 else firstO l + 1 := by conv => lhs; unfold firstO; rw [if_pos hc]
   by_cases h0 : firstO l = 0
   ·intro i hi
    cases i with
    | zero => exact hc
    | succ i => simpa using ih h0 i (by simpa using hi)
   ·rw [e1, if_neg h0] at h; omega
def erC (ds : List Int) (cop : Int) (y : Er) (n i : Nat) (prev : Bool) : Prop :=
 holdsP ds cop y.nodes ∧ (0 ≤ y.last ∧ y.last ≤ 60) ∧ (y.closed = false → y.last = 0) ∧ (y.closed = true → i + 1 ≠ n ∧ (0 < i → prev = true))
def prevC (ms : List Er) (i : Nat) : Bool := (ms.getD (i - 1) ⟨[], false, 0⟩).closed
def plIn (n : Nat) (x : Int) : Prop := isPl x ∧ x / 4294967296 ≤ (n : Int)
def regP (ds : List Int) (cop : Int) (m : Rg) : Prop := cfgP ds cop ∧ m.eras.length ≤ 30 ∧ (m.trim = 0 ∨ plIn m.eras.length m.trim) ∧ ∀ i (h : i < m.eras.length), erC ds cop m.eras[i] m.eras.length i (prevC m.eras i)
section
variable {ds : List Int} {cop sure : Int} {g : Rg} {r : Rr} {list : List Aw}
end
def ApV (w : World) (base : Nat) (v : Value) (ms : List Ev) : Prop := ApR 143 3 Ev.cl w base v ms
def AnsV (w : World) (m : Rr) (e : Ending) (w' : World) : Prop := ∃ (a : Option Addr) (c : Nat), e = .returned (.agg #[.int .i64 m.epoch, .int .i64 m.off, .slice a m.out.length c]) ∧ ApV w' w.heap.size (.slice a m.out.length c) m.out ∧ Below w.heap.size w w'
def NAp (w : World) (base : Nat) (v : Value) (ms : List Er) : Prop :=
 ∃ rs : List (Nst Er), rs.map Nst.m = ms ∧ ApR 137 3 erCl w base v rs ∧ (∀ p ∈ rs, OwnN w base (Sv Er.nodes p) p.m.nodes) ∧
  (∀ i j (hi : i < rs.length) (hj : j < rs.length), i ≠ j → rs[i].m.nodes = [] ∨ rs[j].m.nodes = [] ∨ bO (Sv Er.nodes rs[i]) ≠ bO (Sv Er.nodes rs[j])) ∧ ∀ i (hi : i < rs.length), rs[i].m.nodes = [] ∨ touch v ≠ some (bO (Sv Er.nodes rs[i]))
theorem NAp.nil (w : World) (base : Nat) (a : Option Addr) : NAp w base (.slice a 0 0) [] := ⟨[], rfl, .inl ⟨rfl, a, rfl⟩, (fun p h => by cases h), (fun i j hi => by simp at hi), fun i hi => by simp at hi⟩
theorem NAp.below {w w' : World} {base : Nat} {v : Value} {ms : List Er} (h : NAp w base v ms) (hb : Below w.heap.size w w') : NAp w' base v ms := by
 obtain ⟨rs, h1, h2, h3, h4, h5⟩ := h
 exact ⟨rs, h1, h2.below hb, fun p hp => (h3 p hp).below hb, h4, h5⟩
theorem NAp.mono {w : World} {base base' : Nat} {v : Value} {ms : List Er} (h : NAp w base v ms) (hb : base' ≤ base) : NAp w base' v ms := by
 obtain ⟨rs, h1, h2, h3, h4, h5⟩ := h
 exact ⟨rs, h1, h2.mono hb, fun p hp => (h3 p hp).mono hb, h4, h5⟩
theorem NAp.far {w : World} {base b o : Nat} {v : Value} {ms : List Er} (h : NAp w base v ms) (hb : b < base) (u : Value) : NAp (w.setCell ⟨b, o, none⟩ u) base v ms := by
 obtain ⟨rs, h1, h2, h3, h4, h5⟩ := h
 exact ⟨rs, h1, ApR.far elemR h2 hb u, fun p hp => (h3 p hp).far hb u, h4, h5⟩
theorem NAp.slice {w : World} {base : Nat} {v : Value} {ms : List Er} (h : NAp w base v ms) : ∃ a c, v = .slice a ms.length c := by
 obtain ⟨rs, h1, h2, -⟩ := h
 obtain ⟨a, c, e⟩ := ApR.slice elemR h2
 exact ⟨a, c, by rw [e, ← h1, List.length_map]⟩
theorem NAp.touched {w : World} {base : Nat} {v : Value} {ms : List Er} (h : NAp w base v ms) {k : Nat} (hk : touch v = some k) : base ≤ k ∧ k < w.heap.size := by
 obtain ⟨rs, h1, h2, -⟩ := h
 exact h2.touched elemR hk
theorem NAp.pushX {wr w4 w5 : World} {base : Nat} {v v' : Value} {ms : List Er} {p : Nst Er} {rs : List (Nst Er)} (h1 : rs.map Nst.m = ms) (h2 : ApR 137 3 erCl wr base v rs) (h3 : ∀ p ∈ rs, OwnN wr base (Sv Er.nodes p) p.m.nodes)
  (h4 : ∀ i j (hi : i < rs.length) (hj : j < rs.length), i ≠ j → rs[i].m.nodes = [] ∨ rs[j].m.nodes = [] ∨ bO (Sv Er.nodes rs[i]) ≠ bO (Sv Er.nodes rs[j])) (h5 : ∀ i (hi : i < rs.length), rs[i].m.nodes = [] ∨ touch v ≠ some (bO (Sv Er.nodes rs[i])))
  (hw : ∀ p ∈ rs, OwnN w4 base (Sv Er.nodes p) p.m.nodes) (hsz : wr.heap.size ≤ w4.heap.size) (hbw : base ≤ wr.heap.size) (ho : OwnN w4 wr.heap.size (Sv Er.nodes p) p.m.nodes)
  (hP : ApR 137 3 erCl w5 base v' (rs ++ [p])) (hg : w4.grownBy w5 (touch v)) (ht : touch v' = touch v ∨ ∀ k, touch v' = some k → w4.heap.size ≤ k) :
  (rs ++ [p]).map Nst.m = ms ++ [p.m] ∧ ApR 137 3 erCl w5 base v' (rs ++ [p]) ∧ (∀ q ∈ rs ++ [p], OwnN w5 base (Sv Er.nodes q) q.m.nodes) ∧
   (∀ i j (hi : i < (rs ++ [p]).length) (hj : j < (rs ++ [p]).length), i ≠ j → (rs ++ [p])[i].m.nodes = [] ∨ (rs ++ [p])[j].m.nodes = [] ∨ bO (Sv Er.nodes (rs ++ [p])[i]) ≠ bO (Sv Er.nodes (rs ++ [p])[j])) ∧ ∀ i (hi : i < (rs ++ [p]).length), (rs ++ [p])[i].m.nodes = [] ∨ touch v' ≠ some (bO (Sv Er.nodes (rs ++ [p])[i])) := by
 have tv : ∀ k, touch v = some k → k < wr.heap.size := fun k hk => (h2.touched elemR hk).2
 have new : p.m.nodes = [] ∨ touch v ≠ some (bO (Sv Er.nodes p)) := by
  rcases ho.ge with h | h
  ·exact .inl h
  ·right
   intro e
   have := tv _ e
   omega
 have old : ∀ i (hi : i < rs.length), rs[i].m.nodes = [] ∨ bO (Sv Er.nodes rs[i]) < wr.heap.size := fun i hi => (h3 _ (List.getElem_mem hi)).bs.lt
 refine ⟨by rw [List.map_append, h1]; rfl, hP, fun q hq => ?_, fun i j hi hj hij => ?_, fun i hi => ?_⟩
 ·rcases List.mem_append.1 hq with hq | hq
  ·obtain ⟨i, hi, rfl⟩ := List.mem_iff_getElem.1 hq
   exact (hw _ hq).grown hg (h5 i hi)
  ·obtain rfl : q = p := by simpa using hq
   exact (ho.mono hbw).grown hg new
 ·have hl : (rs ++ [p]).length = rs.length + 1 := by simp
  by_cases e1 : i < rs.length
  ·by_cases e2 : j < rs.length
   ·simp only [List.getElem_append_left e1, List.getElem_append_left e2]
    exact h4 i j e1 e2 hij
   ·have e3 : j = rs.length := by omega
    subst e3
    simp only [List.getElem_append_left e1, List.getElem_concat_length]
    rcases old i e1 with h | h
    ·exact .inl h
    ·rcases ho.ge with h' | h'
     ·exact .inr (.inl h')
     ·exact .inr (.inr (by omega))
  ·have e3 : i = rs.length := by omega
   subst e3
   have e2 : j < rs.length := by omega
   simp only [List.getElem_append_left e2, List.getElem_concat_length]
   rcases old j e2 with h | h
   ·exact .inr (.inl h)
   ·rcases ho.ge with h' | h'
    ·exact .inl h'
    ·exact .inr (.inr (by omega))
 ·have hl : (rs ++ [p]).length = rs.length + 1 := by simp
  by_cases e1 : i < rs.length
  ·simp only [List.getElem_append_left e1]
   rcases ht with ht | ht
   ·rw [ht]; exact h5 i e1
   ·rcases old i e1 with h | h
    ·exact .inl h
    ·right
     intro e
     have := ht _ e
     omega
  ·have e3 : i = rs.length := by omega
   subst e3
   simp only [List.getElem_concat_length]
   rcases ht with ht | ht
   ·rw [ht]; exact new
   ·rcases ho.bs.lt with h | h
    ·exact .inl h
    ·right
     intro e
     have := ht _ e
     omega
theorem NAp.push {wr w4 w5 : World} {base : Nat} {v v' : Value} {ms : List Er} {p : Nst Er} {rs : List (Nst Er)} (h1 : rs.map Nst.m = ms) (h2 : ApR 137 3 erCl wr base v rs) (h3 : ∀ p ∈ rs, OwnN wr base (Sv Er.nodes p) p.m.nodes)
  (h4 : ∀ i j (hi : i < rs.length) (hj : j < rs.length), i ≠ j → rs[i].m.nodes = [] ∨ rs[j].m.nodes = [] ∨ bO (Sv Er.nodes rs[i]) ≠ bO (Sv Er.nodes rs[j])) (h5 : ∀ i (hi : i < rs.length), rs[i].m.nodes = [] ∨ touch v ≠ some (bO (Sv Er.nodes rs[i])))
  (hw : ∀ p ∈ rs, OwnN w4 base (Sv Er.nodes p) p.m.nodes) (hsz : wr.heap.size ≤ w4.heap.size) (hbw : base ≤ wr.heap.size) (ho : OwnN w4 wr.heap.size (Sv Er.nodes p) p.m.nodes)
  (hP : ApR 137 3 erCl w5 base v' (rs ++ [p])) (hg : w4.grownBy w5 (touch v)) (ht : touch v' = touch v ∨ ∀ k, touch v' = some k → w4.heap.size ≤ k) : NAp w5 base v' (ms ++ [p.m]) := ⟨rs ++ [p], NAp.pushX h1 h2 h3 h4 h5 hw hsz hbw ho hP hg ht⟩
def wdP (ds : List Int) (cop : Int) (e : Wd) : Prop := e.data.size ≤ 40 ∧ nodesP ds cop e.acks ∧ (holdsP ds cop e.acks ↔ e.done = true)
def openN (ms : List Wd) : Nat := ms.countP (fun e => !e.done)
theorem openN_step (ms : List Wd) (k : Nat) (h : k < ms.length) : openN (ms.take (k + 1)) = openN (ms.take k) + (if ms[k].done then 0 else 1) := by
 unfold openN
 rw [List.take_succ_eq_append_getElem h, List.countP_append]
 cases hd : ms[k].done <;> simp [hd]
def wrP (ds : List Int) (cop : Int) (m : Wt) : Prop := cfgP ds cop ∧ (1 ≤ m.epoch ∧ m.epoch ≤ 30) ∧ m.words.length ≤ 60 ∧ (∀ i (h : i < m.words.length), wdP ds cop m.words[i]) ∧ openN m.words ≤ 6
def nilSt (s : St) : Prop := s.kept.length = 0 ∧ s.late.length = 0 ∧ s.lock = 0
def nodP (m : Wo) : Prop := cfgP m.cfg.1 m.cfg.2 ∧ m.stores.length = m.cfg.1.length ∧ nodesP m.cfg.1 m.cfg.2 m.lost ∧ (holdsP m.cfg.1 m.cfg.2 m.lost → m.torn = true) ∧ ∀ i (h : i < m.stores.length), stP m.stores[i] ∧ ((i : Int) ∈ m.lost → nilSt m.stores[i])
def wriP (m : Wo) (i : Nat) (h : i < m.writers.length) : Prop := wrP m.cfg.1 m.cfg.2 m.writers[i] ∧ m.writers[i].epoch ≤ (m.reg.eras.length : Int) ∧ (0 < i → (m.writers[i - 1]'(by omega)).epoch < m.writers[i].epoch)
def epoP (m : Wo) : Prop := regP m.cfg.1 m.cfg.2 m.reg ∧ m.writers.length ≤ 4 ∧ m.mends.length ≤ 1 ∧ (∀ i (h : i < m.writers.length), wriP m i h) ∧ ∀ i (h : i < m.mends.length), mnP m.cfg.1 m.cfg.2 m.mends[i] ∧ m.mends[i].bye = (m.reg.eras.length : Int) ∧ m.mends[i].epoch = (firstO m.reg.eras : Int)
def senQ (m : Wo) (i : Nat) (h : i < m.sent.length) : Prop := plIn m.reg.eras.length m.sent[i].pl ∧ m.sent[i].data.size ≤ 40 ∧ (0 < i → (m.sent[i - 1]'(by omega)).pl < m.sent[i].pl)
def senP (m : Wo) : Prop := m.sent.length ≤ 120 ∧ ∀ i (h : i < m.sent.length), senQ m i h
def reaP (m : Wo) : Prop := m.readers.length = 2 ∧ ∀ x ∈ m.readers, rrP x
def woP (m : Wo) : Prop := nodP m ∧ epoP m ∧ reaP m ∧ senP m
def ivS (m : Wo) : Prop := m.stores.length = m.cfg.1.length ∧ ∀ x ∈ m.stores, stP x
def ivL (m : Wo) : Prop := nodesP m.cfg.1 m.cfg.2 m.lost ∧ ∀ x ∈ m.lost, nilSt (m.stores.getD x.toNat ⟨[], [], 0⟩)
def ivT (m : Wo) : Prop := m.torn = true ∨ ¬ holdsP m.cfg.1 m.cfg.2 m.lost
def ascBy {α : Type} (f : α → Int) (l : List α) : Prop := ∀ i (h : i + 1 < l.length), f l[i] < f l[i + 1]
def ivW (m : Wo) : Prop := m.writers.length ≤ 4 ∧ ascBy Wt.epoch m.writers ∧ ∀ x ∈ m.writers, (1 ≤ x.epoch ∧ x.epoch ≤ (m.reg.eras.length : Int)) ∧ wrP m.cfg.1 m.cfg.2 x
def ivM (m : Wo) : Prop := m.mends.length ≤ 1 ∧ ∀ x ∈ m.mends, x.bye = (m.reg.eras.length : Int) ∧ x.epoch = (firstO m.reg.eras : Int) ∧ mnP m.cfg.1 m.cfg.2 x
def ivX (m : Wo) : Prop := m.sent.length ≤ 120 ∧ ascBy Se.pl m.sent ∧ ∀ x ∈ m.sent, plIn m.reg.eras.length x.pl ∧ x.data.size ≤ 40
theorem nodes_in {ds : List Int} {cop : Int} {xs : List Int} (h : nodesP ds cop xs) : ∀ x ∈ xs, 0 ≤ x ∧ x < (ds.length : Int) := fun x hx => by
 obtain ⟨i, hi, rfl⟩ := List.getElem_of_mem hx
 have := h.2 i hi
 omega
theorem woP_iff (m : Wo) : woP m ↔ cfgP m.cfg.1 m.cfg.2 ∧ ivS m ∧ ivL m ∧ ivT m ∧ regP m.cfg.1 m.cfg.2 m.reg ∧ ivW m ∧ ivM m ∧ reaP m ∧ ivX m := by
 constructor
 ·rintro ⟨⟨c, sl, nd, ho, st⟩, ⟨rg, w4, m1, wr, mn⟩, re, s1, sn⟩
  refine ⟨c, ⟨sl, fun x hx => ?_⟩, ⟨nd, fun x hx => ?_⟩, ?_, rg, ⟨w4, fun i hi => ?_, fun x hx => ?_⟩, ⟨m1, fun x hx => ?_⟩, re, s1, fun i hi => ?_, fun x hx => ?_⟩
  ·obtain ⟨i, hi, rfl⟩ := List.getElem_of_mem hx
   exact (st i hi).1
  ·obtain ⟨q0, q1⟩ := nodes_in nd x hx
   have hi : x.toNat < m.stores.length := by omega
   rw [List.getD_eq_getElem?_getD, List.getElem?_eq_getElem hi]
   exact (st x.toNat hi).2 (by rw [Int.toNat_of_nonneg q0]; exact hx)
  ·by_cases h : holdsP m.cfg.1 m.cfg.2 m.lost
   ·exact .inl (ho h)
   ·exact .inr h
  ·exact (wr (i + 1) hi).2.2 (by omega)
  ·obtain ⟨i, hi, rfl⟩ := List.getElem_of_mem hx
   exact ⟨⟨(wr i hi).1.2.1.1, (wr i hi).2.1⟩, (wr i hi).1⟩
  ·obtain ⟨i, hi, rfl⟩ := List.getElem_of_mem hx
   exact ⟨(mn i hi).2.1, (mn i hi).2.2, (mn i hi).1⟩
  ·exact (sn (i + 1) hi).2.2 (by omega)
  ·obtain ⟨i, hi, rfl⟩ := List.getElem_of_mem hx
   exact ⟨(sn i hi).1, (sn i hi).2.1⟩
 ·rintro ⟨c, ⟨sl, st⟩, ⟨nd, lz⟩, tn, rg, ⟨w4, wa, wr⟩, ⟨m1, mn⟩, re, s1, sa, sn⟩
  refine ⟨⟨c, sl, nd, fun h => ?_, fun i hi => ⟨st _ (List.getElem_mem hi), fun hl => ?_⟩⟩, ⟨rg, w4, m1, fun i hi => ⟨(wr _ (List.getElem_mem hi)).2, (wr _ (List.getElem_mem hi)).1.2, fun h0 => ?_⟩, fun i hi => ?_⟩, re, s1, fun i hi => ⟨(sn _ (List.getElem_mem hi)).1, (sn _ (List.getElem_mem hi)).2, fun h0 => ?_⟩⟩
  ·exact tn.resolve_right fun hn => hn h
  ·have := lz _ hl
   rw [List.getD_eq_getElem?_getD, Int.toNat_natCast, List.getElem?_eq_getElem hi] at this
   exact this
  ·obtain ⟨k, rfl⟩ : ∃ k, i = k + 1 := ⟨i - 1, by omega⟩
   exact wa k hi
  ·have := mn _ (List.getElem_mem hi)
   exact ⟨this.2.2, this.1, this.2.1⟩
  ·obtain ⟨k, rfl⟩ : ∃ k, i = k + 1 := ⟨i - 1, by omega⟩
   exact sa k hi
set_option maxHeartbeats 2000000 in
theorem isZero_any (v : Value) (s : St) (w : World) (hv : RdStore v s w) :
  Calls Tryz.prog 69 #[v] w fun e w' => RetB (nilSt s) e ∧ Below w.heap.size w w' := by
 obtain ⟨ka, kc, la, lc, rfl, -, -⟩ := formStore hv
 have ba : ∀ (w : World) o, Below w.heap.size w (w.alloc o) := fun w o => (Below.refl _ _).alloc (Nat.le_refl _) o
 have PD : Hid (nilSt s ↔ (s.kept.length : Int) = 0 ∧ (s.late.length : Int) = 0 ∧ s.lock = 0) := by unfold nilSt Hid; omega
 generalize nilSt s = P at *
 generalize s.kept.length = n1 at *
 generalize s.late.length = n2 at *
 generalize s.lock = n3 at *
 clear hv
 by_cases d1 : (n1 : Int) = 0
 ·by_cases d2 : (n2 : Int) = 0
  ·by_cases d3 : n3 = 0
   ·have R := RetB.yes ((dU PD).2 ⟨d1, d2, d3⟩)
    clear PD
    go_enter Tryz.func69, Tryz.ntmps69
    go_wp2
    go_ret
    exact ⟨R, ba w _⟩
   ·have R : RetB P (.returned (.bool (n3 == 0))) := by
     rw [show (n3 == 0) = false from by simpa using d3]
     exact RetB.no (fun h => d3 ((dU PD).1 h).2.2)
    clear PD
    go_enter Tryz.func69, Tryz.ntmps69
    go_wp2
    go_ret
    exact ⟨R, ba w _⟩
  ·have R := RetB.no (fun h => d2 ((dU PD).1 h).2.1)
   clear PD
   go_enter Tryz.func69, Tryz.ntmps69
   go_wp2
   go_ret
   exact ⟨R, ba w _⟩
 ·have R := RetB.no (fun h => d1 ((dU PD).1 h).1)
  clear PD
  go_enter Tryz.func69, Tryz.ntmps69
  go_wp2
  go_ret
  exact ⟨R, ba w _⟩
end Go.Proofs.YtodfgehicpejgaaGreatDoor
