/- Several texts in one: SitT, DrawB, IdxP, MnF, AtB, BigB. -/
import Derived.Test.YtodfgehicpejgaaGreatDoorGk151
import Derived.Test.YtodfgehicpejgaaGreatDoorGk185
import Derived.Test.YtodfgehicpejgaaGreatDoorGk172
namespace Go.Proofs.YtodfgehicpejgaaGreatDoor
open Go.ChangeShapes Go.WideShapes Go.ChangeAt Go.RowKit
set_option linter.unusedSimpArgs false
set_option linter.unusedVariables false
set_option maxRecDepth 100000
def mkF (k0 : Nat) (rs : List (Nst Er)) (k : Nat) (i : Nat) : Nst Er :=
 if i < k then ⟨(rs.getD i zeroEr).a, (rs.getD i zeroEr).c, mkEr (k0 + cntEraS ((rs.map Nst.m).take i)) (rs.getD i zeroEr).m⟩ else rs.getD i zeroEr
theorem mkF_nodes (k0 : Nat) (rs : List (Nst Er)) (k i : Nat) : (mkF k0 rs k i).m.nodes.length = (rs.getD i zeroEr).m.nodes.length ∧ Sv Er.nodes (mkF k0 rs k i) = Sv Er.nodes (rs.getD i zeroEr) := by
 unfold mkF
 split
 ·have e : (mkEr (k0 + cntEraS ((rs.map Nst.m).take i)) (rs.getD i zeroEr).m).nodes.length = (rs.getD i zeroEr).m.nodes.length := marksN_len _ _
  refine ⟨e, ?_⟩
  unfold Sv
  simp only [e]
 ·exact ⟨rfl, rfl⟩
def MarkK (lo hi k0 : Nat) (w wr : World) (b off : Nat) (rs : List (Nst Er)) (k : Nat) : Prop :=
 RowG 3 erCl wr b off rs.length (mkF k0 rs k) ∧ (∀ i, i < rs.length → OwN lo hi (Sv Er.nodes (mkF k0 rs k i)) (mkF k0 rs k i).m.nodes wr) ∧ Wr lo hi w wr ∧ hi ≤ wr.heap.size
theorem MarkK.step {lo hi k0 : Nat} {w wr w2 : World} {b off k : Nat} {rs : List (Nst Er)} {v : Value} (h : MarkK lo hi k0 w wr b off rs k) (hk : k < rs.length) (hb1 : lo ≤ b) (hb2 : b < hi) (hA : Apart Er.nodes v rs) (hv : bO v = b)
  (hO : OwN lo hi (Sv Er.nodes rs[k]) (marksN (k0 + cntEraS ((rs.map Nst.m).take k)) rs[k].m.nodes.length) w2) (b1 b2 : Nat) (hW : Wr b1 b2 wr w2) (hd : (rs[k].m.nodes = [] ∧ b1 = 0 ∧ b2 = 0) ∨ (rs[k].m.nodes ≠ [] ∧ b1 = bO (Sv Er.nodes rs[k]) ∧ b2 = bO (Sv Er.nodes rs[k]) + 1)) (hW' : Wr lo hi wr w2) :
  RowG 3 erCl w2 b off rs.length (mkF k0 rs k) ∧ MarkK lo hi k0 w ((w2.setCell ⟨b, off + k * 3 + 1, none⟩ (.bool ((k0 + cntEraS ((rs.map Nst.m).take k) + rs[k].m.nodes.length) % 3 == 0))).setCell ⟨b, off + k * 3 + 2, none⟩ (.int .i64 ((k0 + cntEraS ((rs.map Nst.m).take k) + rs[k].m.nodes.length + 1 : Nat) : Int))) b off rs (k + 1) := by
 obtain ⟨h1, h2, h3, h4⟩ := h
 have ek : mkF k0 rs k k = rs[k] := by unfold mkF; rw [if_neg (by omega), getD_lt _ hk]
 have ek1 : mkF k0 rs (k + 1) k = ⟨rs[k].a, rs[k].c, mkEr (k0 + cntEraS ((rs.map Nst.m).take k)) rs[k].m⟩ := by unfold mkF; rw [if_pos (by omega), getD_lt _ hk]
 have ei : ∀ i, i ≠ k → mkF k0 rs (k + 1) i = mkF k0 rs k i := fun i hi => by
  unfold mkF
  by_cases e : i < k
  ·rw [if_pos (by omega), if_pos e]
  ·rw [if_neg (by omega), if_neg e]
 have hR : RowG 3 erCl w2 b off rs.length (mkF k0 rs k) := h1.wr hW (by
  rcases hd with ⟨-, rfl, rfl⟩ | ⟨hn, rfl, rfl⟩
  ·exact .inr (Nat.zero_le _)
  ·have := (hA.2 k hk).resolve_left hn
   omega)
 refine ⟨hR, ?_, fun i hil => ?_, ?_, ?_⟩
 ·have r1 := hR.put erCl_len hk 1 (by decide) (.bool ((k0 + cntEraS ((rs.map Nst.m).take k) + rs[k].m.nodes.length) % 3 == 0)) ⟨rs[k].a, rs[k].c, ⟨marksN (k0 + cntEraS ((rs.map Nst.m).take k)) rs[k].m.nodes.length, _, rs[k].m.last⟩⟩ (by rw [ek]; unfold erCl Sv; simp only [marksN_len]; rfl)
  have r2 := r1.put erCl_len hk 2 (by decide) (.int .i64 ((k0 + cntEraS ((rs.map Nst.m).take k) + rs[k].m.nodes.length + 1 : Nat) : Int)) ⟨rs[k].a, rs[k].c, mkEr (k0 + cntEraS ((rs.map Nst.m).take k)) rs[k].m⟩ (by rw [putG_same]; rfl)
  rw [putG_twice] at r2
  refine r2.congr fun i hi => ?_
  by_cases e : i = k
  ·subst e
   rw [putG_same, ek1]
  ·rw [putG_ne _ _ e, ei i e]
 ·have far : ∀ {v : Value} {xs : List Int} (u u' : Value), OwN lo hi v xs w2 → (xs = [] ∨ bO v ≠ b) → OwN lo hi v xs ((w2.setCell ⟨b, off + k * 3 + 1, none⟩ u).setCell ⟨b, off + k * 3 + 2, none⟩ u') := fun {v xs} u u' q hb => (q.putW hb _).putW hb _
  by_cases e : i = k
  ·subst e
   have eS := (mkF_nodes k0 rs (i + 1) i).2
   rw [getD_lt _ hk] at eS
   rw [eS, ek1]
   refine far _ _ hO ?_
   rcases hA.2 i hk with h | h
   ·left
    exact (nil_of_len (marksN_len _ _)).2 h
   ·right
    rw [← hv]; exact h
  ·rw [ei i e]
   obtain ⟨eN, eS⟩ := mkF_nodes k0 rs k i
   rw [getD_lt _ hil] at eN eS
   have q := h2 i hil
   have q1 : OwN lo hi (Sv Er.nodes (mkF k0 rs k i)) (mkF k0 rs k i).m.nodes w2 := q.wr hW (by
    rcases hd with ⟨-, rfl, rfl⟩ | ⟨hn, rfl, rfl⟩
    ·exact .inr (.inr (Nat.zero_le _))
    ·rcases hA.1 i k hil hk e with h | h | h
     ·exact .inl ((nil_of_len eN).2 h)
     ·exact absurd h hn
     ·rw [eS]
      exact .inr (by omega))
   refine far _ _ q1 ?_
   rcases hA.2 i hil with h | h
   ·exact .inl ((nil_of_len eN).2 h)
   ·right
    rw [eS, ← hv]; exact h
 ·exact ((h3.trans hW').setW hb1 hb2 _).setW hb1 hb2 _
 ·have := hW'.size
  simp
  omega
set_option maxHeartbeats 400000 in
theorem l1PickInt_any (bk b off cap : Nat) (vs : List Int) (w : World) (h1 : 1 ≤ vs.length) (h2 : vs.length ≤ 1000000) (hv : ∀ i (h : i < vs.length), w.cell? ⟨b, off + i, none⟩ = some (.int .i64 vs[i])) (hb : b ≠ bk) (hc : Cur w bk) :
  Calls Tryz.prog 36 #[.pointer (some ⟨bk, 0, none⟩), .slice (some ⟨b, off, none⟩) vs.length cap] w fun e w' => (∃ v, v ∈ vs ∧ e = .returned (.int .i64 v)) ∧ Cur w' bk ∧ Drawn bk w w' := by
 have HV := dH hv
 clear hv
 go_enter Tryz.func36, Tryz.ntmps36
 go_wp2_with fail
 refine (l1Below_any bk vs.length h1 (by omega) w hc).mono ?_
 rintro e w1 ⟨⟨x, hx, rfl⟩, hc1, hd1⟩
 have hcell := hd1.cell (dU HV x hx) hb
 have hm := List.getElem_mem hx
 generalize vs[x] = v at *
 go_wp2
 go_ret
 exact ⟨⟨v, hm, rfl⟩, hc1, hd1⟩
theorem l1Once_any (bk n : Nat) (h1 : 1 ≤ n) (h2 : n ≤ 1000000) (w : World) (hc : Cur w bk) :
  Calls Tryz.prog 93 #[.pointer (some ⟨bk, 0, none⟩), .int .i64 n] w fun e w' => (∃ b : Bool, e = .returned (.bool b)) ∧ Cur w' bk ∧ Drawn bk w w' := by
 go_enter Tryz.func93, Tryz.ntmps93
 go_wp2_with fail
 refine (l1Below_any bk n h1 (by omega) w hc).mono ?_
 rintro e w1 ⟨⟨x, hx, rfl⟩, hc1, hd1⟩
 go_wp2
 go_ret
 exact ⟨⟨_, rfl⟩, hc1, hd1⟩
theorem pick_new {bk : Nat} {w : World} (hc : Cur w bk) (vs : List Int) (T : TypeId) (h1 : 1 ≤ vs.length) (h2 : vs.length ≤ 1000000) (cap : Nat) :
  Calls Tryz.prog 36 #[.pointer (some ⟨bk, 0, none⟩), .slice (some ⟨w.heap.size, 0, none⟩) vs.length cap] (w.alloc (.cells (vs.map (Value.int .i64)).toArray T)) fun e w' => (∃ v, v ∈ vs ∧ e = .returned (.int .i64 v)) ∧ Cur w' bk ∧ Drawn bk w w' := by
 have hb : Below w.heap.size w (w.alloc (.cells (vs.map (Value.int .i64)).toArray T)) := (Below.refl _ _).alloc (Nat.le_refl _) _
 have hlt := hc.lt
 refine (l1PickInt_any bk w.heap.size 0 cap vs _ h1 h2 (fun i h => ?_) (by omega) (hc.below hb)).mono fun e w' ⟨h, k, d⟩ => ⟨h, k, (Drawn.of_below hb).trans d⟩
 simp
def idxL {α : Type} (q : α → Bool) : List α → Int
 | [] => -1
 | e :: l => if q e then 0 else (if idxL q l = -1 then -1 else idxL q l + 1)
theorem idxL_ge {α : Type} (q : α → Bool) : ∀ l : List α, -1 ≤ idxL q l ∧ idxL q l < l.length
 | [] => by simp [idxL]
 | e :: l => by
  have := idxL_ge q l
  unfold idxL
  split
  ·simp <;> omega
  ·split <;> simp <;> omega
theorem idxL_none {α : Type} (q : α → Bool) : ∀ l : List α, (∀ i (h : i < l.length), q l[i] = false) → idxL q l = -1
 | [], _ => rfl
 | e :: l, h => by
  have h0 : q e = false := h 0 (by simp)
  have h1 := idxL_none q l fun i hi => h (i + 1) (by simpa using hi)
  unfold idxL
  rw [h0, h1]
  rfl
theorem idxL_at {α : Type} (q : α → Bool) : ∀ (l : List α) (k : Nat) (hk : k < l.length), (∀ i (h : i < l.length), i < k → q l[i] = false) → q l[k] = true → idxL q l = (k : Int)
 | [], k, hk, _, _ => by simp at hk
 | e :: l, 0, hk, _, ho => by
  have h0 : q e = true := ho
  unfold idxL
  rw [h0]
  rfl
 | e :: l, k + 1, hk, h, ho => by
  have h0 : q e = false := h 0 (by simp) (by omega)
  have h1 := idxL_at q l k (by simpa using hk) (fun i hi hik => h (i + 1) (by simpa using hi) (by omega)) (by simpa using ho)
  unfold idxL
  rw [h0, h1, if_neg (by simp), if_neg (by omega)]
  omega
theorem idxL_neg {α : Type} {q : α → Bool} {l : List α} : idxL q l = -1 ↔ ∀ e ∈ l, q e = false := by
 induction l with
 | nil => simp [idxL]
 | cons e l ih =>
  have hg := idxL_ge q l
  unfold idxL
  cases hq : q e with
  | true => simp [hq]
  | false =>
   rw [if_neg (by simp)]
   by_cases h : idxL q l = -1
   ·rw [if_pos h]
    simp only [List.mem_cons, true_iff]
    rintro x (rfl | hx)
    ·exact hq
    ·exact ih.1 h x hx
   ·rw [if_neg h]
    constructor
    ·intro h'; omega
    ·intro h'
     exact absurd (ih.2 fun x hx => h' x (List.mem_cons_of_mem _ hx)) h
theorem list2_of {α : Type} {l : List α} (h : l.length = 2) : ∃ a b, l = [a, b] := match l, h with | [a, b], _ => ⟨a, b, rfl⟩
theorem list3_of {α : Type} {l : List α} (h : l.length = 3) : ∃ a b c, l = [a, b, c] := match l, h with | [a, b, c], _ => ⟨a, b, c, rfl⟩
theorem list6_of {α : Type} {l : List α} (h : l.length = 6) : ∃ a b c d e f, l = [a, b, c, d, e, f] := match l, h with | [a, b, c, d, e, f], _ => ⟨a, b, c, d, e, f, rfl⟩
theorem idxL_some {α : Type} (q : α → Bool) (l : List α) : RetB (∃ e ∈ l, q e = true) (.returned (.bool (decide (0 ≤ idxL q l)))) := ⟨_, rfl, by
 have hg := idxL_ge q l
 rw [decide_eq_true_iff]
 constructor
 ·intro h
  apply Classical.byContradiction
  intro hno
  have : idxL q l = -1 := idxL_neg.2 fun e he => by
   cases hqe : q e with
   | false => rfl
   | true => exact absurd ⟨e, he, hqe⟩ hno
  omega
 ·rintro ⟨e, he, hqe⟩
  apply Classical.byContradiction
  intro hno
  have h1 : idxL q l = -1 := by omega
  have := idxL_neg.1 h1 e he
  rw [hqe] at this
  cases this⟩
theorem all_not {α : Type} {q : α → Bool} {l : List α} {b : Bool} (h : b = true ↔ ∃ x ∈ l, (!(q x)) = true) : RetB (∀ x ∈ l, q x = true) (.returned (.bool (!b))) := ⟨_, rfl, by
 cases b with
 | true =>
  obtain ⟨x, hx, hq⟩ := h.1 rfl
  constructor
  ·intro h; cases h
  ·intro h'; rw [h' x hx] at hq; cases hq
 | false =>
  constructor
  ·intro _ x hx
   cases hq : q x with
   | true => rfl
   | false => exact absurd (h.2 ⟨x, hx, by rw [hq]; rfl⟩) (by simp)
  ·intro _; rfl⟩
noncomputable def bq (p : Prop) : Bool := @decide p (Classical.propDecidable p)
theorem bq_iff (p : Prop) : bq p = true ↔ p := @decide_eq_true_iff p (Classical.propDecidable p)
theorem RetB.bq {p : Prop} {e : Ending} (h : RetB p e) : e = .returned (.bool (bq p)) := by
 obtain ⟨b, rfl, h⟩ := h
 have : b = Go.Proofs.YtodfgehicpejgaaGreatDoor.bq p := by
  cases b with
  | true => exact ((bq_iff p).2 (h.1 rfl)).symm
  | false =>
   cases e : Go.Proofs.YtodfgehicpejgaaGreatDoor.bq p with
   | false => rfl
   | true => exact absurd (h.2 ((bq_iff p).1 e)) (by simp)
 rw [this]
theorem RetB.to {α : Type} {l : List α} {q : α → Bool} {Q : α → Prop} {e : Ending} (h : RetB (∀ x ∈ l, q x = true) e) (hq : ∀ x, q x = true ↔ Q x) : RetB (∀ x ∈ l, Q x) e := by
 obtain ⟨b, rfl, h⟩ := h
 exact ⟨b, rfl, h.trans ⟨fun h x hx => (hq x).1 (h x hx), fun h x hx => (hq x).2 (h x hx)⟩⟩
set_option maxHeartbeats 2000000 in
theorem indexFuncL_any (v : Value) (rs : List (Nst (List Int))) (F : Nat) (caps : Array Value) (q : List Int → Bool) (w : World) (hF : ∀ args w, (callFunc F args).run Tryz.prog w = .ok (.enter F args) w) (hr : Rw 1 lsCl w v rs)
  (hq : ∀ W, Below w.heap.size w W → ∀ k (hk : k < rs.length), Calls Tryz.prog F (#[.slice rs[k].a rs[k].m.length rs[k].c] ++ caps) W fun e w' => e = .returned (.bool (q rs[k].m)) ∧ Below W.heap.size W w') :
  Calls Tryz.prog 315 #[v, .func (.func F) #[] caps] w fun e w' => e = .returned (.int .i64 (idxL q (rs.map Nst.m))) ∧ Below w.heap.size w w' := by
 have HV := dH fun W (hb : Below w.heap.size w W) => hr.below hb
 have HQ := dH hq
 have hl0 := hr.1
 obtain ⟨-, a, cap, rfl, -, -⟩ := hr
 have FN : Hid ((∀ i (h : i < rs.length), q rs[i].m = false) → idxL q (rs.map Nst.m) = -1) := fun h => idxL_none _ _ fun i hi => by rw [List.getElem_map]; exact h i (by simpa using hi)
 have FA : Hid (∀ k (hk : k < rs.length), (∀ i (h : i < rs.length), i < k → q rs[i].m = false) → q rs[k].m = true → idxL q (rs.map Nst.m) = (k : Int)) := fun k hk h1 h2 => idxL_at _ _ k (by simpa using hk) (fun i hi hik => by rw [List.getElem_map]; exact h1 i (by simpa using hi) hik) (by rw [List.getElem_map]; exact h2)
 generalize idxL q (rs.map Nst.m) = M at *
 clear hq
 go_enter Tryz.func315, Tryz.ntmps315
 go_wp2
 go_loopw [8] (fun x wr => ∃ k : Nat, x = .int .i64 (k : Int) ∧ k ≤ rs.length ∧ Hid (∀ i (h : i < rs.length), i < k → q rs[i].m = false) ∧ Below w.heap.size w wr) (fun x _ => rs.length - (intOf x).toNat)
 case atStart => exact ⟨0, rfl, Nat.zero_le _, fun i h h' => by omega, Below.refl _ _⟩
 case round =>
  obtain ⟨k, rfl, hk, hc, hb⟩ := hrel
  by_cases hlt : (k : Int) < (rs.length : Int)
  ·have hkl : k < rs.length := by omega
   obtain ⟨b, off, rfl, he⟩ := (dU HV _ hb).ls hkl
   have c0 := he k hkl
   have CE := dH (dU HQ wr hb k hkl)
   cases hcl : q rs[k].m with
   | false =>
    rw [hcl] at CE
    have H2 : Hid (∀ i (h : i < rs.length), i < k + 1 → q rs[i].m = false) := fun i h hi => by
     by_cases e : i = k
     ·subst e; exact hcl
     ·exact dU hc i h (by omega)
    generalize rs[k] = y at *
    obtain ⟨ya, yc, yn⟩ := y
    simp only at *
    clear hc he
    go_wp2_with fail
    refine (dU CE).mono ?_
    rintro e w1 ⟨rfl, b1⟩
    clear CE c0
    go_wp2
    go_roundw
    case rel => exact ⟨k + 1, by go_num, by omega, H2, bT hb b1⟩
    case measure => simp [intOf]; omega
   | true =>
    rw [hcl] at CE
    have e1 := dU FA k hkl (dU hc) hcl
    subst e1
    generalize rs[k] = y at *
    obtain ⟨ya, yc, yn⟩ := y
    simp only at *
    clear hc he FN FA
    go_wp2_with fail
    refine (dU CE).mono ?_
    rintro e w1 ⟨rfl, b1⟩
    clear CE c0
    go_wp2
    go_ret
    exact ⟨rfl, bT hb b1⟩
  ·have e1 := dU FN fun i h => dU hc i h (by omega)
   subst e1
   clear hc FN FA
   go_wp2
   go_ret
   exact ⟨rfl, hb⟩
theorem containsFuncL_any (v : Value) (rs : List (Nst (List Int))) (F : Nat) (caps : Array Value) (q : List Int → Bool) (w : World) (hF : ∀ args w, (callFunc F args).run Tryz.prog w = .ok (.enter F args) w) (hr : Rw 1 lsCl w v rs) (hl : rs.length ≤ 1048576)
  (hq : ∀ W, Below w.heap.size w W → ∀ k (hk : k < rs.length), Calls Tryz.prog F (#[.slice rs[k].a rs[k].m.length rs[k].c] ++ caps) W fun e w' => e = .returned (.bool (q rs[k].m)) ∧ Below W.heap.size W w') :
  Calls Tryz.prog 288 #[v, .func (.func F) #[] caps] w fun e w' => RetB (∃ e ∈ rs.map Nst.m, q e = true) e ∧ Below w.heap.size w w' := by
 have C1 := dH (indexFuncL_any v rs F caps q w hF hr hq)
 have hg := idxL_ge q (rs.map Nst.m)
 have R : Hid (RetB (∃ e ∈ rs.map Nst.m, q e = true) (.returned (.bool (decide (0 ≤ idxL q (rs.map Nst.m)))))) := ⟨_, rfl, by
  rw [decide_eq_true_iff]
  constructor
  ·intro h
   apply Classical.byContradiction
   intro hno
   have : idxL q (rs.map Nst.m) = -1 := idxL_neg.2 fun e he => by
    cases hqe : q e with
    | false => rfl
    | true => exact absurd ⟨e, he, hqe⟩ hno
   omega
  ·rintro ⟨e, he, hqe⟩
   apply Classical.byContradiction
   intro hno
   have h1 : idxL q (rs.map Nst.m) = -1 := by omega
   have := idxL_neg.1 h1 e he
   rw [hqe] at this
   cases this⟩
 have hl2 : (rs.map Nst.m).length ≤ 1048576 := by simpa using hl
 generalize (rs.map Nst.m).length = n at *
 generalize idxL q (rs.map Nst.m) = M at *
 clear hF hr hq
 go_enter Tryz.func288, Tryz.ntmps288
 go_wp2_with fail
 refine (dU C1).mono ?_
 rintro e w1 ⟨rfl, b1⟩
 clear C1
 go_wp2
 go_ret
 exact ⟨dU R, b1⟩
theorem at_any (a : Option Addr) (len cap i : Nat) (hi : i ≤ 1000) (w : World) (hr : Row8 w a len) (hl : len ≤ 1099511627776) :
  Calls Tryz.prog 10 #[.slice a len cap, .int .i64 (i : Int)] w fun e w' => (∃ x : Int, 0 ≤ x ∧ x ≤ 255 ∧ e = .returned (.int .i64 x)) ∧ w = w' := by
 by_cases h : (i : Int) < (len : Int)
 ·obtain ⟨b, off, rfl, hv⟩ : ∃ b off, a = some ⟨b, off, none⟩ ∧ ∀ i : Nat, i < len → ∃ v : Int, 0 ≤ v ∧ v ≤ 255 ∧ w.cell? ⟨b, off + i, none⟩ = some (.int .u8 v) := by
   rcases hr.2 with h0 | h0
   ·omega
   ·exact h0
  obtain ⟨v, v0, v1, v2⟩ := hv i (by omega)
  clear hv hr
  go_enter Tryz.func10, Tryz.ntmps10
  go_wp2
  go_ret
  exact ⟨⟨v, v0, v1, rfl⟩, rfl⟩
 ·clear hr
  go_enter Tryz.func10, Tryz.ntmps10
  go_wp2
  go_ret
  exact ⟨⟨((i : Int) * 7 + len) % 256, by omega, by omega, rfl⟩, rfl⟩
theorem big_yes (a : Option Addr) (len cap : Nat) (h : 1048576 < len) (h' : len ≤ 9223372036854775807) (w : World) :
  Calls Tryz.prog 4 #[.slice a len cap] w fun e w' => e = .returned (.bool true) ∧ w = w' := by
 have hz : (1048576 : Int) < (len : Int) := by omega
 go_enter Tryz.func4, Tryz.ntmps4
 go_wp2
 go_ret
 exact ⟨rfl, rfl⟩
theorem big_no (a : Option Addr) (len cap : Nat) (h : ¬ 1048576 < len) (w : World) :
  Calls Tryz.prog 4 #[.slice a len cap] w fun e w' => e = .returned (.bool false) ∧ w = w' := by
 have hz : ¬ ((1048576 : Int) < (len : Int)) := by omega
 go_enter Tryz.func4, Tryz.ntmps4
 go_wp2
 go_ret
 exact ⟨rfl, rfl⟩
end Go.Proofs.YtodfgehicpejgaaGreatDoor
