/- impl's: slices.IndexFunc, slices.ContainsFunc over lists. -/
import Derived.Test.YtapfdmmfhfkhkaaMnA
import Derived.Test.YtapfdmmfhfkhkaaGaA
namespace Go.Proofs.Ytapfdmmfhfkhkaa
open Go.ChangeShapes Go.WideShapes Go.ChangeAt Go.RowKit
set_option linter.unusedVariables false
set_option linter.unusedSimpArgs false
set_option maxRecDepth 100000

def idxL {α : Type} (q : α → Bool) : List α → Int
 | [] => -1
 | e :: l => if q e then 0 else (if idxL q l = -1 then -1 else idxL q l + 1)
theorem idxL_ge {α : Type} (q : α → Bool) : ∀ l : List α, -1 ≤ idxL q l ∧ idxL q l < l.length
 | [] => by simp [idxL]
 | e :: l => by
  have := idxL_ge q l
  unfold idxL
  split
  ·simp <;> omega
  ·split <;> simp <;> omega
theorem idxL_none {α : Type} (q : α → Bool) : ∀ l : List α, (∀ i (h : i < l.length), q l[i] = false) → idxL q l = -1
 | [], _ => rfl
 | e :: l, h => by
  have h0 : q e = false := h 0 (by simp)
  have h1 := idxL_none q l fun i hi => h (i + 1) (by simpa using hi)
  unfold idxL
  rw [h0, h1]
  rfl
theorem idxL_at {α : Type} (q : α → Bool) : ∀ (l : List α) (k : Nat) (hk : k < l.length), (∀ i (h : i < l.length), i < k → q l[i] = false) → q l[k] = true → idxL q l = (k : Int)
 | [], k, hk, _, _ => by simp at hk
 | e :: l, 0, hk, _, ho => by
  have h0 : q e = true := ho
  unfold idxL
  rw [h0]
  rfl
 | e :: l, k + 1, hk, h, ho => by
  have h0 : q e = false := h 0 (by simp) (by omega)
  have h1 := idxL_at q l k (by simpa using hk) (fun i hi hik => h (i + 1) (by simpa using hi) (by omega)) (by simpa using ho)
  unfold idxL
  rw [h0, h1, if_neg (by simp), if_neg (by omega)]
  omega
theorem idxL_neg {α : Type} {q : α → Bool} {l : List α} : idxL q l = -1 ↔ ∀ e ∈ l, q e = false := by
 induction l with
 | nil => simp [idxL]
 | cons e l ih =>
  have hg := idxL_ge q l
  unfold idxL
  cases hq : q e with
  | true => simp [hq]
  | false =>
   rw [if_neg (by simp)]
   by_cases h : idxL q l = -1
   ·rw [if_pos h]
    simp only [List.mem_cons, true_iff]
    rintro x (rfl | hx)
    ·exact hq
    ·exact ih.1 h x hx
   ·rw [if_neg h]
    constructor
    ·intro h'; omega
    ·intro h'
     exact absurd (ih.2 fun x hx => h' x (List.mem_cons_of_mem _ hx)) h
set_option maxHeartbeats 2000000 in
theorem indexFuncL_any (v : Value) (rs : List (Nst (List Int))) (F : Nat) (caps : Array Value) (q : List Int → Bool) (w : World) (hF : ∀ args w, (callFunc F args).run Try.prog w = .ok (.enter F args) w) (hr : Rw 1 lsCl w v rs)
  (hq : ∀ W, Below w.heap.size w W → ∀ k (hk : k < rs.length), Calls Try.prog F (#[.slice rs[k].a rs[k].m.length rs[k].c] ++ caps) W fun e w' => e = .returned (.bool (q rs[k].m)) ∧ Below W.heap.size W w') :
  Calls Try.prog 88 #[v, .func (.func F) #[] caps] w fun e w' => e = .returned (.int .i64 (idxL q (rs.map Nst.m))) ∧ Below w.heap.size w w' := by
 have HV := dHide fun W (hb : Below w.heap.size w W) => hr.below hb
 have HQ := dHide hq
 have hl0 := hr.1
 obtain ⟨-, a, cap, rfl, -, -⟩ := hr
 have FN : Hid ((∀ i (h : i < rs.length), q rs[i].m = false) → idxL q (rs.map Nst.m) = -1) := fun h => idxL_none _ _ fun i hi => by rw [List.getElem_map]; exact h i (by simpa using hi)
 have FA : Hid (∀ k (hk : k < rs.length), (∀ i (h : i < rs.length), i < k → q rs[i].m = false) → q rs[k].m = true → idxL q (rs.map Nst.m) = (k : Int)) := fun k hk h1 h2 => idxL_at _ _ k (by simpa using hk) (fun i hi hik => by rw [List.getElem_map]; exact h1 i (by simpa using hi) hik) (by rw [List.getElem_map]; exact h2)
 generalize idxL q (rs.map Nst.m) = M at *
 clear hq
 go_enter Try.func88, Try.ntmps88
 go_wp2
 go_loopw [8] (fun x wr => ∃ k : Nat, x = .int .i64 (k : Int) ∧ k ≤ rs.length ∧ Hid (∀ i (h : i < rs.length), i < k → q rs[i].m = false) ∧ Below w.heap.size w wr) (fun x _ => rs.length - (intOf x).toNat)
 case atStart => exact ⟨0, rfl, Nat.zero_le _, fun i h h' => by omega, Below.refl _ _⟩
 case round =>
  obtain ⟨k, rfl, hk, hc, hb⟩ := hrel
  by_cases hlt : (k : Int) < (rs.length : Int)
  ·have hkl : k < rs.length := by omega
   obtain ⟨b, off, rfl, he⟩ := (dUnhide HV _ hb).ls hkl
   have c0 := he k hkl
   have CE := dHide (dUnhide HQ wr hb k hkl)
   cases hcl : q rs[k].m with
   | false =>
    rw [hcl] at CE
    have H2 : Hid (∀ i (h : i < rs.length), i < k + 1 → q rs[i].m = false) := fun i h hi => by
     by_cases e : i = k
     ·subst e; exact hcl
     ·exact dUnhide hc i h (by omega)
    generalize rs[k] = y at *
    obtain ⟨ya, yc, yn⟩ := y
    simp only at *
    clear hc he
    go_wp2_with fail
    refine (dUnhide CE).mono ?_
    rintro e w1 ⟨rfl, b1⟩
    clear CE c0
    go_wp2
    go_roundw
    case rel => exact ⟨k + 1, by go_num, by omega, H2, belowThen hb b1⟩
    case measure => simp [intOf]; omega
   | true =>
    rw [hcl] at CE
    have e1 := dUnhide FA k hkl (dUnhide hc) hcl
    subst e1
    generalize rs[k] = y at *
    obtain ⟨ya, yc, yn⟩ := y
    simp only at *
    clear hc he FN FA
    go_wp2_with fail
    refine (dUnhide CE).mono ?_
    rintro e w1 ⟨rfl, b1⟩
    clear CE c0
    go_wp2
    go_ret
    exact ⟨rfl, belowThen hb b1⟩
  ·have e1 := dUnhide FN fun i h => dUnhide hc i h (by omega)
   subst e1
   clear hc FN FA
   go_wp2
   go_ret
   exact ⟨rfl, hb⟩
theorem containsFuncL_any (v : Value) (rs : List (Nst (List Int))) (F : Nat) (caps : Array Value) (q : List Int → Bool) (w : World) (hF : ∀ args w, (callFunc F args).run Try.prog w = .ok (.enter F args) w) (hr : Rw 1 lsCl w v rs) (hl : rs.length ≤ 1048576)
  (hq : ∀ W, Below w.heap.size w W → ∀ k (hk : k < rs.length), Calls Try.prog F (#[.slice rs[k].a rs[k].m.length rs[k].c] ++ caps) W fun e w' => e = .returned (.bool (q rs[k].m)) ∧ Below W.heap.size W w') :
  Calls Try.prog 70 #[v, .func (.func F) #[] caps] w fun e w' => RetB (∃ e ∈ rs.map Nst.m, q e = true) e ∧ Below w.heap.size w w' := by
 have C1 := dHide (indexFuncL_any v rs F caps q w hF hr hq)
 have hg := idxL_ge q (rs.map Nst.m)
 have R : Hid (RetB (∃ e ∈ rs.map Nst.m, q e = true) (.returned (.bool (decide (0 ≤ idxL q (rs.map Nst.m)))))) := ⟨_, rfl, by
  rw [decide_eq_true_iff]
  constructor
  ·intro h
   apply Classical.byContradiction
   intro hno
   have : idxL q (rs.map Nst.m) = -1 := idxL_neg.2 fun e he => by
    cases hqe : q e with
    | false => rfl
    | true => exact absurd ⟨e, he, hqe⟩ hno
   omega
  ·rintro ⟨e, he, hqe⟩
   apply Classical.byContradiction
   intro hno
   have h1 : idxL q (rs.map Nst.m) = -1 := by omega
   have := idxL_neg.1 h1 e he
   rw [hqe] at this
   cases this⟩
 have hl2 : (rs.map Nst.m).length ≤ 1048576 := by simpa using hl
 generalize (rs.map Nst.m).length = n at *
 generalize idxL q (rs.map Nst.m) = M at *
 clear hF hr hq
 go_enter Try.func70, Try.ntmps70
 go_wp2_with fail
 refine (dUnhide C1).mono ?_
 rintro e w1 ⟨rfl, b1⟩
 clear C1
 go_wp2
 go_ret
 exact ⟨dUnhide R, b1⟩
end Go.Proofs.Ytapfdmmfhfkhkaa
