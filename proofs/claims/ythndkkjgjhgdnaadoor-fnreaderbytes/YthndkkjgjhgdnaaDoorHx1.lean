/- Several texts in one: IdxP, EvQ. -/
import Derived.Test.YthndkkjgjhgdnaaDoorGaA
import Derived.Test.YthndkkjgjhgdnaaDoorEvS
import Derived.Deep.RegionHeld3
import Derived.Deep.DeepCutAuto
namespace Go.Proofs.YthndkkjgjhgdnaaDoor
open Go.ChangeShapes Go.WideShapes Go.ChangeAt Go.RowKit
set_option linter.unusedVariables false
set_option linter.unusedSimpArgs false
set_option maxRecDepth 100000

/-- Where the first is for which q holds, or -1. -/
def idxL {α : Type} (q : α → Bool) : List α → Int
  | [] => -1
  | e :: l => if q e then 0 else (if idxL q l = -1 then -1 else idxL q l + 1)
theorem idxL_ge {α : Type} (q : α → Bool) : ∀ l : List α, -1 ≤ idxL q l ∧ idxL q l < l.length
  | [] => by simp [idxL]
  | e :: l => by
    have := idxL_ge q l
    unfold idxL
    split
    · simp <;> omega
    · split <;> simp <;> omega
theorem idxL_none {α : Type} (q : α → Bool) : ∀ l : List α, (∀ i (h : i < l.length), q l[i] = false) → idxL q l = -1
  | [], _ => rfl
  | e :: l, h => by
    have h0 : q e = false := h 0 (by simp)
    have h1 := idxL_none q l fun i hi => h (i + 1) (by simpa using hi)
    unfold idxL
    rw [h0, h1]
    rfl
theorem idxL_at {α : Type} (q : α → Bool) : ∀ (l : List α) (k : Nat) (hk : k < l.length), (∀ i (h : i < l.length), i < k → q l[i] = false) → q l[k] = true → idxL q l = (k : Int)
  | [], k, hk, _, _ => by simp at hk
  | e :: l, 0, hk, _, ho => by
    have h0 : q e = true := ho
    unfold idxL
    rw [h0]
    rfl
  | e :: l, k + 1, hk, h, ho => by
    have h0 : q e = false := h 0 (by simp) (by omega)
    have h1 := idxL_at q l k (by simpa using hk) (fun i hi hik => h (i + 1) (by simpa using hi) (by omega)) (by simpa using ho)
    unfold idxL
    rw [h0, h1, if_neg (by simp), if_neg (by omega)]
    omega
theorem idxL_neg {α : Type} {q : α → Bool} {l : List α} : idxL q l = -1 ↔ ∀ e ∈ l, q e = false := by
  induction l with
  | nil => simp [idxL]
  | cons e l ih =>
    have hg := idxL_ge q l
    unfold idxL
    cases hq : q e with
    | true => simp [hq]
    | false =>
      rw [if_neg (by simp)]
      by_cases h : idxL q l = -1
      · rw [if_pos h]
        simp only [List.mem_cons, true_iff]
        rintro x (rfl | hx)
        · exact hq
        · exact ih.1 h x hx
      · rw [if_neg h]
        constructor
        · intro h'; omega
        · intro h'
          exact absurd (ih.2 fun x hx => h' x (List.mem_cons_of_mem _ hx)) h
theorem list2_of {α : Type} {l : List α} (h : l.length = 2) : ∃ a b, l = [a, b] := match l, h with | [a, b], _ => ⟨a, b, rfl⟩
theorem list3_of {α : Type} {l : List α} (h : l.length = 3) : ∃ a b c, l = [a, b, c] := match l, h with | [a, b, c], _ => ⟨a, b, c, rfl⟩
theorem list6_of {α : Type} {l : List α} (h : l.length = 6) : ∃ a b c d e f, l = [a, b, c, d, e, f] := match l, h with | [a, b, c, d, e, f], _ => ⟨a, b, c, d, e, f, rfl⟩
theorem idxL_some {α : Type} (q : α → Bool) (l : List α) : RetB (∃ e ∈ l, q e = true) (.returned (.bool (decide (0 ≤ idxL q l)))) := ⟨_, rfl, by
  have hg := idxL_ge q l
  rw [decide_eq_true_iff]
  constructor
  · intro h
    apply Classical.byContradiction
    intro hno
    have : idxL q l = -1 := idxL_neg.2 fun e he => by
      cases hqe : q e with
      | false => rfl
      | true => exact absurd ⟨e, he, hqe⟩ hno
    omega
  · rintro ⟨e, he, hqe⟩
    apply Classical.byContradiction
    intro hno
    have h1 : idxL q l = -1 := by omega
    have := idxL_neg.1 h1 e he
    rw [hqe] at this
    cases this⟩
theorem all_not {α : Type} {q : α → Bool} {l : List α} {b : Bool} (h : b = true ↔ ∃ x ∈ l, (!(q x)) = true) : RetB (∀ x ∈ l, q x = true) (.returned (.bool (!b))) := ⟨_, rfl, by
  cases b with
  | true =>
    obtain ⟨x, hx, hq⟩ := h.1 rfl
    constructor
    · intro h; cases h
    · intro h'; rw [h' x hx] at hq; cases hq
  | false =>
    constructor
    · intro _ x hx
      cases hq : q x with
      | true => rfl
      | false => exact absurd (h.2 ⟨x, hx, by rw [hq]; rfl⟩) (by simp)
    · intro _; rfl⟩
/-- Whether, as a bool. -/
noncomputable def bq (p : Prop) : Bool := @decide p (Classical.propDecidable p)
theorem bq_iff (p : Prop) : bq p = true ↔ p := @decide_eq_true_iff p (Classical.propDecidable p)
theorem RetB.bq {p : Prop} {e : Ending} (h : RetB p e) : e = .returned (.bool (bq p)) := by
  obtain ⟨b, rfl, h⟩ := h
  have : b = Go.Proofs.YthndkkjgjhgdnaaDoor.bq p := by
    cases b with
    | true => exact ((bq_iff p).2 (h.1 rfl)).symm
    | false =>
      cases e : Go.Proofs.YthndkkjgjhgdnaaDoor.bq p with
      | false => rfl
      | true => exact absurd (h.2 ((bq_iff p).1 e)) (by simp)
  rw [this]
theorem RetB.to {α : Type} {l : List α} {q : α → Bool} {Q : α → Prop} {e : Ending} (h : RetB (∀ x ∈ l, q x = true) e) (hq : ∀ x, q x = true ↔ Q x) : RetB (∀ x ∈ l, Q x) e := by
  obtain ⟨b, rfl, h⟩ := h
  exact ⟨b, rfl, h.trans ⟨fun h x hx => (hq x).1 (h x hx), fun h x hx => (hq x).2 (h x hx)⟩⟩
end Go.Proofs.YthndkkjgjhgdnaaDoor
namespace Go.Proofs.YthndkkjgjhgdnaaDoor
open Go.ChangeShapes Go.WideShapes Go.ChangeAt Go.RowKit
set_option linter.unusedVariables false
set_option linter.unusedSimpArgs false
set_option maxRecDepth 100000

set_option maxHeartbeats 2000000 in
theorem indexEvent_any (v : Value) (rs : List Ev) (F : Nat) (caps : Array Value) (q : Ev → Bool) (w : World) (hF : ∀ args w, (callFunc F args).run Tryd.prog w = .ok (.enter F args) w) (hr : Rw 3 Ev.cl w v rs)
    (hq : ∀ W, Below w.heap.size w W → ∀ k (hk : k < rs.length), Calls Tryd.prog F (#[rs[k].val] ++ caps) W fun e w' => e = .returned (.bool (q rs[k])) ∧ Below W.heap.size W w') :
    Calls Tryd.prog 84 #[v, .func (.func F) #[] caps] w fun e w' => e = .returned (.int .i64 (idxL q rs)) ∧ Below w.heap.size w w' := by
  have HV := dHide fun W (hb : Below w.heap.size w W) => hr.below hb
  have HQ := dHide hq
  have hl0 := hr.1
  obtain ⟨-, a, cap, rfl, -, -⟩ := hr
  have FN : Hid ((∀ i (h : i < rs.length), q rs[i] = false) → idxL q rs = -1) := fun h => idxL_none _ _ fun i hi => h i hi
  have FA : Hid (∀ k (hk : k < rs.length), (∀ i (h : i < rs.length), i < k → q rs[i] = false) → q rs[k] = true → idxL q rs = (k : Int)) := fun k hk h1 h2 => idxL_at _ _ k hk (fun i hi hik => h1 i hi hik) (h2)
  generalize idxL q rs = M at *
  clear hq
  go_enter Tryd.func84, Tryd.ntmps84
  go_wp2
  go_loopw [8] (fun x wr => ∃ k : Nat, x = .int .i64 (k : Int) ∧ k ≤ rs.length ∧ Hid (∀ i (h : i < rs.length), i < k → q rs[i] = false) ∧ Below w.heap.size w wr) (fun x _ => rs.length - (intOf x).toNat)
  case atStart => exact ⟨0, rfl, Nat.zero_le _, fun i h h' => by omega, Below.refl _ _⟩
  case round =>
    obtain ⟨k, rfl, hk, hc, hb⟩ := hrel
    by_cases hlt : (k : Int) < (rs.length : Int)
    · have hkl : k < rs.length := by omega
      obtain ⟨b, off, rfl, he⟩ := (dUnhide HV _ hb).atEv hkl
      have hck := he k hkl
      have CE := dHide (dUnhide HQ wr hb k hkl)
      have H2 : Hid (q rs[k] = false → ∀ i (h : i < rs.length), i < k + 1 → q rs[i] = false) := fun hcl i h hi => by
        by_cases e : i = k
        · subst e; exact hcl
        · exact dUnhide hc i h (by omega)
      have H3 : Hid (q rs[k] = true → M = (k : Int)) := fun hcl => dUnhide FA k hkl (dUnhide hc) hcl
      clear he hc
      generalize rs[k] = y at *
      obtain ⟨c0, c1, c2⟩ := hck
      obtain ⟨m0, m1, m2⟩ := y
      generalize hqm : q ⟨m0, m1, m2⟩ = qm at *
      unfold Ev.val at CE
      simp only at CE c0 c1 c2
      cases qm with
      | false =>
        have H4 := dHide (dUnhide H2 rfl)
        clear H2 H3
        go_wp2_with fail
        refine (dUnhide CE).mono ?_
        rintro e w1 ⟨rfl, b1⟩
        clear CE c0 c1 c2
        go_wp2
        go_roundw
        case rel => exact ⟨k + 1, by go_num, by omega, dUnhide H4, belowThen hb b1⟩
        case measure => simp [intOf]; omega
      | true =>
        have e1 := dUnhide H3 rfl
        subst e1
        clear H2 H3 FA FN
        go_wp2_with fail
        refine (dUnhide CE).mono ?_
        rintro e w1 ⟨rfl, b1⟩
        clear CE c0 c1 c2
        go_wp2
        go_ret
        exact ⟨rfl, belowThen hb b1⟩
    · have e1 := dUnhide FN fun i h => dUnhide hc i h (by omega)
      subst e1
      clear hc FA FN
      go_wp2
      go_ret
      exact ⟨rfl, hb⟩
theorem containsEvent_any (v : Value) (rs : List Ev) (F : Nat) (caps : Array Value) (q : Ev → Bool) (w : World) (hF : ∀ args w, (callFunc F args).run Tryd.prog w = .ok (.enter F args) w) (hr : Rw 3 Ev.cl w v rs)
    (hq : ∀ W, Below w.heap.size w W → ∀ k (hk : k < rs.length), Calls Tryd.prog F (#[rs[k].val] ++ caps) W fun e w' => e = .returned (.bool (q rs[k])) ∧ Below W.heap.size W w') :
    Calls Tryd.prog 74 #[v, .func (.func F) #[] caps] w fun e w' => RetB (∃ x ∈ rs, q x = true) e ∧ Below w.heap.size w w' := by
  have C1 := dHide (indexEvent_any v rs F caps q w hF hr hq)
  have R := dHide (idxL_some q rs)
  have hg := idxL_ge q rs
  have hl2 : rs.length ≤ 9223372036854775807 := hr.1
  clear hF hq
  generalize rs.length = n at *
  generalize idxL q rs = M at *
  clear hr
  go_enter Tryd.func74, Tryd.ntmps74
  go_wp2_with fail
  refine (dUnhide C1).mono ?_
  rintro e w1 ⟨rfl, b1⟩
  clear C1
  go_wp2
  go_ret
  exact ⟨dUnhide R, b1⟩
theorem every1Event_any (x : Value) (cs : Array Value) (hx : x = .agg cs) (F b : Nat) (caps : Array Value) (q : Bool) (w : World) (hF : ∀ args w, (callFunc F args).run Tryd.prog w = .ok (.enter F args) w) (hc : w.cell? ⟨b, 0, none⟩ = some (.func (.func F) #[] caps)) (hn : cs.size = 3)
    (hq : ∀ W, Below w.heap.size w W → Calls Tryd.prog F (#[x] ++ caps) W fun e w' => e = .returned (.bool q) ∧ Below W.heap.size W w') :
    Calls Tryd.prog 75 (#[x] ++ #[.pointer (some ⟨b, 0, none⟩)]) w fun e w' => e = .returned (.bool (!q)) ∧ Below w.heap.size w w' := by
  have C1 := dHide hq
  subst hx
  obtain ⟨l⟩ := cs
  obtain ⟨x0, x1, x2, rfl⟩ := list3_of hn
  have B0 : Below w.heap.size w (w.alloc (.cells #[x0, x1, x2] 68)) := (Below.refl _ _).alloc (Nat.le_refl _) _
  have k0 := (B0.cell (p := ⟨b, 0, none⟩) (dCell_lt hc)).trans hc
  clear hq hc hn
  show Calls Tryd.prog 75 #[.agg #[x0, x1, x2], .pointer (some ⟨b, 0, none⟩)] w _
  go_enter Tryd.func75, Tryd.ntmps75
  go_wp2_with fail
  refine (dUnhide C1 _ B0).mono ?_
  rintro e w1 ⟨rfl, b1⟩
  have B1 := belowThen B0 b1
  clear C1 k0 b1 B0
  cases q
  all_goals
    go_wp2
    go_ret
    exact ⟨rfl, B1⟩
/-- impl.every. -/
theorem everyEvent_any (v : Value) (rs : List Ev) (F : Nat) (caps : Array Value) (Q : Ev → Prop) (w : World) (hF : ∀ args w, (callFunc F args).run Tryd.prog w = .ok (.enter F args) w) (hr : Rw 3 Ev.cl w v rs)
    (hq : ∀ W, Below w.heap.size w W → ∀ x ∈ rs, Calls Tryd.prog F (#[x.val] ++ caps) W fun e w' => RetB (Q x) e ∧ Below W.heap.size W w') :
    Calls Tryd.prog 55 #[v, .func (.func F) #[] caps] w fun e w' => RetB (∀ x ∈ rs, Q x) e ∧ Below w.heap.size w w' := by
  have B0 : Below w.heap.size w (w.alloc (.cells #[.func (.func F) #[] caps] 94)) := (Below.refl _ _).alloc (Nat.le_refl _) _
  have K0 := Bx.new w [.func (.func F) #[] caps] 94 0 _ rfl
  have C1 := dHide (containsEvent_any v rs 75 #[.pointer (some ⟨w.heap.size, 0, none⟩)] (fun x => !(bq (Q x))) _ (by intro args w; rfl) (hr.below B0) fun W hb k hk => every1Event_any rs[k].val _ rfl F w.heap.size caps (bq (Q rs[k])) W hF ((hb.cell (p := ⟨w.heap.size, 0, none⟩) (dCell_lt K0)).trans K0) rfl fun W' hb' => (hq W' (belowThen (belowThen B0 hb) hb') rs[k] (List.getElem_mem hk)).mono fun e w' h => ⟨h.1.bq, h.2⟩)
  obtain ⟨-, a, cap, rfl, -, -⟩ := hr
  have FIN : Hid (∀ b : Bool, (b = true ↔ ∃ x ∈ rs, (!(bq (Q x))) = true) → RetB (∀ x ∈ rs, Q x) (.returned (.bool (!b)))) := fun b h => (all_not h).to fun x => bq_iff _
  clear hq K0
  go_enter Tryd.func55, Tryd.ntmps55
  go_wp2_with fail
  refine (dUnhide C1).mono ?_
  rintro e w1 ⟨⟨b, rfl, h⟩, b1⟩
  have R := dHide (dUnhide FIN b h)
  have B1 := belowThen B0 b1
  clear C1 FIN h b1 B0
  cases b
  all_goals
    go_wp2
    go_ret
    exact ⟨dUnhide R, B1⟩
end Go.Proofs.YthndkkjgjhgdnaaDoor
