/- impl's: slices.IndexFunc, slices.ContainsFunc over eras; FirstOpen; slices.Clone of ints; lastEpoch, hasEpoch, EraNodes. -/
import Derived.Test.YtioocibgfhgkhaaGreatDoorRgB
import Derived.Test.YtioocibgfhgkhaaGreatDoorRetQ
import Derived.Lib.SliceRun
namespace Go.Proofs.YtioocibgfhgkhaaGreatDoor
open Go.ChangeShapes Go.WideShapes Go.ChangeAt Go.RowKit
set_option linter.unusedVariables false
set_option linter.unusedSimpArgs false
set_option maxRecDepth 100000

/-- Where the first is for which q holds, or -1. -/
def idxQ {α : Type} (q : α → Bool) : List α → Int
  | [] => -1
  | e :: l => if q e then 0 else (if idxQ q l = -1 then -1 else idxQ q l + 1)
theorem idxQ_ge {α : Type} (q : α → Bool) : ∀ l : List α, -1 ≤ idxQ q l ∧ idxQ q l < l.length
  | [] => by simp [idxQ]
  | e :: l => by
    have := idxQ_ge q l
    unfold idxQ
    split
    · simp <;> omega
    · split <;> simp <;> omega
theorem idxQ_none {α : Type} (q : α → Bool) : ∀ l : List α, (∀ i (h : i < l.length), q l[i] = false) → idxQ q l = -1
  | [], _ => rfl
  | e :: l, h => by
    have h0 : q e = false := h 0 (by simp)
    have h1 := idxQ_none q l fun i hi => h (i + 1) (by simpa using hi)
    unfold idxQ
    rw [h0, h1]
    rfl
theorem idxQ_at {α : Type} (q : α → Bool) : ∀ (l : List α) (k : Nat) (hk : k < l.length), (∀ i (h : i < l.length), i < k → q l[i] = false) → q l[k] = true → idxQ q l = (k : Int)
  | [], k, hk, _, _ => by simp at hk
  | e :: l, 0, hk, _, ho => by
    have h0 : q e = true := ho
    unfold idxQ
    rw [h0]
    rfl
  | e :: l, k + 1, hk, h, ho => by
    have h0 : q e = false := h 0 (by simp) (by omega)
    have h1 := idxQ_at q l k (by simpa using hk) (fun i hi hik => h (i + 1) (by simpa using hi) (by omega)) (by simpa using ho)
    unfold idxQ
    rw [h0, h1, if_neg (by simp), if_neg (by omega)]
    omega
theorem idxQ_neg {α : Type} {q : α → Bool} {l : List α} : idxQ q l = -1 ↔ ∀ e ∈ l, q e = false := by
  induction l with
  | nil => simp [idxQ]
  | cons e l ih =>
    have hg := idxQ_ge q l
    unfold idxQ
    cases hq : q e with
    | true => simp [hq]
    | false =>
      rw [if_neg (by simp)]
      by_cases h : idxQ q l = -1
      · rw [if_pos h]
        simp only [List.mem_cons, true_iff]
        rintro x (rfl | hx)
        · exact hq
        · exact ih.1 h x hx
      · rw [if_neg h]
        constructor
        · intro h'; omega
        · intro h'
          exact absurd (ih.2 fun x hx => h' x (List.mem_cons_of_mem _ hx)) h
set_option maxHeartbeats 2000000 in
/-- slices.IndexFunc: the function's own contract is handed in. -/
theorem indexFunc_any (v : Value) (rs : List (Nst Er)) (F : Nat) (caps : Array Value) (q : Er → Bool) (w : World) (hF : ∀ args w, (callFunc F args).run Tryz.prog w = .ok (.enter F args) w) (hr : Rw 3 erCl w v rs)
    (hq : ∀ W, Below w.heap.size w W → ∀ k (hk : k < rs.length), Calls Tryz.prog F (#[.agg #[.slice rs[k].a rs[k].m.nodes.length rs[k].c, .bool rs[k].m.closed, .int .i64 rs[k].m.last]] ++ caps) W fun e w' => e = .returned (.bool (q rs[k].m)) ∧ Below W.heap.size W w') :
    Calls Tryz.prog 96 #[v, .func (.func F) #[] caps] w fun e w' => e = .returned (.int .i64 (idxQ q (rs.map Nst.m))) ∧ Below w.heap.size w w' := by
  have HV := dHide fun W (hb : Below w.heap.size w W) => hr.below hb
  have HQ := dHide hq
  have hl0 := hr.1
  obtain ⟨-, a, cap, rfl, -, -⟩ := hr
  have FN : Hid ((∀ i (h : i < rs.length), q rs[i].m = false) → idxQ q (rs.map Nst.m) = -1) := fun h => idxQ_none _ _ fun i hi => by rw [List.getElem_map]; exact h i (by simpa using hi)
  have FA : Hid (∀ k (hk : k < rs.length), (∀ i (h : i < rs.length), i < k → q rs[i].m = false) → q rs[k].m = true → idxQ q (rs.map Nst.m) = (k : Int)) := fun k hk h1 h2 => idxQ_at _ _ k (by simpa using hk) (fun i hi hik => by rw [List.getElem_map]; exact h1 i (by simpa using hi) hik) (by rw [List.getElem_map]; exact h2)
  generalize idxQ q (rs.map Nst.m) = M at *
  clear hq
  go_enter Tryz.func96, Tryz.ntmps96
  go_wp2
  go_loopw [8] (fun x wr => ∃ k : Nat, x = .int .i64 (k : Int) ∧ k ≤ rs.length ∧ Hid (∀ i (h : i < rs.length), i < k → q rs[i].m = false) ∧ Below w.heap.size w wr) (fun x _ => rs.length - (intOf x).toNat)
  case atStart => exact ⟨0, rfl, Nat.zero_le _, fun i h h' => by omega, Below.refl _ _⟩
  case round =>
    obtain ⟨k, rfl, hk, hc, hb⟩ := hrel
    by_cases hlt : (k : Int) < (rs.length : Int)
    · have hkl : k < rs.length := by omega
      obtain ⟨b, off, rfl, he⟩ := (dUnhide HV _ hb).era hkl
      obtain ⟨c0, c1, c2⟩ := he k hkl
      have CE := dHide (dUnhide HQ wr hb k hkl)
      cases hcl : q rs[k].m with
      | false =>
        rw [hcl] at CE
        have H2 : Hid (∀ i (h : i < rs.length), i < k + 1 → q rs[i].m = false) := fun i h hi => by
          by_cases e : i = k
          · subst e; exact hcl
          · exact dUnhide hc i h (by omega)
        generalize rs[k] = y at *
        obtain ⟨ya, yc, yn, yb, yl⟩ := y
        simp only at *
        clear hc he
        go_wp2_with fail
        refine (dUnhide CE).mono ?_
        rintro e w1 ⟨rfl, b1⟩
        clear CE c0 c1 c2
        go_wp2
        go_roundw
        case rel => exact ⟨k + 1, by go_num, by omega, H2, belowThen hb b1⟩
        case measure => simp [intOf]; omega
      | true =>
        rw [hcl] at CE
        have e1 := dUnhide FA k hkl (dUnhide hc) hcl
        subst e1
        generalize rs[k] = y at *
        obtain ⟨ya, yc, yn, yb, yl⟩ := y
        simp only at *
        clear hc he FN FA
        go_wp2_with fail
        refine (dUnhide CE).mono ?_
        rintro e w1 ⟨rfl, b1⟩
        clear CE c0 c1 c2
        go_wp2
        go_ret
        exact ⟨rfl, belowThen hb b1⟩
    · have e1 := dUnhide FN fun i h => dUnhide hc i h (by omega)
      subst e1
      clear hc FN FA
      go_wp2
      go_ret
      exact ⟨rfl, hb⟩
theorem firstOpenFn (p : Nst Er) (w : World) : Calls Tryz.prog 111 #[.agg #[.slice p.a p.m.nodes.length p.c, .bool p.m.closed, .int .i64 p.m.last]] w fun e w' => e = .returned (.bool (!p.m.closed)) ∧ Below w.heap.size w w' := by
  obtain ⟨pa, pc, yn, yb, yl⟩ := p
  simp only at *
  go_enter Tryz.func111, Tryz.ntmps111
  go_wp2
  go_ret
  exact ⟨rfl, (Below.refl _ _).alloc (Nat.le_refl _) _⟩
theorem idxQ_first (ms : List Er) : idxQ (fun e => !e.closed) ms + 1 = (firstO ms : Int) := by
  induction ms with
  | nil => rfl
  | cons e l ih =>
    have hg := idxQ_ge (fun e : Er => !e.closed) l
    unfold idxQ firstO
    cases hc : e.closed with
    | false => rfl
    | true =>
      simp only [Bool.not_true, if_true]
      rw [if_neg (by decide)]
      by_cases h0 : firstO l = 0
      · rw [if_pos h0, if_pos (by omega)]; rfl
      · rw [if_neg h0, if_neg (by omega)]; omega
set_option maxHeartbeats 1000000 in
theorem implFirst_any (v : Value) (m : Rg) (w : World) (hv : RdRegister v m w) (hs : m.eras.length ≤ 1048576) :
    Calls Tryz.prog 93 #[v] w fun e w' => e = .returned (.int .i64 (firstO m.eras : Int)) ∧ Below w.heap.size w w' := by
  obtain ⟨sv, rfl, rs, hm, hr, -⟩ := hv
  have ba : ∀ o, Below w.heap.size w (w.alloc o) := fun o => (Below.refl _ _).alloc (Nat.le_refl _) o
  have C1 := dHide fun W (hb : Below w.heap.size w W) => indexFunc_any sv rs 111 #[] (fun e => !e.closed) W Tryz.call111 (hr.below hb) (fun W' _ k hk => firstOpenFn rs[k] W')
  rw [hm] at C1
  have e1 := idxQ_first m.eras
  have h1 := idxQ_ge (fun e : Er => !e.closed) m.eras
  obtain ⟨-, a, cap, rfl, -, -⟩ := hr
  have e2 : Hid ((firstO m.eras : Int) = 1 + idxQ (fun e => !e.closed) m.eras) := by rw [Hid]; omega
  rw [dUnhide e2]
  generalize idxQ (fun e : Er => !e.closed) m.eras = M at *
  generalize m.trim = tr at *
  clear e1 e2 hm
  go_enter Tryz.func93, Tryz.ntmps93
  go_wp2_with fail
  refine (dUnhide C1 _ (ba _)).mono ?_
  rintro e w1 ⟨rfl, b1⟩
  have B1 := belowThen (ba _) b1
  clear b1 ba C1
  go_wp2
  go_ret
  exact ⟨rfl, B1⟩
theorem lastEpoch_any (v : Value) (m : Rg) (w : World) (hv : RdRegister v m w) :
    Calls Tryz.prog 94 #[v] w fun e w' => e = .returned (.int .i64 (m.eras.length : Int)) ∧ Below w.heap.size w w' := by
  obtain ⟨a, cap, rfl, -⟩ := formRegister hv
  clear hv
  go_enter Tryz.func94, Tryz.ntmps94
  go_wp2
  go_ret
  exact ⟨rfl, (Below.refl _ _).alloc (Nat.le_refl _) _⟩
set_option maxHeartbeats 1000000 in
theorem hasEpoch_any (v : Value) (m : Rg) (x : Int) (w : World) (hv : RdRegister v m w) (ok : okInt x) (hs : m.eras.length ≤ 1048576) :
    Calls Tryz.prog 98 #[v, .int .i64 x] w fun e w' => RetB (1 ≤ x ∧ x ≤ (m.eras.length : Int)) e ∧ Below w.heap.size w w' := by
  have ba : ∀ o, Below w.heap.size w (w.alloc o) := fun o => (Below.refl _ _).alloc (Nat.le_refl _) o
  have C1 := dHide fun W (hb : Below w.heap.size w W) => lastEpoch_any v m W (hv.below hb)
  obtain ⟨a, cap, rfl, -⟩ := formRegister hv
  obtain ⟨o1, o2⟩ := ok
  generalize m.trim = tr at *
  clear hv
  by_cases h1 : x ≥ 1
  · go_enter Tryz.func98, Tryz.ntmps98
    go_wp2_with fail
    refine (dUnhide C1 _ (ba _)).mono ?_
    rintro e w1 ⟨rfl, b1⟩
    have B1 := belowThen (ba _) b1
    clear b1 ba C1
    have R : RetB (1 ≤ x ∧ x ≤ (m.eras.length : Int)) (.returned (.bool (decide (x ≤ (m.eras.length : Int))))) := ⟨_, rfl, by rw [decide_eq_true_iff]; exact ⟨fun h => ⟨h1, h⟩, fun h => h.2⟩⟩
    go_wp2
    go_ret
    exact ⟨R, B1⟩
  · have R : RetB (1 ≤ x ∧ x ≤ (m.eras.length : Int)) (.returned (.bool false)) := RetB.no fun h => h1 h.1
    go_enter Tryz.func98, Tryz.ntmps98
    go_wp2
    go_ret
    exact ⟨R, ba _⟩
end Go.Proofs.YtioocibgfhgkhaaGreatDoor
