/- The first epoch that is open; the nodes of an era: spec's. -/
import Derived.Test.YtfipenjojgflmaaDoorGaE
import Derived.Test.YtfipenjojgflmaaDoorGaD
import Derived.Test.YtfipenjojgflmaaDoorGaC
namespace Go.Proofs.YtfipenjojgflmaaDoor
open Go.ChangeShapes Go.WideShapes Go.ChangeAt Go.RowKit
set_option linter.unusedVariables false
set_option linter.unusedSimpArgs false
set_option maxRecDepth 100000

/-- The first epoch that is open, or 0. -/
def firstO : List Er → Nat
  | [] => 0
  | e :: l => if e.closed then (if firstO l = 0 then 0 else firstO l + 1) else 1
theorem firstO_le : ∀ ms : List Er, firstO ms ≤ ms.length
  | [] => Nat.le_refl _
  | e :: l => by
    have := firstO_le l
    unfold firstO
    split
    · split <;> simp <;> omega
    · simp
theorem firstO_none : ∀ ms : List Er, (∀ i (h : i < ms.length), ms[i].closed = true) → firstO ms = 0
  | [], _ => rfl
  | e :: l, h => by
    have h0 : e.closed = true := h 0 (by simp)
    have h1 := firstO_none l fun i hi => h (i + 1) (by simpa using hi)
    unfold firstO
    rw [if_pos h0, if_pos h1]
theorem firstO_at : ∀ (ms : List Er) (k : Nat) (hk : k < ms.length), (∀ i (h : i < ms.length), i < k → ms[i].closed = true) → ms[k].closed = false → firstO ms = k + 1
  | [], k, hk, _, _ => by simp at hk
  | e :: l, 0, hk, _, ho => by
    have h0 : e.closed = false := ho
    unfold firstO
    rw [h0]
    rfl
  | e :: l, k + 1, hk, h, ho => by
    have h0 : e.closed = true := h 0 (by simp) (by omega)
    have h1 := firstO_at l k (by simpa using hk) (fun i hi hik => h (i + 1) (by simpa using hi) (by omega)) (by simpa using ho)
    unfold firstO
    rw [if_pos h0, if_neg (by omega), h1]
/-- Of the first epoch that is open: those before are closed, it is not. -/
theorem firstO_pos {ms : List Er} (h : firstO ms ≠ 0) : ∃ k, ∃ hk : k < ms.length, firstO ms = k + 1 ∧ ms[k].closed = false ∧ ∀ i (hi : i < ms.length), i < k → ms[i].closed = true := by
  induction ms with
  | nil => exact absurd rfl h
  | cons e l ih =>
    cases hc : e.closed with
    | false => exact ⟨0, by simp, by unfold firstO; rw [hc]; rfl, hc, fun i hi h' => by omega⟩
    | true =>
      have e1 : firstO (e :: l) = if firstO l = 0 then 0 else firstO l + 1 := by conv => lhs; unfold firstO; rw [if_pos hc]
      by_cases h0 : firstO l = 0
      · rw [e1, if_pos h0] at h; exact absurd rfl h
      · obtain ⟨k, hk, q1, q2, q3⟩ := ih h0
        refine ⟨k + 1, by simpa using hk, by rw [e1, if_neg h0, q1], by simpa using q2, fun i hi hik => ?_⟩
        cases i with
        | zero => exact hc
        | succ i => simpa using q3 i (by simpa using hi) (by omega)
theorem firstO_zero {ms : List Er} (h : firstO ms = 0) : ∀ i (hi : i < ms.length), ms[i].closed = true := by
  induction ms with
  | nil => intro i hi; simp at hi
  | cons e l ih =>
    cases hc : e.closed with
    | false =>
      have e1 : firstO (e :: l) = 1 := by unfold firstO; rw [hc]; rfl
      omega
    | true =>
      have e1 : firstO (e :: l) = if firstO l = 0 then 0 else firstO l + 1 := by conv => lhs; unfold firstO; rw [if_pos hc]
      by_cases h0 : firstO l = 0
      · intro i hi
        cases i with
        | zero => exact hc
        | succ i => simpa using ih h0 i (by simpa using hi)
      · rw [e1, if_neg h0] at h; omega
set_option maxHeartbeats 2000000 in
theorem specFirst_any (v : Value) (m : Rg) (w : World) (hv : RdRegister v m w) :
    Calls Tryd.prog 46 #[v] w fun e w' => e = .returned (.int .i64 (firstO m.eras : Int)) ∧ Below w.heap.size w w' := by
  obtain ⟨sv, rfl, hv⟩ := hv
  obtain ⟨tr, hr⟩ : ∃ tr, m.trim = tr := ⟨_, rfl⟩
  rw [hr]
  generalize hm : m.eras = ms at *
  clear hm hr
  obtain ⟨rs, rfl, hr, -⟩ := hv
  have hl0 := hr.1
  have HV := dHide fun W (hb : Below w.heap.size w W) => hr.below hb
  obtain ⟨-, a, cap, rfl, -, -⟩ := hr
  have FN : Hid ((∀ i (h : i < rs.length), rs[i].m.closed = true) → firstO (rs.map Nst.m) = 0) := fun h => firstO_none _ fun i hi => by rw [List.getElem_map]; exact h i (by simpa using hi)
  have FA : Hid (∀ k (hk : k < rs.length), (∀ i (h : i < rs.length), i < k → rs[i].m.closed = true) → rs[k].m.closed = false → firstO (rs.map Nst.m) = k + 1) := fun k hk h1 h2 => firstO_at _ k (by simpa using hk) (fun i hi hik => by rw [List.getElem_map]; exact h1 i (by simpa using hi) hik) (by rw [List.getElem_map]; exact h2)
  generalize firstO (rs.map Nst.m) = F at *
  have ba : Below w.heap.size w (w.alloc (.cells #[.slice a rs.length cap, .int .i64 tr] 29)) := (Below.refl _ _).alloc (Nat.le_refl _) _
  have X0 := Bx.new w [.slice a rs.length cap, .int .i64 tr] 29
  go_enter Tryd.func46, Tryd.ntmps46
  go_wp2
  have k0 := X0 0 _ rfl
  have HR := dHide (dUnhide HV _ ba)
  generalize w.alloc (.cells #[.slice a rs.length cap, .int .i64 tr] 29) = w0 at *
  clear HV X0
  go_loopw [3] (fun x wr => ∃ k : Nat, x = .int .i64 (k : Int) ∧ k ≤ rs.length ∧ Hid (∀ i (h : i < rs.length), i < k → rs[i].m.closed = true) ∧ wr = w0) (fun x _ => rs.length - (intOf x).toNat)
  case atStart => exact ⟨0, rfl, Nat.zero_le _, fun i h h' => by omega, rfl⟩
  case round =>
    obtain ⟨k, rfl, hk, hc, rfl⟩ := hrel
    by_cases hlt : (k : Int) < (rs.length : Int)
    · have hkl : k < rs.length := by omega
      obtain ⟨b, off, rfl, he⟩ := (dUnhide HR).era hkl
      have c1 := (he k hkl).2.1
      cases hcl : rs[k].m.closed with
      | true =>
        rw [hcl] at c1
        have H2 : Hid (∀ i (h : i < rs.length), i < k + 1 → rs[i].m.closed = true) := fun i h hi => by
          by_cases e : i = k
          · subst e; exact hcl
          · exact dUnhide hc i h (by omega)
        clear hc he
        go_wp2
        go_roundw
        case rel => exact ⟨k + 1, by go_num, by omega, H2, by trivial⟩
        case measure => simp [intOf]; omega
      | false =>
        rw [hcl] at c1
        have e1 := dUnhide FA k hkl (dUnhide hc) hcl
        have e2 : Hid ((F : Int) = (k : Int) + 1) := by rw [Hid, e1]; omega
        clear hc he FN FA e1
        go_wp2
        go_ret
        exact ⟨by rw [dUnhide e2]; go_num, ba⟩
    · have e1 := dUnhide FN fun i h => dUnhide hc i h (by omega)
      clear hc FN FA
      go_wp2
      go_ret
      exact ⟨by first | rfl | (rw [e1]; rfl), ba⟩
/-- The nodes of an epoch. -/
def eraN (m : Rg) (x : Int) : List Int := if 1 ≤ x ∧ x ≤ (m.eras.length : Int) then (m.eras.getD (x.toNat - 1) ⟨[], false, 0⟩).nodes else []
theorem eraN_at {m : Rg} {k : Nat} (hk : k < m.eras.length) : eraN m ((k : Int) + 1) = m.eras[k].nodes := by
  unfold eraN
  rw [if_pos (by omega), show ((k : Int) + 1).toNat - 1 = k by omega, getD_lt _ hk]
theorem eraN_no {m : Rg} {x : Int} (h : ¬ (1 ≤ x ∧ x ≤ (m.eras.length : Int))) : eraN m x = [] := if_neg h
theorem elemN : Elem (α := Int) 3 24 (.int .i64 0) 1 8 (fun x => [.int .i64 x]) where
  under := Tryd.underlying24
  info := by kernel_rfl
  zcells := by kernel_rfl
  pos := by decide
  len := fun _ => rfl
  one := fun a u hu => by simp at hu; subst hu; rfl
theorem Ns.rw1 {w : World} {v : Value} {xs : List Int} (h : Ns w v xs) : Rw 1 (fun x => [.int .i64 x]) w v xs := by
  obtain ⟨h0, a, cap, rfl, hcap, h⟩ := h
  refine ⟨h0, a, cap, rfl, hcap, ?_⟩
  rcases h with h | ⟨b, off, rfl, hc⟩
  · exact .inl h
  · refine .inr ⟨b, off, rfl, fun i hi j u hu => ?_⟩
    cases j with
    | zero => simp at hu; subst hu; simpa using hc i hi
    | succ j => simp at hu
theorem OwnRw.n1 {w : World} {base : Nat} {v : Value} {xs : List Int} (h : OwnRw 1 (fun x => [.int .i64 x]) w base v xs) : OwnN w base v xs := by
  obtain ⟨h0, a, cap, rfl, hcap, h⟩ := h
  refine ⟨h0, a, cap, rfl, hcap, ?_⟩
  rcases h with h | ⟨b, off, rfl, hb, hc⟩
  · exact .inl h
  · exact .inr ⟨b, off, rfl, hb, fun i hi => by simpa using hc i hi 0 _ rfl⟩
/-- A copy of ints by append. -/
theorem run_cpN {w : World} (ty : TypeId) (a0 : Option Addr) (sv : Value) (xs : List Int) (hsrc : Ns w sv xs) (hb : xs.length ≤ 1099511627776) :
    ∃ v' w', (Builtin.append_ #[24, 24] ty #[.slice a0 0 0, sv]).run Tryd.prog w = .ok v' w' ∧ OwnN w' w.heap.size v' xs ∧ Below w.heap.size w w' := by
  obtain ⟨v', w', h1, h2, h3⟩ := run_cpR elemN ty a0 sv hsrc.rw1 (by omega)
  exact ⟨v', w', h1, (ApR.own elemN h2).n1, h3⟩
theorem wp_cpN {w : World} {ops : Array Oper} {rest : List Oper} {o : Oper} {a : Act} {Q : Exit → Act → World → Prop} (hgd : o.guard = none) (s x : Operand) (ho : o.op = .call { callee := .builtin .append, args := #[s, x], argTypes := #[24, 24] })
    (a0 : Option Addr) (hs : a.eval s = .slice a0 0 0) (sv : Value) (xs : List Int) (hx : a.eval x = sv) (hsrc : Ns w sv xs) (hb : xs.length ≤ 1099511627776)
    (h : ∀ v' w', OwnN w' w.heap.size v' xs → Below w.heap.size w w' → wpList Tryd.prog ops Q rest (a.put o.dst v') w') : wpList Tryd.prog ops Q (o :: rest) a w := by
  refine wpList_plain hgd fun K' hK' => ?_
  obtain ⟨v', w', hrun, h1, h2⟩ := run_cpN o.type a0 sv xs hsrc hb
  unfold Oper.wp
  simp [execOp, ho, resolve, invoke, builtin, hs, hx, hrun, Result.andThen]
  exact hK' _ _ (h v' w' h1 h2)
set_option maxHeartbeats 2000000 in
theorem specEraNodes_any (v : Value) (m : Rg) (x : Int) (w : World) (hv : RdRegister v m w) (hs : sizRegister m ≤ 1048576) (ok : okInt x) :
    Calls Tryd.prog 11 #[v, .int .i64 x] w fun e w' => (∃ u, e = .returned u ∧ OwnN w' w.heap.size u (eraN m x)) ∧ Below w.heap.size w w' := by
  obtain ⟨sv, rfl, hv⟩ := hv
  obtain ⟨rs, hm, hr, hn⟩ := hv
  have hl0 : rs.length ≤ 1048576 := by
    unfold sizRegister sizEraS at hs
    rw [← hm, List.length_map] at hs
    omega
  have em : m.eras.length = rs.length := by rw [← hm, List.length_map]
  have ba : ∀ o, Below w.heap.size w (w.alloc o) := fun o => (Below.refl _ _).alloc (Nat.le_refl _) o
  by_cases hx : 1 ≤ x ∧ x ≤ (m.eras.length : Int)
  · obtain ⟨k, rfl⟩ : ∃ k : Nat, x = (k : Int) + 1 := ⟨(x - 1).toNat, by omega⟩
    have hk : k < rs.length := by omega
    have ee : eraN m ((k : Int) + 1) = rs[k].m.nodes := by
      rw [eraN_at (by omega)]
      have : m.eras[k]'(by omega) = rs[k].m := by simp only [← hm, List.getElem_map]
      rw [this]
    have hlen : rs[k].m.nodes.length ≤ 1048576 := by
      have h1 := sumN_mem (ms := m.eras) (k := k) (by omega)
      have e2 : m.eras[k]'(by omega) = rs[k].m := by simp only [← hm, List.getElem_map]
      rw [e2] at h1
      unfold sizRegister sizEraS at hs
      omega
    obtain ⟨yn, hyn⟩ : ∃ yn, yn = rs[k].m.nodes := ⟨_, rfl⟩
    rw [ee, ← hyn]
    rw [← hyn] at hlen
    have HR := dHide fun W (hb : Below w.heap.size w W) => hr.below hb
    have HN := dHide fun W (hb : Below w.heap.size w W) => (hn rs[k] (List.getElem_mem hk)).below hb
    obtain ⟨-, a, cap, rfl, -, -⟩ := hr
    have C1 := dHide fun W => l1In_yes ((k : Int) + 1) 1 (rs.length : Int) (by omega) (by omega) W
    generalize m.trim = tr at *
    have X0 := Bx.new w [.slice a rs.length cap, .int .i64 tr] 29
    have B0 := ba (.cells #[.slice a rs.length cap, .int .i64 tr] 29)
    have B1 := belowThen B0 ((Below.refl _ _).alloc (Nat.le_refl _) (.cells #[] 3))
    have X1 := X0.below ((Below.refl _ _).alloc (Nat.le_refl _) (.cells #[] 3))
    have k0 := X0 0 _ rfl
    have k1 := X1 0 _ rfl
    clear hs ok hm em hx X0 X1 ba ee
    go_enter Tryd.func11, Tryd.ntmps11
    go_wp2_with fail
    refine (dUnhide C1 _).mono ?_
    rintro e w1 ⟨rfl, rfl⟩
    obtain ⟨b, off, rfl, he⟩ := (dUnhide HR _ B1).era hk
    obtain ⟨c0, c1, c2⟩ := he k hk
    have hN := dUnhide HN _ B1
    unfold Sv at hN
    rw [← hyn] at hN c0
    have ek : (k : Int) + 1 - 1 = (k : Int) := by omega
    clear he C1 HR HN c1 c2 hyn
    generalize Value.slice rs[k].a yn.length rs[k].c = sv at *
    go_wp2_with (at_builtin; refine wp_cpN rfl _ _ rfl _ rfl _ yn rfl hN (by omega) ?_; intro u w2 O2 b2)
    go_ret
    exact ⟨⟨_, rfl, O2.mono B1.size⟩, belowThen B1 b2⟩
  · rw [eraN_no hx]
    obtain ⟨-, a, cap, rfl, -, -⟩ := hr
    have C1 := dHide fun W => l1In_no x 1 (rs.length : Int) (by omega) W
    generalize m.trim = tr at *
    clear hs ok hm em hn hx
    go_enter Tryd.func11, Tryd.ntmps11
    go_wp2_with fail
    refine (dUnhide C1 _).mono ?_
    rintro e w1 ⟨rfl, rfl⟩
    go_wp2
    go_ret
    exact ⟨⟨_, rfl, ⟨by simp, _, _, rfl, by simp, .inl rfl⟩⟩, belowThen (ba _) ((Below.refl _ _).alloc (Nat.le_refl _) _)⟩
end Go.Proofs.YtfipenjojgflmaaDoor
