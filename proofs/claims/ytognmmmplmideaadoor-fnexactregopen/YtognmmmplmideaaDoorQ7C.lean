/- RegOpen, RegClose, RegTrim: spec's and impl's answers, as the laws on them ask for them. -/
import Derived.Test.YtognmmmplmideaaDoorImGj
namespace Go.Proofs.YtognmmmplmideaaDoor
open Go.ChangeShapes Go.WideShapes Go.ChangeAt Go.RowKit
set_option linter.unusedVariables false

theorem sumN_app (l r : List Er) : sumN (l ++ r) = sumN l + sumN r := by simp [sumN]
theorem sumN_set (l : List Er) (k : Nat) (e : Er) (h : ∀ hk : k < l.length, e.nodes = l[k].nodes) : sumN (l.set k e) = sumN l := by
  induction l generalizing k with
  | nil => rfl
  | cons a l ih =>
    cases k with
    | zero =>
      have := h (by simp)
      simp only [List.getElem_cons_zero] at this
      simp [sumN, this]
    | succ k =>
      have := ih k (fun hk => by have := h (by simpa using hk); simpa using this)
      simp only [List.set_cons_succ, sumN, List.map_cons, List.sum_cons] at *
      omega
theorem cnt_trim {ds : List Int} {cop : Int} {m : Rg} {x : Int} (h : sizRegister m ≤ 1048576) : cntRegister (trimR ds cop m x).1 ≤ 4194304 := by
  have h0 := cntRegister_le h
  by_cases hP : regP ds cop m
  · by_cases hq : plIn m.eras.length x
    · rw [trimR_yes hP hq]; exact Nat.le_trans (show cntRegister ⟨m.eras, max m.trim x⟩ ≤ 2097152 from h0) (by decide)
    · rw [trimR_no hP hq]; exact Nat.le_trans h0 (by decide)
  · rw [trimR_bad hP]; decide
theorem cnt_close {ds : List Int} {cop : Int} {m : Rg} {x y : Int} (h : sizRegister m ≤ 1048576) : cntRegister (closeM ds cop m x y).1 ≤ 4194304 := by
  have h0 := cntRegister_le h
  by_cases hP : regP ds cop m
  · by_cases hq : closeP m x y
    · rw [closeM_yes hP hq]
      have e1 : sumN (closeE m.eras (firstO m.eras - 1) y) = sumN m.eras := sumN_set _ _ _ fun hk => by rw [getD_lt _ hk]
      have e2 : (closeE m.eras (firstO m.eras - 1) y).length = m.eras.length := by simp [closeE]
      unfold cntRegister cntEraS at *
      simp only [e1, e2]
      omega
    · rw [closeM_no hP hq]; exact Nat.le_trans h0 (by decide)
  · rw [closeM_bad hP]; decide
theorem cnt_open {ds : List Int} {cop : Int} {m : Rg} {xs : List Int} (h : sizRegister m ≤ 1048576) (hx : xs.length ≤ 1048576) : cntRegister (openM ds cop m xs).1 ≤ 4194304 := by
  have h0 := cntRegister_le h
  by_cases hP : regP ds cop m
  · by_cases hq : openP ds cop m xs
    · rw [openM_yes hP hq]
      unfold cntRegister cntEraS at *
      simp only [sumN_app, List.length_append]
      have : sumN [(⟨xs, false, 0⟩ : Er)] = xs.length := by simp [sumN]
      rw [this]
      simp
      omega
    · rw [openM_no hP hq]; exact Nat.le_trans h0 (by decide)
  · rw [openM_bad hP]; decide
theorem bothRegTrim_ (m0 : List Int × Int) (m1 : Rg) (m2 : Int) (ok0 : okConfig m0) (ok1 : okRegister m1) (ok2 : okInt m2) (hs0 : sizConfig m0 ≤ 1048576) (hs1 : sizRegister m1 ≤ 1048576) (w : World) (e0 e1 : Addr) (hS : Snt w e0 e1) : ∃ (R : Rg) (s1 : Bool), cntRegister R ≤ 4194304 ∧ (∀ W v0 v1, RdConfig v0 m0 W → RdRegister v1 m1 W → Calls Tryd.prog 24 #[v0, v1, .int .i64 m2] W fun e w' => ∃ u, e = .returned (.tuple #[u, .bool s1]) ∧ Sits (OwRegister W.heap.size w'.heap.size u R) W.heap.size w'.heap.size w' ∧ Below W.heap.size W w') ∧ (∀ W, Below w.heap.size w W → ∀ v0 v1, RdConfig v0 m0 W → RdRegister v1 m1 W → Calls Tryd.prog 23 #[v0, v1, .int .i64 m2] W fun e w' => ∃ u, e = .returned (.tuple #[u, .bool s1]) ∧ Sits (OwRegister W.heap.size w'.heap.size u R) W.heap.size w'.heap.size w' ∧ Below W.heap.size W w') :=
  ⟨_, _, cnt_trim hs1, fun W v0 v1 h0 h1 => (specRegTrim_any v0 v1 m0 m1 m2 ok2 W h0 h1 ok1 hs1).mono fun e w' ⟨⟨u, q1, q2⟩, q3⟩ => ⟨u, q1, q2.sits (Nat.le_refl _), q3⟩, fun W hb v0 v1 h0 h1 => (implRegTrim_any v0 v1 m0 m1 m2 ok2 W e0 e1 (hS.below hb (Nat.le_refl _)) h0 h1 ok0 ok1 hs0 hs1).mono fun e w' ⟨⟨u, q1, q2⟩, q3⟩ => ⟨u, q1, q2.sits (Nat.le_refl _), q3⟩⟩
theorem bothRegClose_ (m0 : List Int × Int) (m1 : Rg) (m2 m3 : Int) (ok0 : okConfig m0) (ok1 : okRegister m1) (ok2 : okInt m2) (ok3 : okInt m3) (hs0 : sizConfig m0 ≤ 1048576) (hs1 : sizRegister m1 ≤ 1048576) (w : World) (e0 e1 : Addr) (hS : Snt w e0 e1) : ∃ (R : Rg) (s1 : Bool), cntRegister R ≤ 4194304 ∧ (∀ W v0 v1, RdConfig v0 m0 W → RdRegister v1 m1 W → Calls Tryd.prog 20 #[v0, v1, .int .i64 m2, .int .i64 m3] W fun e w' => ∃ u, e = .returned (.tuple #[u, .bool s1]) ∧ Sits (OwRegister W.heap.size w'.heap.size u R) W.heap.size w'.heap.size w' ∧ Below W.heap.size W w') ∧ (∀ W, Below w.heap.size w W → ∀ v0 v1, RdConfig v0 m0 W → RdRegister v1 m1 W → Calls Tryd.prog 19 #[v0, v1, .int .i64 m2, .int .i64 m3] W fun e w' => ∃ u, e = .returned (.tuple #[u, .bool s1]) ∧ Sits (OwRegister W.heap.size w'.heap.size u R) W.heap.size w'.heap.size w' ∧ Below W.heap.size W w') :=
  ⟨_, _, cnt_close hs1, fun W v0 v1 h0 h1 => (specRegClose_any v0 v1 m0 m1 m2 m3 ok2 ok3 W h0 h1 ok1 hs1).mono fun e w' ⟨⟨u, q1, q2⟩, q3⟩ => ⟨u, q1, q2.sits (Nat.le_refl _), q3⟩, fun W hb v0 v1 h0 h1 => (implRegClose_any v0 v1 m0 m1 m2 m3 ok2 ok3 W e0 e1 (hS.below hb (Nat.le_refl _)) h0 h1 ok0 ok1 hs0 hs1).mono fun e w' ⟨⟨u, q1, q2⟩, q3⟩ => ⟨u, q1, q2.sits (Nat.le_refl _), q3⟩⟩
theorem bothRegOpen_ (m0 : List Int × Int) (m1 : Rg) (m2 : List Int) (ok0 : okConfig m0) (ok1 : okRegister m1) (ok2 : okIntS m2) (hs0 : sizConfig m0 ≤ 1048576) (hs1 : sizRegister m1 ≤ 1048576) (hs2 : sizIntS m2 ≤ 1048576) (w : World) (e0 e1 : Addr) (hS : Snt w e0 e1) : ∃ (R : Rg) (s1 : Int) (s2 : Bool), cntRegister R ≤ 4194304 ∧ (∀ W v0 v1 v2, RdConfig v0 m0 W → RdRegister v1 m1 W → RdIntS v2 m2 W → Calls Tryd.prog 12 #[v0, v1, v2] W fun e w' => ∃ u, e = .returned (.tuple #[u, .int .i64 s1, .bool s2]) ∧ Sits (OwRegister W.heap.size w'.heap.size u R) W.heap.size w'.heap.size w' ∧ Below W.heap.size W w') ∧ (∀ W, Below w.heap.size w W → ∀ v0 v1 v2, RdConfig v0 m0 W → RdRegister v1 m1 W → RdIntS v2 m2 W → Calls Tryd.prog 11 #[v0, v1, v2] W fun e w' => ∃ u, e = .returned (.tuple #[u, .int .i64 s1, .bool s2]) ∧ Sits (OwRegister W.heap.size w'.heap.size u R) W.heap.size w'.heap.size w' ∧ Below W.heap.size W w') :=
  ⟨_, _, _, cnt_open hs1 hs2, fun W v0 v1 v2 h0 h1 h2 => (specRegOpen_any v0 v1 m0 m1 v2 m2 W h0 h1 h2 hs2 ok1 hs1).mono fun e w' ⟨⟨u, q1, q2⟩, q3⟩ => ⟨u, q1, q2.sits (Nat.le_refl _), q3⟩, fun W hb v0 v1 v2 h0 h1 h2 => (implRegOpen_any v0 v1 v2 m0 m1 m2 W e0 e1 (hS.below hb (Nat.le_refl _)) h0 h1 h2 ok2 hs2 ok0 ok1 hs0 hs1).mono fun e w' ⟨⟨u, q1, q2⟩, q3⟩ => ⟨u, q1, q2.sits (Nat.le_refl _), q3⟩⟩
end Go.Proofs.YtognmmmplmideaaDoor
