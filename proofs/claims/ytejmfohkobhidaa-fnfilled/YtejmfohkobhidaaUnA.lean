/- The union of lists of entries: the plain model; merging two, and halves. -/
import Derived.Test.YtejmfohkobhidaaGbE
namespace Go.Proofs.Ytejmfohkobhidaa
set_option linter.unusedVariables false

/-- Ascending by place. -/
def ascQ (l : List Ent) : Prop := l.Pairwise (fun a b => a.pl < b.pl)
/-- Each of a list is kept. -/
def keepAll (acc l : List Ent) : List Ent := l.foldl (fun a e => keepL e a) acc
/-- Two lists merged. -/
def mrgL : List Ent → List Ent → List Ent
  | [], b => b
  | a :: xs, [] => a :: xs
  | a :: xs, b :: ys => if a.pl < b.pl then a :: mrgL xs (b :: ys) else if b.pl < a.pl then b :: mrgL (a :: xs) ys else better a b :: mrgL xs ys
termination_by a b => a.length + b.length
theorem mrgL_nil (b : List Ent) : mrgL [] b = b := by unfold mrgL; rfl
theorem mrgL_nil' (a : List Ent) : mrgL a [] = a := by cases a <;> unfold mrgL <;> rfl
theorem mrgL_lt {a b : Ent} (xs ys : List Ent) (h : a.pl < b.pl) : mrgL (a :: xs) (b :: ys) = a :: mrgL xs (b :: ys) := by rw [mrgL, if_pos h]
theorem mrgL_gt {a b : Ent} (xs ys : List Ent) (h : b.pl < a.pl) : mrgL (a :: xs) (b :: ys) = b :: mrgL (a :: xs) ys := by rw [mrgL, if_neg (by omega), if_pos h]
theorem mrgL_eq {a b : Ent} (xs ys : List Ent) (h : a.pl = b.pl) : mrgL (a :: xs) (b :: ys) = better a b :: mrgL xs ys := by rw [mrgL, if_neg (by omega), if_neg (by omega)]
theorem keepL_lt {e x : Ent} {l : List Ent} (h : x.pl < e.pl) : keepL e (x :: l) = x :: keepL e l := by
  conv => lhs; unfold keepL
  rw [if_neg (by omega), if_neg (by omega)]
theorem keepL_gt {e x : Ent} {l : List Ent} (h : e.pl < x.pl) : keepL e (x :: l) = e :: x :: l := by
  conv => lhs; unfold keepL
  rw [if_neg (by omega), if_pos h]
theorem keepL_eq {e x : Ent} {l : List Ent} (h : x.pl = e.pl) : keepL e (x :: l) = better x e :: l := by
  conv => lhs; unfold keepL
  rw [if_pos h]
theorem keepAll_head {x : Ent} {b : List Ent} : ∀ (l : List Ent), (∀ y ∈ b, x.pl < y.pl) → keepAll (x :: l) b = x :: keepAll l b := by
  induction b with
  | nil => intro l _; rfl
  | cons y ys ih =>
    intro l h
    show keepAll (keepL y (x :: l)) ys = x :: keepAll (keepL y l) ys
    rw [keepL_lt (h y (by simp)), ih _ fun z hz => h z (by simp [hz])]
/-- Merging is keeping each. -/
theorem mrgL_keep (a b : List Ent) (ha : ascQ a) (hb : ascQ b) : mrgL a b = keepAll a b := by
  induction hn : a.length + b.length using Nat.strongRecOn generalizing a b with
  | ind n ih =>
    cases b with
    | nil => rw [mrgL_nil']; rfl
    | cons y ys =>
      obtain ⟨hb1, hb2⟩ := List.pairwise_cons.1 hb
      cases a with
      | nil =>
        rw [mrgL_nil]
        show _ = keepAll [y] ys
        rw [keepAll_head [] hb1]
        have := ih ([] : List Ent).length.succ
        have e := ih (([] : List Ent).length + ys.length) (by simp at hn; simp; omega) [] ys List.Pairwise.nil hb2 rfl
        rw [mrgL_nil] at e
        rw [← e]
      | cons x xs =>
        obtain ⟨ha1, ha2⟩ := List.pairwise_cons.1 ha
        simp only [List.length_cons] at hn
        rcases Int.lt_trichotomy x.pl y.pl with h | h | h
        · rw [mrgL_lt _ _ h, ih (xs.length + (y :: ys).length) (by simp; omega) xs (y :: ys) ha2 hb rfl]
          rw [keepAll_head xs fun z hz => ?_]
          rcases List.mem_cons.1 hz with rfl | hz
          · exact h
          · have := hb1 z hz
            omega
        · rw [mrgL_eq _ _ h, ih (xs.length + ys.length) (by omega) xs ys ha2 hb2 rfl]
          show _ = keepAll (keepL y (x :: xs)) ys
          rw [keepL_eq h, keepAll_head xs fun z hz => ?_]
          rw [better_pl h, h]
          exact hb1 z hz
        · rw [mrgL_gt _ _ h, ih ((x :: xs).length + ys.length) (by simp; omega) (x :: xs) ys ha hb2 rfl]
          show _ = keepAll (keepL y (x :: xs)) ys
          rw [keepL_gt h, keepAll_head (x :: xs) hb1]
theorem keepAll_asc {b : List Ent} : ∀ {a : List Ent}, ascQ a → ascQ (keepAll a b) := by
  induction b with
  | nil => intro a h; exact h
  | cons y ys ih => intro a h; exact ih (keepL_asc h)
theorem mrgL_asc {a b : List Ent} (ha : ascQ a) (hb : ascQ b) : ascQ (mrgL a b) := by rw [mrgL_keep a b ha hb]; exact keepAll_asc ha
theorem better_asso3 {a b c : Ent} : better (better a b) c = better a (better b c) := by
  unfold better
  split <;> split <;> (try split) <;> first | rfl | omega
/-- It does not matter which two are merged first. -/
theorem mrgL_assoc (a b c : List Ent) : mrgL (mrgL a b) c = mrgL a (mrgL b c) := by
  induction hn : a.length + b.length + c.length using Nat.strongRecOn generalizing a b c with
  | ind n ih =>
    cases a with
    | nil => rw [mrgL_nil, mrgL_nil]
    | cons x xs =>
      cases b with
      | nil => rw [mrgL_nil', mrgL_nil]
      | cons y ys =>
        cases c with
        | nil => rw [mrgL_nil', mrgL_nil']
        | cons z zs =>
          simp only [List.length_cons] at hn
          have i1 := ih (xs.length + (y :: ys).length + (z :: zs).length) (by simp; omega) xs (y :: ys) (z :: zs) rfl
          have i2 := ih ((x :: xs).length + ys.length + (z :: zs).length) (by simp; omega) (x :: xs) ys (z :: zs) rfl
          have i3 := ih ((x :: xs).length + (y :: ys).length + zs.length) (by simp; omega) (x :: xs) (y :: ys) zs rfl
          have i4 := ih (xs.length + ys.length + (z :: zs).length) (by simp; omega) xs ys (z :: zs) rfl
          have i5 := ih (xs.length + (y :: ys).length + zs.length) (by simp; omega) xs (y :: ys) zs rfl
          have i6 := ih ((x :: xs).length + ys.length + zs.length) (by simp; omega) (x :: xs) ys zs rfl
          have i7 := ih (xs.length + ys.length + zs.length) (by omega) xs ys zs rfl
          rcases Int.lt_trichotomy x.pl y.pl with h | h | h
          · rcases Int.lt_trichotomy y.pl z.pl with k | k | k
            · rw [mrgL_lt _ _ h, mrgL_lt _ _ (show x.pl < z.pl by omega), i1, mrgL_lt _ _ k, mrgL_lt _ _ h]
            · rw [mrgL_lt _ _ h, mrgL_lt _ _ (show x.pl < z.pl by omega), i1, mrgL_eq _ _ k, mrgL_lt _ _ (show x.pl < (better y z).pl by rw [better_pl k]; exact h)]
            · rcases Int.lt_trichotomy x.pl z.pl with q | q | q
              · rw [mrgL_lt _ _ h, mrgL_lt _ _ q, i1, mrgL_gt _ _ k, mrgL_lt _ _ q]
              · rw [mrgL_lt _ _ h, mrgL_eq _ _ q, i5, mrgL_gt _ _ k, mrgL_eq _ _ q]
              · rw [mrgL_lt _ _ h, mrgL_gt _ _ q, ← mrgL_lt xs ys h, i3, mrgL_gt _ _ k, mrgL_gt _ _ q]
          · rcases Int.lt_trichotomy y.pl z.pl with k | k | k
            · rw [mrgL_eq _ _ h, mrgL_lt _ _ (show (better x y).pl < z.pl by rw [better_pl h]; omega), i4, mrgL_lt _ _ k, mrgL_eq _ _ h]
            · rw [mrgL_eq _ _ h, mrgL_eq _ _ (show (better x y).pl = z.pl by rw [better_pl h]; omega), i7, mrgL_eq _ _ k, mrgL_eq _ _ (show x.pl = (better y z).pl by rw [better_pl k]; omega), better_asso3]
            · rw [mrgL_eq _ _ h, mrgL_gt _ _ (show z.pl < (better x y).pl by rw [better_pl h]; omega), ← mrgL_eq xs ys h, i3, mrgL_gt _ _ k, mrgL_gt _ _ (show z.pl < x.pl by omega)]
          · rcases Int.lt_trichotomy y.pl z.pl with k | k | k
            · rw [mrgL_gt _ _ h, mrgL_lt _ _ k, i2, mrgL_lt _ _ k, mrgL_gt _ _ h]
            · rw [mrgL_gt _ _ h, mrgL_eq _ _ k, i6, mrgL_eq _ _ k, mrgL_gt _ _ (show (better y z).pl < x.pl by rw [better_pl k]; exact h)]
            · rw [mrgL_gt _ _ h, mrgL_gt _ _ k, ← mrgL_gt xs ys h, i3, mrgL_gt _ _ k, mrgL_gt _ _ (show z.pl < x.pl by omega)]
/-- All lists merged, from the first. -/
def mrgA (ls : List (List Ent)) : List Ent := ls.foldl mrgL []
theorem mrgA_from (ls : List (List Ent)) : ∀ acc, ls.foldl mrgL acc = mrgL acc (mrgA ls) := by
  induction ls with
  | nil => intro acc; show acc = mrgL acc []; rw [mrgL_nil']
  | cons l ls ih =>
    intro acc
    show ls.foldl mrgL (mrgL acc l) = mrgL acc (ls.foldl mrgL (mrgL [] l))
    rw [ih, ih (mrgL [] l), mrgL_nil, mrgL_assoc]
/-- Halves. -/
theorem mrgA_app (xs ys : List (List Ent)) : mrgA (xs ++ ys) = mrgL (mrgA xs) (mrgA ys) := by
  unfold mrgA
  rw [List.foldl_append, mrgA_from ys]
  rfl
theorem mrgA_one (l : List Ent) : mrgA [l] = l := by show mrgL [] l = l; rw [mrgL_nil]
theorem mrgA_asc {ls : List (List Ent)} (h : ∀ l ∈ ls, ascQ l) : ascQ (mrgA ls) := by
  have : ∀ (ls : List (List Ent)) acc, ascQ acc → (∀ l ∈ ls, ascQ l) → ascQ (ls.foldl mrgL acc) := by
    intro ls
    induction ls with
    | nil => intro acc h _; exact h
    | cons l ls ih => intro acc ha h; exact ih _ (mrgL_asc ha (h l (by simp))) fun q hq => h q (by simp [hq])
  exact this ls [] List.Pairwise.nil h
/-- What l11Union makes: each entry of each store is kept. -/
def unL (ls : List (List Ent)) : List Ent := ls.foldl keepAll []
theorem unL_snoc (ls : List (List Ent)) (l : List Ent) : unL (ls ++ [l]) = keepAll (unL ls) l := by unfold unL; rw [List.foldl_append]; rfl
theorem keepAll_snoc (a l : List Ent) (e : Ent) : keepAll a (l ++ [e]) = keepL e (keepAll a l) := by unfold keepAll; rw [List.foldl_append]; rfl
theorem mrgA_unL {ls : List (List Ent)} (h : ∀ l ∈ ls, ascQ l) : mrgA ls = unL ls := by
  have : ∀ (ls : List (List Ent)) acc, ascQ acc → (∀ l ∈ ls, ascQ l) → ls.foldl mrgL acc = ls.foldl keepAll acc := by
    intro ls
    induction ls with
    | nil => intro acc _ _; rfl
    | cons l ls ih =>
      intro acc ha h
      show ls.foldl mrgL (mrgL acc l) = ls.foldl keepAll (keepAll acc l)
      rw [mrgL_keep acc l ha (h l (by simp))]
      exact ih _ (keepAll_asc ha) fun q hq => h q (by simp [hq])
  exact this ls [] List.Pairwise.nil h
theorem mrgL_len : ∀ (n : Nat) (a b : List Ent), a.length + b.length = n → (mrgL a b).length ≤ a.length + b.length := by
  intro n
  induction n using Nat.strongRecOn with
  | ind n ih =>
    intro a b hn
    cases a with
    | nil => rw [mrgL_nil]; simp
    | cons x xs =>
      cases b with
      | nil => rw [mrgL_nil']; simp
      | cons y ys =>
        simp only [List.length_cons] at hn
        rcases Int.lt_trichotomy x.pl y.pl with h | h | h
        · have := ih (xs.length + (y :: ys).length) (by simp; omega) xs (y :: ys) rfl
          rw [mrgL_lt _ _ h]
          simp only [List.length_cons] at this ⊢
          omega
        · have := ih (xs.length + ys.length) (by omega) xs ys rfl
          rw [mrgL_eq _ _ h]
          simp only [List.length_cons] at this ⊢
          omega
        · have := ih ((x :: xs).length + ys.length) (by simp; omega) (x :: xs) ys rfl
          rw [mrgL_gt _ _ h]
          simp only [List.length_cons] at this ⊢
          omega
/-- How many there are. -/
def sumQ (ls : List (List Ent)) : Nat := (ls.map List.length).sum
theorem sumQ_app (xs ys : List (List Ent)) : sumQ (xs ++ ys) = sumQ xs + sumQ ys := by unfold sumQ; rw [List.map_append, List.sum_append]
theorem mrgA_len (ls : List (List Ent)) : (mrgA ls).length ≤ sumQ ls := by
  have : ∀ (ls : List (List Ent)) acc, (ls.foldl mrgL acc).length ≤ acc.length + sumQ ls := by
    intro ls
    induction ls with
    | nil => intro acc; simp [sumQ]
    | cons l ls ih =>
      intro acc
      have h1 := ih (mrgL acc l)
      have h2 := mrgL_len _ acc l rfl
      have h3 : sumQ (l :: ls) = l.length + sumQ ls := by simp [sumQ]
      show (ls.foldl mrgL (mrgL acc l)).length ≤ _
      omega
  have := this ls []
  simpa [mrgA] using this
end Go.Proofs.Ytejmfohkobhidaa
