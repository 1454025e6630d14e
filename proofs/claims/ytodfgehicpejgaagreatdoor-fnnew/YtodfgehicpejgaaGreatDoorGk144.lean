/- Several texts in one: CpN, RmP, DelG. -/
import Derived.Test.YtodfgehicpejgaaGreatDoorGk151
import Derived.Lib.SliceRun
import Derived.Deep.RegionHeld3
import Derived.Deep.DeepCutAuto
import Derived.Laws.IdiomCopy
namespace Go.Proofs.YtodfgehicpejgaaGreatDoor
open Go.ChangeShapes Go.WideShapes Go.ChangeAt Go.RowKit
set_option linter.unnecessarySimpa false
set_option linter.unusedSimpArgs false
set_option linter.unusedVariables false
set_option maxRecDepth 100000
theorem elemN : Elem (α := Int) 3 24 (.int .i64 0) 1 8 (fun x => [.int .i64 x]) where
 under := Tryz.underlying24
 info := by kernel_rfl
 zcells := by kernel_rfl
 pos := by decide
 len := fun _ => rfl
 one := fun a u hu => by simp at hu; subst hu; rfl
theorem Ns.rw1 {w : World} {v : Value} {xs : List Int} (h : Ns w v xs) : Rw 1 (fun x => [.int .i64 x]) w v xs := by
 obtain ⟨h0, a, cap, rfl, hcap, h⟩ := h
 refine ⟨h0, a, cap, rfl, hcap, ?_⟩
 rcases h with h | ⟨b, off, rfl, hc⟩
 ·exact .inl h
 ·refine .inr ⟨b, off, rfl, fun i hi j u hu => ?_⟩
  cases j with
  | zero => simp at hu; subst hu; simpa using hc i hi
  | succ j => simp at hu
theorem OwnRw.n1 {w : World} {base : Nat} {v : Value} {xs : List Int} (h : OwnRw 1 (fun x => [.int .i64 x]) w base v xs) : OwnN w base v xs := by
 obtain ⟨h0, a, cap, rfl, hcap, h⟩ := h
 refine ⟨h0, a, cap, rfl, hcap, ?_⟩
 rcases h with h | ⟨b, off, rfl, hb, hc⟩
 ·exact .inl h
 ·exact .inr ⟨b, off, rfl, hb, fun i hi => by simpa using hc i hi 0 _ rfl⟩
theorem run_cpN {w : World} (ty : TypeId) (a0 : Option Addr) (sv : Value) (xs : List Int) (hsrc : Ns w sv xs) (hb : xs.length ≤ 1099511627776) :
  ∃ v' w', (Builtin.append_ #[24, 24] ty #[.slice a0 0 0, sv]).run Tryz.prog w = .ok v' w' ∧ OwnN w' w.heap.size v' xs ∧ Below w.heap.size w w' := by
 obtain ⟨v', w', h1, h2, h3⟩ := run_cpR elemN ty a0 sv hsrc.rw1 (by omega)
 exact ⟨v', w', h1, (ApR.own elemN h2).n1, h3⟩
theorem wp_cpN {w : World} {ops : Array Oper} {rest : List Oper} {o : Oper} {a : Act} {Q : Exit → Act → World → Prop} (hgd : o.guard = none) (s x : Operand) (ho : o.op = .call { callee := .builtin .append, args := #[s, x], argTypes := #[24, 24] })
  (a0 : Option Addr) (hs : a.eval s = .slice a0 0 0) (sv : Value) (xs : List Int) (hx : a.eval x = sv) (hsrc : Ns w sv xs) (hb : xs.length ≤ 1099511627776)
  (h : ∀ v' w', OwnN w' w.heap.size v' xs → Below w.heap.size w w' → wpList Tryz.prog ops Q rest (a.put o.dst v') w') : wpList Tryz.prog ops Q (o :: rest) a w := by
 refine wpList_plain hgd fun K' hK' => ?_
 obtain ⟨v', w', hrun, h1, h2⟩ := run_cpN o.type a0 sv xs hsrc hb
 unfold Oper.wp
 simp [execOp, ho, resolve, invoke, builtin, hs, hx, hrun, Result.andThen]
 exact hK' _ _ (h v' w' h1 h2)
theorem OwnN.grown {w w' : World} {base : Nat} {v : Value} {xs : List Int} {row : Option Nat} (h : OwnN w base v xs) (g : w.grownBy w' row) (hn : xs = [] ∨ row ≠ some (bO v)) : OwnN w' base v xs := by
 have hlt := h.bs.lt
 obtain ⟨h0, a, cap, rfl, hcap, h⟩ := h
 refine ⟨h0, a, cap, rfl, hcap, ?_⟩
 rcases hn with hn | hn
 ·exact .inl hn
 ·rcases h with h | ⟨b, off, rfl, hb, hc⟩
  ·exact .inl h
  ·rcases hlt with hlt | hlt
   ·exact .inl hlt
   ·have e := g.block b hlt (fun e => hn e.symm)
    exact .inr ⟨b, off, rfl, hb, fun i hi => ⟨(World.cell?_of_block (a := ⟨b, off + i, none⟩) e).trans (hc i hi).1, (World.frozen?_of_block (a := ⟨b, off + i, none⟩) e).trans (hc i hi).2⟩⟩
def RmN (w : World) (base : Nat) (v : Value) (xs : List Int) : Prop := ApR 3 1 (fun x => [.int .i64 x]) w base v xs ∧ (xs = [] → touch v = none)
section
variable {w w' : World} {base base' : Nat} {v : Value} {xs : List Int}
theorem RmN.own (h : RmN w base v xs) : OwnN w base v xs := (ApR.own elemN h.1).n1
theorem RmN.bs (h : RmN w base v xs) : Ns w v xs := h.own.bs
theorem RmN.ge (h : RmN w base v xs) : xs = [] ∨ base ≤ bO v := h.own.ge
theorem RmN.mono (h : RmN w base v xs) (hb : base' ≤ base) : RmN w base' v xs := ⟨h.1.mono hb, h.2⟩
theorem RmN.below (h : RmN w base v xs) (hb : Below w.heap.size w w') : RmN w' base v xs := ⟨h.1.below hb, h.2⟩
theorem RmN.touch (h : RmN w base v xs) {j : Nat} (ht : touch v = some j) : xs ≠ [] ∧ j = bO v := by
 refine ⟨(fun e => by rw [h.2 e] at ht; cases ht), ?_⟩
 rcases h.1 with ⟨-, a, rfl⟩ | h'
 ·cases a <;> simp [Go.Proofs.YtodfgehicpejgaaGreatDoor.touch] at ht
 ·rcases h'.2 with ⟨rfl, -⟩ | ⟨g, cap, cur, rfl, -⟩
  ·simp [Go.Proofs.YtodfgehicpejgaaGreatDoor.touch] at ht
  ·by_cases hc : cap = 0
   ·simp [Go.Proofs.YtodfgehicpejgaaGreatDoor.touch, hc] at ht
   ·simp [Go.Proofs.YtodfgehicpejgaaGreatDoor.touch, hc] at ht
    exact ht.symm
theorem RmN.grown {row : Option Nat} (h : RmN w base v xs) (g : w.grownBy w' row) (hn : xs = [] ∨ row ≠ some (bO v)) : RmN w' base v xs := by
 refine ⟨h.1.kept elemN g ?_, h.2⟩
 cases row with
 | none => exact .inl rfl
 | some j =>
  right
  intro ht
  obtain ⟨h1, h2⟩ := h.touch ht
  rcases hn with hn | hn
  ·exact h1 hn
  ·exact hn (by rw [h2])
theorem RmN.far {b o : Nat} (h : RmN w base v xs) (hb : b < base) (u : Value) : RmN (w.setCell ⟨b, o, none⟩ u) base v xs := ⟨h.1.far elemN hb u, h.2⟩
end
set_option maxHeartbeats 1000000 in
theorem cloneI_any (v : Value) (xs : List Int) (w : World) (hv : Ns w v xs) (hl : xs.length ≤ 1048576) :
  Calls Tryz.prog 16 #[v] w fun e w' => (∃ u, e = .returned u ∧ RmN w' w.heap.size u xs) ∧ Below w.heap.size w w' := by
 have HV := dH fun W (hb : Below w.heap.size w W) => hv.below hb
 have hv' := hv
 obtain ⟨-, a, cap, rfl, hcap, hc⟩ := hv'
 cases a with
 | none =>
  have e0 : xs = [] := by
   rcases hc with h | ⟨b, off, h, -⟩
   ·exact h
   ·cases h
  subst e0
  have hnil : ∀ w, (binOp .eql 24 (.slice none 0 cap) (.slice none 0 0)).run Tryz.prog w = .ok (.bool true) w := fun w => Go.Lib.run_eql_slice_nil w 24 3 none _ _ 0 0 Tryz.underlying24
  have O : RmN w w.heap.size (.slice none 0 0) [] := ⟨.inl ⟨rfl, none, rfl⟩, fun _ => rfl⟩
  clear hv HV hc
  simp only [List.length_nil]
  go_enter Tryz.func16, Tryz.ntmps16
  go_wp2
  go_ret
  exact ⟨⟨_, rfl, O⟩, Below.refl _ _⟩
 | some ad =>
  have B1 := (Below.refl w.heap.size w).alloc (Nat.le_refl _) (.cells #[] 3)
  have hN := dU HV _ B1
  have hnil : ∀ w, (binOp .eql 24 (.slice (some ad) xs.length cap) (.slice none 0 0)).run Tryz.prog w = .ok (.bool false) w := fun w => Go.Lib.run_eql_slice_nil w 24 3 (some ad) _ _ 0 0 Tryz.underlying24
  clear hv HV hc
  by_cases he : xs = []
  ·subst he
   simp only [List.length_nil] at *
   clear hN
   go_enter Tryz.func16, Tryz.ntmps16
   go_wp2
   go_ret
   exact ⟨⟨_, rfl, .inl ⟨rfl, _, rfl⟩, fun _ => by simp [touch]⟩, B1⟩
  ·have HE := dH he
   clear he
   go_enter Tryz.func16, Tryz.ntmps16
   go_wp2_with (at_builtin; refine wp_cpR elemN rfl _ _ rfl _ rfl _ xs rfl hN.rw1 (by omega) ?_; intro u w2 O2 b2)
   go_ret
   exact ⟨⟨_, rfl, O2.mono B1.size, fun e => absurd e (dU HE)⟩, bT B1 b2⟩
theorem OwnN.at1 {w : World} {base b off n cap : Nat} {xs : List Int} (h : OwnN w base (.slice (some ⟨b, off, none⟩) n cap) xs) {k : Nat} (hk : k < xs.length) : w.cell? ⟨b, off + k, none⟩ = some (.int .i64 xs[k]) ∧ w.frozen? ⟨b, off + k, none⟩ = false := by
 obtain ⟨h0, a, c, e, hcap, h⟩ := h
 simp only [Value.slice.injEq] at e
 obtain ⟨rfl, rfl, rfl⟩ := e
 rcases h with h | ⟨b', off', e, hb, hc⟩
 ·subst h; simp at hk
 ·cases e
  exact hc k hk
def flQ (q : Int → Bool) (xs : List Int) : List Int := xs.filter fun z => !(q z)
theorem flQ_yes {q : Int → Bool} (xs : List Int) (k : Nat) (h : k < xs.length) (hx : q xs[k] = true) : flQ q (xs.take (k + 1)) = flQ q (xs.take k) := by
 rw [flQ, List.take_succ_eq_append_getElem h, List.filter_append]
 simp [flQ, hx]
theorem flQ_no {q : Int → Bool} (xs : List Int) (k : Nat) (h : k < xs.length) (hx : q xs[k] = false) : flQ q (xs.take (k + 1)) = flQ q (xs.take k) ++ [xs[k]] := by
 rw [flQ, List.take_succ_eq_append_getElem h, List.filter_append]
 simp [flQ, hx]
theorem flQ_same {q : Int → Bool} {xs : List Int} (h : ∀ x ∈ xs, q x = false) : flQ q xs = xs := by
 unfold flQ
 rw [List.filter_eq_self]
 intro a ha
 simp [h a ha]
theorem flQ_head {q : Int → Bool} {xs : List Int} {k : Nat} (h : ∀ i (h : i < xs.length), i < k → q xs[i] = false) : flQ q (xs.take k) = xs.take k := flQ_same fun x hm => by
 obtain ⟨i, hi, e⟩ := List.mem_iff_getElem.1 hm
 rw [List.length_take] at hi
 rw [List.getElem_take] at e
 rw [← e]
 exact h i (by omega) (by omega)
set_option maxHeartbeats 2000000 in
theorem indexG_any (v : Value) (xs : List Int) (F : Nat) (caps : Array Value) (q : Int → Bool) (w : World) (hF : ∀ args w, (callFunc F args).run Tryz.prog w = .ok (.enter F args) w) (hv : Ns w v xs)
  (hq : ∀ W, Below w.heap.size w W → ∀ z ∈ xs, Calls Tryz.prog F (#[.int .i64 z] ++ caps) W fun e w' => e = .returned (.bool (q z)) ∧ Below W.heap.size W w') :
  Calls Tryz.prog 229 #[v, .func (.func F) #[] caps] w fun e w' => (((∀ x ∈ xs, q x = false) ∧ e = .returned (.int .i64 (-1))) ∨ ∃ k, ∃ h : k < xs.length, (∀ i (h : i < xs.length), i < k → q xs[i] = false) ∧ q xs[k] = true ∧ e = .returned (.int .i64 (k : Int))) ∧ Below w.heap.size w w' := by
 have HV := dH fun W (hb : Below w.heap.size w W) => hv.below hb
 have HQ := dH hq
 have hl0 := hv.1
 obtain ⟨-, a, cap, rfl, -, -⟩ := hv
 clear hq
 go_enter Tryz.func229, Tryz.ntmps229
 go_wp2
 go_loopw [8] (fun y wr => ∃ k : Nat, y = .int .i64 (k : Int) ∧ k ≤ xs.length ∧ Hid (∀ i (h : i < xs.length), i < k → q xs[i] = false) ∧ Below w.heap.size w wr) (fun y _ => xs.length - (intOf y).toNat)
 case atStart => exact ⟨0, rfl, Nat.zero_le _, fun i h h' => by omega, Below.refl _ _⟩
 case round =>
  obtain ⟨k, rfl, hk, hcd, hb⟩ := hrel
  by_cases hlt : (k : Int) < (xs.length : Int)
  ·have hkl : k < xs.length := by omega
   obtain ⟨b, off, rfl, he⟩ : ∃ b off, a = some ⟨b, off, none⟩ ∧ ∀ i (h : i < xs.length), wr.cell? ⟨b, off + i, none⟩ = some (.int .i64 xs[i]) := by
    obtain ⟨-, a', c', e, -, h⟩ := dU HV wr hb
    simp only [Value.slice.injEq] at e
    obtain ⟨rfl, -, rfl⟩ := e
    rcases h with h | ⟨b, off, e, h⟩
    ·rw [h] at hkl; simp at hkl
    ·exact ⟨b, off, e, h⟩
   have ck := he k hkl
   have CE := dH (dU HQ wr hb xs[k] (List.getElem_mem hkl))
   cases hx : q xs[k] with
   | true =>
    rw [hx] at CE
    have G : Hid (∀ wz, Below w.heap.size w wz → (((∀ x ∈ xs, q x = false) ∧ (Ending.returned (.int .i64 (k : Int))) = .returned (.int .i64 (-1))) ∨ ∃ j, ∃ h : j < xs.length, (∀ i (h : i < xs.length), i < j → q xs[i] = false) ∧ q xs[j] = true ∧ (Ending.returned (.int .i64 (k : Int))) = .returned (.int .i64 (j : Int))) ∧ Below w.heap.size w wz) := fun wz hz => ⟨.inr ⟨k, hkl, dU hcd, hx, rfl⟩, hz⟩
    generalize xs[k] = y at ck CE
    clear he hx hcd
    go_wp2_with fail
    refine (dU CE).mono ?_
    rintro e w1 ⟨rfl, b1⟩
    clear CE
    go_wp2
    go_ret
    exact dU G _ (bT hb b1)
   | false =>
    rw [hx] at CE
    have H2 : Hid (∀ i (h : i < xs.length), i < k + 1 → q xs[i] = false) := fun i h hi => by
     by_cases e : i = k
     ·subst e; exact hx
     ·exact dU hcd i h (by omega)
    generalize xs[k] = y at ck CE
    clear he hx hcd
    go_wp2_with fail
    refine (dU CE).mono ?_
    rintro e w1 ⟨rfl, b1⟩
    clear CE
    go_wp2
    go_roundw
    case rel => exact ⟨k + 1, by go_num, by omega, H2, bT hb b1⟩
    case measure => simp [intOf]; omega
  ·have G := dH (show ∀ x ∈ xs, q x = false from fun x hm => by
    obtain ⟨i, hi, e⟩ := List.mem_iff_getElem.1 hm
    rw [← e]
    exact dU hcd i hi (by omega))
   clear hcd
   go_wp2
   go_ret
   exact ⟨.inl ⟨dU G, rfl⟩, hb⟩
def DelG (q : Int → Bool) (xs : List Int) (i j : Nat) (ys : List Int) : Prop := ys.length = xs.length ∧ i = (flQ q (xs.take j)).length ∧ i < j ∧ j ≤ xs.length ∧ ys.take i = flQ q (xs.take j) ∧ ∀ t (h : t < xs.length) (h' : t < ys.length), j ≤ t → ys[t] = xs[t]
theorem DelG.start {q : Int → Bool} {xs : List Int} {k : Nat} (hk : k < xs.length) (h : ∀ i (h : i < xs.length), i < k → q xs[i] = false) (hx : q xs[k] = true) : DelG q xs k (k + 1) xs := by
 have e1 := flQ_yes xs k hk hx
 have e2 := flQ_head (k := k) h
 refine ⟨rfl, ?_, by omega, by omega, ?_, fun t _ _ _ => rfl⟩
 ·rw [e1, e2, List.length_take]; omega
 ·rw [e1, e2]
theorem DelG.skip {q : Int → Bool} {xs ys : List Int} {i j : Nat} (h : DelG q xs i j ys) (hj : j < xs.length) (hx : q xs[j] = true) : DelG q xs i (j + 1) ys := by
 obtain ⟨h1, h2, h3, h4, h5, h6⟩ := h
 have e1 := flQ_yes xs j hj hx
 exact ⟨h1, by rw [e1]; exact h2, by omega, by omega, by rw [e1]; exact h5, fun t ht ht' hjt => h6 t ht ht' (by omega)⟩
theorem DelG.keep {q : Int → Bool} {xs ys : List Int} {i j : Nat} (h : DelG q xs i j ys) (hj : j < xs.length) (hx : q xs[j] = false) : DelG q xs (i + 1) (j + 1) (ys.set i xs[j]) := by
 obtain ⟨h1, h2, h3, h4, h5, h6⟩ := h
 have e1 := flQ_no xs j hj hx
 refine ⟨by rw [List.length_set]; exact h1, by rw [e1, List.length_append, ← h2]; rfl, by omega, by omega, ?_, fun t ht ht' hjt => ?_⟩
 ·rw [e1, ← h5, List.take_succ_eq_append_getElem (by rw [List.length_set]; omega), List.getElem_set_self, List.take_set_of_le (Nat.le_refl _)]
 ·rw [List.getElem_set_ne (by omega)]
  exact h6 t ht (by rw [List.length_set] at ht'; exact ht') (by omega)
end Go.Proofs.YtodfgehicpejgaaGreatDoor
