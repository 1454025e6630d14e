/- Several texts in one: RetQ, CpE, BoxQ, BoxR, MnF, BigB. -/
import Derived.Test.YtjkjmapibcfcdaaGreatGaA
import Derived.Test.YtjkjmapibcfcdaaGreatGbF
import Derived.Test.YtjkjmapibcfcdaaGreatGaD
namespace Go.Proofs.YtjkjmapibcfcdaaGreat
open Go.ChangeShapes Go.WideShapes Go.ChangeAt Go.RowKit
set_option linter.unusedSimpArgs false
set_option linter.unusedVariables false
set_option maxRecDepth 100000
theorem retB_yes {F : Nat} {args : Array Value} {w : World} {p : Prop} (h : Calls Tryz.prog F args w fun e w' => RetB p e ∧ Below w.heap.size w w') (hp : p) : Calls Tryz.prog F args w fun e w' => e = .returned (.bool true) ∧ Below w.heap.size w w' := h.mono fun e w' ⟨h1, h2⟩ => ⟨h1.of_yes hp, h2⟩
theorem retB_no {F : Nat} {args : Array Value} {w : World} {p : Prop} (h : Calls Tryz.prog F args w fun e w' => RetB p e ∧ Below w.heap.size w w') (hp : ¬ p) : Calls Tryz.prog F args w fun e w' => e = .returned (.bool false) ∧ Below w.heap.size w w' := h.mono fun e w' ⟨h1, h2⟩ => ⟨h1.of_no hp, h2⟩
def CpE (w : World) (base : Nat) (v : Value) (es : List Ent) : Prop := ApE w base v es ∧ (es = [] → touch v = none)
section
variable {w w' : World} {base base' : Nat} {v : Value} {es : List Ent}
theorem CpE.own (h : CpE w base v es) : OwnRw 4 Ent.cl w base v es := ApR.own elemE h.1
theorem CpE.lt (h : CpE w base v es) : es = [] ∨ bO v < w.heap.size := h.own.lt
theorem CpE.ge (h : CpE w base v es) : es = [] ∨ base ≤ bO v := h.own.ge
theorem CpE.below (h : CpE w base v es) (hb : Below w.heap.size w w') : CpE w' base v es := ⟨h.1.below hb, h.2⟩
theorem CpE.mono (h : CpE w base v es) (hb : base' ≤ base) : CpE w base' v es := ⟨h.1.mono hb, h.2⟩
theorem CpE.touch (h : CpE w base v es) {j : Nat} (ht : touch v = some j) : es ≠ [] ∧ j = bO v := by
 have hne : es ≠ [] := fun e => by rw [h.2 e] at ht; cases ht
 refine ⟨hne, ?_⟩
 rcases h.1 with ⟨h', -⟩ | h'
 ·exact absurd h' hne
 ·rcases h'.2 with ⟨rfl, -⟩ | ⟨g, cap, cur, rfl, -⟩
  ·simp [Go.Proofs.YtjkjmapibcfcdaaGreat.touch] at ht
  ·by_cases hc : cap = 0
   ·simp [Go.Proofs.YtjkjmapibcfcdaaGreat.touch, hc] at ht
   ·simp [Go.Proofs.YtjkjmapibcfcdaaGreat.touch, hc] at ht
    exact ht.symm
theorem CpE.put4 {b o : Nat} (h : CpE w base v es) (hb : es = [] ∨ bO v ≠ b) (u : Value) : CpE (w.setCell ⟨b, o, none⟩ u) base v es := ⟨ApR.put elemE h.1 (fun e => by
 obtain ⟨q1, q2⟩ := h.touch e
 rcases hb with hb | hb
 ·exact q1 hb
 ·exact hb q2.symm) u, h.2⟩
theorem CpE.grown4 {row : Option Nat} (h : CpE w base v es) (g : w.grownBy w' row) (hn : es = [] ∨ row ≠ some (bO v)) : CpE w' base v es := by
 refine ⟨?_, h.2⟩
 cases row with
 | none => exact ApR.kept elemE h.1 g (.inl rfl)
 | some j =>
  refine ApR.kept elemE h.1 g (.inr fun e => ?_)
  obtain ⟨q1, q2⟩ := h.touch e
  rcases hn with hn | hn
  ·exact q1 hn
  ·exact hn (by rw [q2])
theorem CpE.farE {b o : Nat} (h : CpE w base v es) (hb : b < base) (u : Value) : CpE (w.setCell ⟨b, o, none⟩ u) base v es := ⟨ApR.far elemE h.1 hb u, h.2⟩
end
theorem run_cp0 (w : World) (a0 a : Option Addr) (c : Nat) (ty : TypeId) : (Builtin.append_ #[27, 27] ty #[.slice a0 0 0, .slice a 0 c]).run Tryz.prog w = .ok (.slice a0 0 0) w := by
 cases a0 <;> cases a <;> kernel_rfl
theorem run_cpE {w : World} {ea : Option Addr} {ec : Nat} {es : List Ent} (ty : TypeId) (a0 : Option Addr) (hsrc : Rw 4 Ent.cl w (.slice ea es.length ec) es) (hb : es.length * 40 ≤ 140737488355328) :
  ∃ v' w', (Builtin.append_ #[27, 27] ty #[.slice a0 0 0, .slice ea es.length ec]).run Tryz.prog w = .ok v' w' ∧ CpE w' w.heap.size v' es ∧ Below w.heap.size w w' := by
 by_cases he : es = []
 ·subst he
  exact ⟨_, _, run_cp0 w a0 ea ec ty, ⟨.inl ⟨rfl, a0, rfl⟩, fun _ => by cases a0 <;> simp [touch]⟩, Below.refl _ _⟩
 ·obtain ⟨v', w', h1, h2, h3⟩ := run_cpR elemE ty a0 _ hsrc hb
  exact ⟨v', w', h1, ⟨h2, fun e => absurd e he⟩, h3⟩
theorem BxZ.made {w w' : World} {B : Nat} {a b c : Value} {T : TypeId} (h : B ≤ w.heap.size) (hb : Below (w.alloc (.cells #[a, b, c] T)).heap.size (w.alloc (.cells #[a, b, c] T)) w') : BxZ w' B w.heap.size [a, b, c] :=
 (BxZ.new w [a, b, c] T h).below hb
theorem Bx.sits {w : World} {b : Nat} {v : Value} {vs : List Value} (h : Bx w b (v :: vs)) : Sits (Box b (v :: vs).toArray) b (b + 1) w := by
 refine ⟨by have := dCell_lt (h 0 v rfl); exact this, fun W hW i u hu => ?_⟩
 have e := hW b (Nat.le_refl _) (by omega)
 have hu' : (v :: vs)[i]? = some u := by simpa using hu
 rw [← h i u hu']
 exact World.cell?_of_block e
def idxL {α : Type} (q : α → Bool) : List α → Int
 | [] => -1
 | e :: l => if q e then 0 else (if idxL q l = -1 then -1 else idxL q l + 1)
theorem idxL_ge {α : Type} (q : α → Bool) : ∀ l : List α, -1 ≤ idxL q l ∧ idxL q l < l.length
 | [] => by simp [idxL]
 | e :: l => by
  have := idxL_ge q l
  unfold idxL
  split
  ·simp <;> omega
  ·split <;> simp <;> omega
theorem idxL_none {α : Type} (q : α → Bool) : ∀ l : List α, (∀ i (h : i < l.length), q l[i] = false) → idxL q l = -1
 | [], _ => rfl
 | e :: l, h => by
  have h0 : q e = false := h 0 (by simp)
  have h1 := idxL_none q l fun i hi => h (i + 1) (by simpa using hi)
  unfold idxL
  rw [h0, h1]
  rfl
theorem idxL_at {α : Type} (q : α → Bool) : ∀ (l : List α) (k : Nat) (hk : k < l.length), (∀ i (h : i < l.length), i < k → q l[i] = false) → q l[k] = true → idxL q l = (k : Int)
 | [], k, hk, _, _ => by simp at hk
 | e :: l, 0, hk, _, ho => by
  have h0 : q e = true := ho
  unfold idxL
  rw [h0]
  rfl
 | e :: l, k + 1, hk, h, ho => by
  have h0 : q e = false := h 0 (by simp) (by omega)
  have h1 := idxL_at q l k (by simpa using hk) (fun i hi hik => h (i + 1) (by simpa using hi) (by omega)) (by simpa using ho)
  unfold idxL
  rw [h0, h1, if_neg (by simp), if_neg (by omega)]
  omega
theorem idxL_neg {α : Type} {q : α → Bool} {l : List α} : idxL q l = -1 ↔ ∀ e ∈ l, q e = false := by
 induction l with
 | nil => simp [idxL]
 | cons e l ih =>
  have hg := idxL_ge q l
  unfold idxL
  cases hq : q e with
  | true => simp [hq]
  | false =>
   rw [if_neg (by simp)]
   by_cases h : idxL q l = -1
   ·rw [if_pos h]
    simp only [List.mem_cons, true_iff]
    rintro x (rfl | hx)
    ·exact hq
    ·exact ih.1 h x hx
   ·rw [if_neg h]
    constructor
    ·intro h'; omega
    ·intro h'
     exact absurd (ih.2 fun x hx => h' x (List.mem_cons_of_mem _ hx)) h
set_option maxHeartbeats 2000000 in
theorem indexFuncL_any (v : Value) (rs : List (Nst (List Int))) (F : Nat) (caps : Array Value) (q : List Int → Bool) (w : World) (hF : ∀ args w, (callFunc F args).run Tryz.prog w = .ok (.enter F args) w) (hr : Rw 1 lsCl w v rs)
  (hq : ∀ W, Below w.heap.size w W → ∀ k (hk : k < rs.length), Calls Tryz.prog F (#[.slice rs[k].a rs[k].m.length rs[k].c] ++ caps) W fun e w' => e = .returned (.bool (q rs[k].m)) ∧ Below W.heap.size W w') :
  Calls Tryz.prog 155 #[v, .func (.func F) #[] caps] w fun e w' => e = .returned (.int .i64 (idxL q (rs.map Nst.m))) ∧ Below w.heap.size w w' := by
 have HV := dH fun W (hb : Below w.heap.size w W) => hr.below hb
 have HQ := dH hq
 have hl0 := hr.1
 obtain ⟨-, a, cap, rfl, -, -⟩ := hr
 have FN : Hid ((∀ i (h : i < rs.length), q rs[i].m = false) → idxL q (rs.map Nst.m) = -1) := fun h => idxL_none _ _ fun i hi => by rw [List.getElem_map]; exact h i (by simpa using hi)
 have FA : Hid (∀ k (hk : k < rs.length), (∀ i (h : i < rs.length), i < k → q rs[i].m = false) → q rs[k].m = true → idxL q (rs.map Nst.m) = (k : Int)) := fun k hk h1 h2 => idxL_at _ _ k (by simpa using hk) (fun i hi hik => by rw [List.getElem_map]; exact h1 i (by simpa using hi) hik) (by rw [List.getElem_map]; exact h2)
 generalize idxL q (rs.map Nst.m) = M at *
 clear hq
 go_enter Tryz.func155, Tryz.ntmps155
 go_wp2
 go_loopw [8] (fun x wr => ∃ k : Nat, x = .int .i64 (k : Int) ∧ k ≤ rs.length ∧ Hid (∀ i (h : i < rs.length), i < k → q rs[i].m = false) ∧ Below w.heap.size w wr) (fun x _ => rs.length - (intOf x).toNat)
 case atStart => exact ⟨0, rfl, Nat.zero_le _, fun i h h' => by omega, Below.refl _ _⟩
 case round =>
  obtain ⟨k, rfl, hk, hc, hb⟩ := hrel
  by_cases hlt : (k : Int) < (rs.length : Int)
  ·have hkl : k < rs.length := by omega
   obtain ⟨b, off, rfl, he⟩ := (dU HV _ hb).ls hkl
   have c0 := he k hkl
   have CE := dH (dU HQ wr hb k hkl)
   cases hcl : q rs[k].m with
   | false =>
    rw [hcl] at CE
    have H2 : Hid (∀ i (h : i < rs.length), i < k + 1 → q rs[i].m = false) := fun i h hi => by
     by_cases e : i = k
     ·subst e; exact hcl
     ·exact dU hc i h (by omega)
    generalize rs[k] = y at *
    obtain ⟨ya, yc, yn⟩ := y
    simp only at *
    clear hc he
    go_wp2_with fail
    refine (dU CE).mono ?_
    rintro e w1 ⟨rfl, b1⟩
    clear CE c0
    go_wp2
    go_roundw
    case rel => exact ⟨k + 1, by go_num, by omega, H2, bT hb b1⟩
    case measure => simp [intOf]; omega
   | true =>
    rw [hcl] at CE
    have e1 := dU FA k hkl (dU hc) hcl
    subst e1
    generalize rs[k] = y at *
    obtain ⟨ya, yc, yn⟩ := y
    simp only at *
    clear hc he FN FA
    go_wp2_with fail
    refine (dU CE).mono ?_
    rintro e w1 ⟨rfl, b1⟩
    clear CE c0
    go_wp2
    go_ret
    exact ⟨rfl, bT hb b1⟩
  ·have e1 := dU FN fun i h => dU hc i h (by omega)
   subst e1
   clear hc FN FA
   go_wp2
   go_ret
   exact ⟨rfl, hb⟩
theorem containsFuncL_any (v : Value) (rs : List (Nst (List Int))) (F : Nat) (caps : Array Value) (q : List Int → Bool) (w : World) (hF : ∀ args w, (callFunc F args).run Tryz.prog w = .ok (.enter F args) w) (hr : Rw 1 lsCl w v rs) (hl : rs.length ≤ 1048576)
  (hq : ∀ W, Below w.heap.size w W → ∀ k (hk : k < rs.length), Calls Tryz.prog F (#[.slice rs[k].a rs[k].m.length rs[k].c] ++ caps) W fun e w' => e = .returned (.bool (q rs[k].m)) ∧ Below W.heap.size W w') :
  Calls Tryz.prog 123 #[v, .func (.func F) #[] caps] w fun e w' => RetB (∃ e ∈ rs.map Nst.m, q e = true) e ∧ Below w.heap.size w w' := by
 have C1 := dH (indexFuncL_any v rs F caps q w hF hr hq)
 have hg := idxL_ge q (rs.map Nst.m)
 have R : Hid (RetB (∃ e ∈ rs.map Nst.m, q e = true) (.returned (.bool (decide (0 ≤ idxL q (rs.map Nst.m)))))) := ⟨_, rfl, by
  rw [decide_eq_true_iff]
  constructor
  ·intro h
   apply Classical.byContradiction
   intro hno
   have : idxL q (rs.map Nst.m) = -1 := idxL_neg.2 fun e he => by
    cases hqe : q e with
    | false => rfl
    | true => exact absurd ⟨e, he, hqe⟩ hno
   omega
  ·rintro ⟨e, he, hqe⟩
   apply Classical.byContradiction
   intro hno
   have h1 : idxL q (rs.map Nst.m) = -1 := by omega
   have := idxL_neg.1 h1 e he
   rw [hqe] at this
   cases this⟩
 have hl2 : (rs.map Nst.m).length ≤ 1048576 := by simpa using hl
 generalize (rs.map Nst.m).length = n at *
 generalize idxL q (rs.map Nst.m) = M at *
 clear hF hr hq
 go_enter Tryz.func123, Tryz.ntmps123
 go_wp2_with fail
 refine (dU C1).mono ?_
 rintro e w1 ⟨rfl, b1⟩
 clear C1
 go_wp2
 go_ret
 exact ⟨dU R, b1⟩
theorem big_yes (a : Option Addr) (len cap : Nat) (h : 1048576 < len) (h' : len ≤ 9223372036854775807) (w : World) :
  Calls Tryz.prog 6 #[.slice a len cap] w fun e w' => e = .returned (.bool true) ∧ w = w' := by
 have hz : (1048576 : Int) < (len : Int) := by omega
 go_enter Tryz.func6, Tryz.ntmps6
 go_wp2
 go_ret
 exact ⟨rfl, rfl⟩
theorem big_no (a : Option Addr) (len cap : Nat) (h : ¬ 1048576 < len) (w : World) :
  Calls Tryz.prog 6 #[.slice a len cap] w fun e w' => e = .returned (.bool false) ∧ w = w' := by
 have hz : ¬ ((1048576 : Int) < (len : Int)) := by omega
 go_enter Tryz.func6, Tryz.ntmps6
 go_wp2
 go_ret
 exact ⟨rfl, rfl⟩
end Go.Proofs.YtjkjmapibcfcdaaGreat
