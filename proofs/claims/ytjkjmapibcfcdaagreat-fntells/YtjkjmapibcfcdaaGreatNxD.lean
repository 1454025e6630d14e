/- Answers: slices.Clone, slices.IndexFunc, slices.DeleteFunc. -/
import Derived.Test.YtjkjmapibcfcdaaGreatGz23
import Derived.Test.YtjkjmapibcfcdaaGreatGaA
import Derived.Test.YtjkjmapibcfcdaaGreatGz18
import Derived.Laws.IdiomCopy
import Derived.Lib.SliceRun
import Derived.Deep.RegionHeld3
namespace Go.Proofs.YtjkjmapibcfcdaaGreat
open Go.ChangeShapes Go.WideShapes Go.ChangeAt Go.RowKit
set_option linter.unusedVariables false
set_option linter.unusedSimpArgs false
set_option maxRecDepth 100000

theorem cloneA_any (v : Value) (rs : List Aw) (w : World) (hv : Rw 6 Aw.cl w v rs) (hl : rs.length ≤ 1048576) :
  Calls Tryz.prog 135 #[v] w fun e w' => (∃ u, e = .returned u ∧ ApR 57 6 Aw.cl w' w.heap.size u rs) ∧ Below w.heap.size w w' := by
 have HV := dH fun W (hb : Below w.heap.size w W) => hv.below hb
 have hv' := hv
 obtain ⟨-, a, cap, rfl, hcap, hc⟩ := hv'
 cases a with
 | none =>
  have e0 : rs = [] := by
   rcases hc with h | ⟨b, off, h, -⟩
   ·exact h
   ·cases h
  subst e0
  have hnil : ∀ w, (binOp .eql 46 (.slice none 0 cap) (.slice none 0 0)).run Tryz.prog w = .ok (.bool true) w := fun w => Go.Lib.run_eql_slice_nil w 46 57 none _ _ 0 0 Tryz.underlying46
  have O : ApR 57 6 Aw.cl w w.heap.size (.slice none 0 0) ([] : List Aw) := .inl ⟨rfl, none, rfl⟩
  clear hv HV hc
  simp only [List.length_nil]
  go_enter Tryz.func135, Tryz.ntmps135
  go_wp2
  go_ret
  exact ⟨⟨_, rfl, O⟩, Below.refl _ _⟩
 | some ad =>
  have B1 := (Below.refl w.heap.size w).alloc (Nat.le_refl _) (.cells #[] 57)
  have hN := dU HV _ B1
  have hnil : ∀ w, (binOp .eql 46 (.slice (some ad) rs.length cap) (.slice none 0 0)).run Tryz.prog w = .ok (.bool false) w := fun w => Go.Lib.run_eql_slice_nil w 46 57 (some ad) _ _ 0 0 Tryz.underlying46
  clear hv HV hc
  go_enter Tryz.func135, Tryz.ntmps135
  go_wp2_with (at_builtin; refine wp_cpR elemAnswer rfl _ _ rfl _ rfl _ rs rfl hN (by omega) ?_; intro u w2 O2 b2)
  go_ret
  exact ⟨⟨_, rfl, O2.mono B1.size⟩, bT B1 b2⟩
theorem cloneV_any (v : Value) (rs : List Ev) (w : World) (hv : Rw 3 Ev.cl w v rs) (hl : rs.length ≤ 1048576) :
  Calls Tryz.prog 104 #[v] w fun e w' => (∃ u, e = .returned u ∧ ApR 53 3 Ev.cl w' w.heap.size u rs) ∧ Below w.heap.size w w' := by
 have HV := dH fun W (hb : Below w.heap.size w W) => hv.below hb
 have hv' := hv
 obtain ⟨-, a, cap, rfl, hcap, hc⟩ := hv'
 cases a with
 | none =>
  have e0 : rs = [] := by
   rcases hc with h | ⟨b, off, h, -⟩
   ·exact h
   ·cases h
  subst e0
  have hnil : ∀ w, (binOp .eql 43 (.slice none 0 cap) (.slice none 0 0)).run Tryz.prog w = .ok (.bool true) w := fun w => Go.Lib.run_eql_slice_nil w 43 53 none _ _ 0 0 Tryz.underlying43
  have O : ApR 53 3 Ev.cl w w.heap.size (.slice none 0 0) ([] : List Ev) := .inl ⟨rfl, none, rfl⟩
  clear hv HV hc
  simp only [List.length_nil]
  go_enter Tryz.func104, Tryz.ntmps104
  go_wp2
  go_ret
  exact ⟨⟨_, rfl, O⟩, Below.refl _ _⟩
 | some ad =>
  have B1 := (Below.refl w.heap.size w).alloc (Nat.le_refl _) (.cells #[] 53)
  have hN := dU HV _ B1
  have hnil : ∀ w, (binOp .eql 43 (.slice (some ad) rs.length cap) (.slice none 0 0)).run Tryz.prog w = .ok (.bool false) w := fun w => Go.Lib.run_eql_slice_nil w 43 53 (some ad) _ _ 0 0 Tryz.underlying43
  clear hv HV hc
  go_enter Tryz.func104, Tryz.ntmps104
  go_wp2_with (at_builtin; refine wp_cpR elemEvent rfl _ _ rfl _ rfl _ rs rfl hN (by omega) ?_; intro u w2 O2 b2)
  go_ret
  exact ⟨⟨_, rfl, O2.mono B1.size⟩, bT B1 b2⟩
theorem grwT {w w1 w2 : World} {b : Nat} (h : w.grownBy w1 (some b)) (h' : w1.grownBy w2 (some b)) : w.grownBy w2 (some b) :=
 ⟨h'.os.trans h.os, h'.tape.trans h.tape, h'.output.trans h.output, Nat.le_trans h.size h'.size, fun k hk hn => (h'.block k (Nat.lt_of_lt_of_le hk h.size) hn).trans (h.block k hk hn)⟩
theorem grwR (w : World) (row : Option Nat) : w.grownBy w row := ⟨rfl, rfl, rfl, Nat.le_refl _, fun _ _ _ => rfl⟩
theorem grwOf {w w' : World} {row : Option Nat} (h : Below w.heap.size w w') : w.grownBy w' row := ⟨h.os, h.tape, h.output, h.size, fun j hj _ => h.block j hj⟩
theorem grwS (b : Nat) : ∀ (vs : List Value) (o : Nat) (w : World), w.grownBy (w.setCells b o vs) (some b)
 | [], o, w => grwR w _
 | v :: vs, o, w => grwT (grown_set w b o v) (grwS b vs (o + 1) _)
def flZ {α : Type} (q : α → Bool) (xs : List α) : List α := xs.filter fun z => !(q z)
theorem flZ_yes {α : Type} {q : α → Bool} (xs : List α) (k : Nat) (h : k < xs.length) (hx : q xs[k] = true) : flZ q (xs.take (k + 1)) = flZ q (xs.take k) := by
 rw [flZ, List.take_succ_eq_append_getElem h, List.filter_append]
 simp [flZ, hx]
theorem flZ_no {α : Type} {q : α → Bool} (xs : List α) (k : Nat) (h : k < xs.length) (hx : q xs[k] = false) : flZ q (xs.take (k + 1)) = flZ q (xs.take k) ++ [xs[k]] := by
 rw [flZ, List.take_succ_eq_append_getElem h, List.filter_append]
 simp [flZ, hx]
theorem flZ_same {α : Type} {q : α → Bool} {xs : List α} (h : ∀ x ∈ xs, q x = false) : flZ q xs = xs := by
 unfold flZ
 rw [List.filter_eq_self]
 intro a ha
 simp [h a ha]
theorem flZ_head {α : Type} {q : α → Bool} {xs : List α} {k : Nat} (h : ∀ i (h : i < xs.length), i < k → q xs[i] = false) : flZ q (xs.take k) = xs.take k := flZ_same fun x hm => by
 obtain ⟨i, hi, e⟩ := List.mem_iff_getElem.1 hm
 rw [List.length_take] at hi
 rw [List.getElem_take] at e
 rw [← e]
 exact h i (by omega) (by omega)
def DelZ {α : Type} (q : α → Bool) (xs : List α) (i j : Nat) (ys : List α) : Prop := ys.length = xs.length ∧ i = (flZ q (xs.take j)).length ∧ i < j ∧ j ≤ xs.length ∧ ys.take i = flZ q (xs.take j) ∧ ∀ t (h : t < xs.length) (h' : t < ys.length), j ≤ t → ys[t] = xs[t]
theorem DelZ.start {α : Type} {q : α → Bool} {xs : List α} {k : Nat} (hk : k < xs.length) (h : ∀ i (h : i < xs.length), i < k → q xs[i] = false) (hx : q xs[k] = true) : DelZ q xs k (k + 1) xs := by
 have e1 := flZ_yes xs k hk hx
 have e2 := flZ_head (k := k) h
 refine ⟨rfl, ?_, by omega, by omega, ?_, fun t _ _ _ => rfl⟩
 ·rw [e1, e2, List.length_take]; omega
 ·rw [e1, e2]
theorem DelZ.skip {α : Type} {q : α → Bool} {xs ys : List α} {i j : Nat} (h : DelZ q xs i j ys) (hj : j < xs.length) (hx : q xs[j] = true) : DelZ q xs i (j + 1) ys := by
 obtain ⟨h1, h2, h3, h4, h5, h6⟩ := h
 have e1 := flZ_yes xs j hj hx
 exact ⟨h1, by rw [e1]; exact h2, by omega, by omega, by rw [e1]; exact h5, fun t ht ht' hjt => h6 t ht ht' (by omega)⟩
theorem DelZ.keep {α : Type} {q : α → Bool} {xs ys : List α} {i j : Nat} (h : DelZ q xs i j ys) (hj : j < xs.length) (hx : q xs[j] = false) : DelZ q xs (i + 1) (j + 1) (ys.set i xs[j]) := by
 obtain ⟨h1, h2, h3, h4, h5, h6⟩ := h
 have e1 := flZ_no xs j hj hx
 refine ⟨by rw [List.length_set]; exact h1, by rw [e1, List.length_append, ← h2]; rfl, by omega, by omega, ?_, fun t ht ht' hjt => ?_⟩
 ·rw [e1, ← h5, List.take_succ_eq_append_getElem (by rw [List.length_set]; omega), List.getElem_set_self, List.take_set_of_le (Nat.le_refl _)]
 ·rw [List.getElem_set_ne (by omega)]
  exact h6 t ht (by rw [List.length_set] at ht'; exact ht') (by omega)

theorem run_clearRows {α : Type} {T TS : TypeId} {z : Value} {sz bytes : Nat} {cl : α → List Value} (E : Elem T TS z sz bytes cl) (ty : TypeId) (hz1 : ∀ u ∈ z.cells.toList, u.oneCell' = true) (w : World) (b o n c : Nat) (hn : 0 < n)
  (hc : ∀ j, j < n * sz → (w.cell? ⟨b, o + j, none⟩).isSome = true) (hf : ∀ j, j < n * sz → w.frozen? ⟨b, o + j, none⟩ = false) :
  (Builtin.clear_ #[TS] ty #[.slice (some ⟨b, o, none⟩) n c]).run Tryz.prog w = .ok (.tuple #[]) (w.setCells b o (Builtin.zeroCells z.cells n).toList) := by
 obtain ⟨i0, hi, hz0, hzs, hzb⟩ := info_parts E.info
 have hsz : (Builtin.zeroCells z.cells n).toList.length = n * sz := by rw [Array.length_toList, zeroCells_size, E.zcells]
 have hst := run_storeCells_cells (P := Tryz.prog) b o (Builtin.zeroCells z.cells n).toList 0 w (by simpa [hsz] using hc) (by simpa [hsz] using hf) (fun u hu => hz1 u (zeroCells_mem _ _ u hu))
 obtain ⟨m, rfl⟩ : ∃ m, n = m + 1 := ⟨n - 1, by omega⟩
 simp only [Nat.add_zero] at hst
 simp [Builtin.clear_, run_underlying E.under, zeroValue, typeInfo, hi, hz0, hst]
set_option maxHeartbeats 2000000 in
theorem indexA_any (v : Value) (xs : List Aw) (F : Nat) (caps : Array Value) (q : Aw → Bool) (w : World) (hF : ∀ args w, (callFunc F args).run Tryz.prog w = .ok (.enter F args) w) (hv : RdAnswerS v xs w)
  (hq : ∀ W, Below w.heap.size w W → ∀ z ∈ xs, Calls Tryz.prog F (#[z.val] ++ caps) W fun e w' => e = .returned (.bool (q z)) ∧ Below W.heap.size W w') :
  Calls Tryz.prog 159 #[v, .func (.func F) #[] caps] w fun e w' => (((∀ x ∈ xs, q x = false) ∧ e = .returned (.int .i64 (-1))) ∨ ∃ k, ∃ h : k < xs.length, (∀ i (h : i < xs.length), i < k → q xs[i] = false) ∧ q xs[k] = true ∧ e = .returned (.int .i64 (k : Int))) ∧ Below w.heap.size w w' := by
 have HV := dH fun W (hb : Below w.heap.size w W) => RdAnswerS.below hv hb
 have HQ := dH hq
 obtain ⟨a, cap, rfl, hl0⟩ := formAnswerS hv
 clear hq hv
 go_enter Tryz.func159, Tryz.ntmps159
 go_wp2
 go_loopw [8] (fun y wr => ∃ k : Nat, y = .int .i64 (k : Int) ∧ k ≤ xs.length ∧ Hid (∀ i (h : i < xs.length), i < k → q xs[i] = false) ∧ Below w.heap.size w wr) (fun y _ => xs.length - (intOf y).toNat)
 case atStart => exact ⟨0, rfl, Nat.zero_le _, fun i h h' => by omega, Below.refl _ _⟩
 case round =>
  obtain ⟨k, rfl, hk, hcd, hb⟩ := hrel
  by_cases hlt : (k : Int) < (xs.length : Int)
  ·have hkl : k < xs.length := by omega
   obtain ⟨b, off, rfl, he⟩ := (dU HV wr hb).atAw hkl
   obtain ⟨c0, c1, c2, c3, c4, c5⟩ := he k hkl
   have CE := dH (dU HQ wr hb xs[k] (List.getElem_mem hkl))
   unfold Aw.val at CE
   cases hx : q xs[k] with
   | true =>
    rw [hx] at CE
    have G : Hid (∀ wz, Below w.heap.size w wz → (((∀ x ∈ xs, q x = false) ∧ (Ending.returned (.int .i64 (k : Int))) = .returned (.int .i64 (-1))) ∨ ∃ j, ∃ h : j < xs.length, (∀ i (h : i < xs.length), i < j → q xs[i] = false) ∧ q xs[j] = true ∧ (Ending.returned (.int .i64 (k : Int))) = .returned (.int .i64 (j : Int))) ∧ Below w.heap.size w wz) := fun wz hz => ⟨.inr ⟨k, hkl, dU hcd, hx, rfl⟩, hz⟩
    generalize xs[k] = y at c0 c1 c2 c3 c4 c5 CE
    obtain ⟨y0, y1, ⟨y2, y3, y4, y5⟩⟩ := y
    simp only at c0 c1 c2 c3 c4 c5 CE
    clear he hx hcd
    go_wp2_with fail
    refine (dU CE).mono ?_
    rintro e w1 ⟨rfl, b1⟩
    clear CE
    go_wp2
    go_ret
    exact dU G _ (bT hb b1)
   | false =>
    rw [hx] at CE
    have H2 : Hid (∀ i (h : i < xs.length), i < k + 1 → q xs[i] = false) := fun i h hi => by
     by_cases e : i = k
     ·subst e; exact hx
     ·exact dU hcd i h (by omega)
    generalize xs[k] = y at c0 c1 c2 c3 c4 c5 CE
    obtain ⟨y0, y1, ⟨y2, y3, y4, y5⟩⟩ := y
    simp only at c0 c1 c2 c3 c4 c5 CE
    clear he hx hcd
    go_wp2_with fail
    refine (dU CE).mono ?_
    rintro e w1 ⟨rfl, b1⟩
    clear CE
    go_wp2
    go_roundw
    case rel => exact ⟨k + 1, by go_num, by omega, H2, bT hb b1⟩
    case measure => simp [intOf]; omega
  ·have G := dH (show ∀ x ∈ xs, q x = false from fun x hm => by
    obtain ⟨i, hi, e⟩ := List.mem_iff_getElem.1 hm
    rw [← e]
    exact dU hcd i hi (by omega))
   clear hcd
   go_wp2
   go_ret
   exact ⟨.inl ⟨dU G, rfl⟩, hb⟩
theorem putZ_set (ys : List Aw) (i : Nat) (e : Aw) (h : i < ys.length) : putZ (fun t => ys.getD t zeroAw) i e = fun t => (ys.set i e).getD t zeroAw := by
 funext t
 unfold putZ
 by_cases ht : t = i
 ·subst ht
  rw [if_pos rfl, List.getD_eq_getElem?_getD, List.getElem?_set_self h]
  rfl
 ·rw [if_neg ht]
  show ys.getD t zeroAw = (ys.set i e).getD t zeroAw
  rw [List.getD_eq_getElem?_getD, List.getD_eq_getElem?_getD, List.getElem?_set_ne (by omega)]
set_option maxHeartbeats 8000000 in
theorem deleteA_any (a : Option Addr) (cap : Nat) (xs : List Aw) (F : Nat) (caps : Array Value) (q : Aw → Bool) (Inv : World → Prop) (base : Nat) (w : World) (hF : ∀ args w, (callFunc F args).run Tryz.prog w = .ok (.enter F args) w) (ho : OwnRw 6 Aw.cl w base (.slice a xs.length cap) xs) (hI : Inv w)
  (hInv : ∀ W W' row, Inv W → W.grownBy W' row → (row = none ∨ (xs ≠ [] ∧ row = some (bO (.slice a xs.length cap)))) → Inv W')
  (hq : ∀ W, Inv W → ∀ z ∈ xs, Calls Tryz.prog F (#[z.val] ++ caps) W fun e w' => e = .returned (.bool (q z)) ∧ Below W.heap.size W w') :
  Calls Tryz.prog 134 #[.slice a xs.length cap, .func (.func F) #[] caps] w fun e w' => e = .returned (.slice a (flZ q xs).length cap) ∧ RdAnswerS (.slice a (flZ q xs).length cap) (flZ q xs) w' ∧ ∃ row, w.grownBy w' row ∧ (row = none ∨ (xs ≠ [] ∧ row = some (bO (.slice a xs.length cap)))) := by
 have CI := dH (indexA_any _ xs F caps q w hF (OwnRw.rw ho) (fun W hb z hz => hq W (hInv w W none hI (grwOf hb) (.inl rfl)) z hz))
 have hl0 := ho.1
 have hcap : xs.length ≤ cap ∧ cap ≤ 9223372036854775807 := by
  obtain ⟨-, a', c', e, h, -⟩ := ho
  simp only [Value.slice.injEq] at e
  obtain ⟨-, -, rfl⟩ := e
  exact h
 have HO := dH fun W (hb : Below w.heap.size w W) => ho.below hb
 have HIN := dH hInv
 have HQ := dH hq
 have II := dH hI
 clear ho hI hInv hq
 go_enter Tryz.func134, Tryz.ntmps134
 go_wp2_with fail
 refine (dU CI).mono ?_
 rintro e w1 ⟨hcase, bl⟩
 clear CI
 have O1 := dH (dU HO w1 bl)
 have I1 := dH (dU HIN w w1 none (dU II) (grwOf bl) (.inl rfl))
 clear HO II
 rcases hcase with ⟨hx, rfl⟩ | ⟨k, hk, hlt, hx, rfl⟩
 ·have E := dH (flZ_same hx)
  clear hx HQ HIN I1
  go_wp2
  go_ret
  rw [dU E]
  exact ⟨rfl, OwnRw.rw (dU O1), none, grwOf bl, .inl rfl⟩
 ·have hxe : xs ≠ [] := fun e => by subst e; simp at hk
  obtain ⟨b, off, rfl, hbb, Z0⟩ := (dU O1).rwZ zeroAw (by omega)
  have eb : bO (.slice (some ⟨b, off, none⟩) xs.length cap) = b := rfl
  rw [eb] at HIN
  have S0 := dH (DelZ.start hk hlt hx)
  have G0 : Hid (w.grownBy w1 (some b)) := grwOf bl
  have hk1 : ((k : Int) == -1) = false := by
   rw [beq_eq_false_iff_ne]
   omega
  have HXE := dH hxe
  have HZ0 := dH Z0
  clear hlt hx hxe eb bl Z0 O1
  go_wp2
  go_loopw [5, 6] (fun p y wr => ∃ (i j : Nat) (ys : List Aw), p = .int .i64 (i : Int) ∧ y = .int .i64 (j : Int) ∧ j ≤ xs.length ∧ i ≤ xs.length ∧ Hid (DelZ q xs i j ys) ∧ Hid (RwZ 6 Aw.cl wr b off xs.length (fun t => ys.getD t zeroAw)) ∧ Hid (w.grownBy wr (some b)) ∧ Hid (Inv wr)) (fun _ y _ => xs.length - (intOf y).toNat)
  case atStart => exact ⟨k, k + 1, xs, rfl, by go_num, by omega, by omega, S0, HZ0, G0, I1⟩
  case round =>
   obtain ⟨i, j, ys, rfl, rfl, hj, hi, hS, hO, hG, hC⟩ := hrel
   clear S0 HZ0 G0 I1
   have hyl := (dU hS).1
   have hij := (dU hS).2.2.1
   by_cases hlt : (j : Int) < (xs.length : Int)
   ·have hjl : j < xs.length := by omega
    have ej := (dU hS).2.2.2.2.2 j hjl (by omega) (Nat.le_refl _)
    have egd : ys.getD j zeroAw = xs[j] := by rw [List.getD_eq_getElem?_getD, List.getElem?_eq_getElem (by omega)]; exact ej
    have CJ : AwAt wr b (off + j * 6) xs[j] := by
     have q0 := dU hO j hjl
     simp only [egd] at q0
     exact ⟨(q0 0 _ rfl).1, (q0 1 _ rfl).1, (q0 2 _ rfl).1, (q0 3 _ rfl).1, (q0 4 _ rfl).1, (q0 5 _ rfl).1⟩
    have hil : (i : Int) < (xs.length : Int) := by omega
    have bA : ∀ o, Below wr.heap.size wr (wr.alloc o) := fun o => (Below.refl _ _).alloc (Nat.le_refl _) o
    have CE := dH fun W (hW : Below wr.heap.size wr W) => dU HQ W (dU HIN wr W none (dU hC) (grwOf hW) (.inl rfl)) xs[j] (List.getElem_mem hjl)
    unfold Aw.val at CE
    cases hx : q xs[j] with
    | true =>
     rw [hx] at CE
     have S2 := dH ((dU hS).skip hjl hx)
     clear egd
     generalize xs[j] = y at *
     obtain ⟨y0, y1, ⟨y2, y3, y4, y5⟩⟩ := y
     obtain ⟨c0, c1, c2, c3, c4, c5⟩ := CJ
     simp only at c0 c1 c2 c3 c4 c5 CE
     clear hx hS ej
     go_wp2_with fail
     refine (dU CE _ (bA _)).mono ?_
     rintro e w2 ⟨rfl, b2⟩
     have b2' := bT (bA _) b2
     have O2 := dH ((dU hO).below b2')
     have G2 := dH (grwT (dU hG) (grwOf b2'))
     have C2 := dH (dU HIN wr w2 none (dU hC) (grwOf b2') (.inl rfl))
     clear CE hO hG hC b2 b2' c0 c1 c2 c3 c4 c5
     go_wp2
     go_roundw
     case rel => exact ⟨i, j + 1, ys, rfl, by go_num, by omega, hi, S2, O2, G2, C2⟩
     case measure => simp [intOf]; omega
    | false =>
     rw [hx] at CE
     have S2 := dH ((dU hS).keep hjl hx)
     clear egd
     generalize xs[j] = y at *
     obtain ⟨y0, y1, ⟨y2, y3, y4, y5⟩⟩ := y
     obtain ⟨c0, c1, c2, c3, c4, c5⟩ := CJ
     simp only at c0 c1 c2 c3 c4 c5 CE
     clear hx hS ej
     have X1 := Bx.new wr [.int .i64 y0, .bool y1, .int .i64 y2, .int .i64 y3, .bool y4, .string y5] 57
     go_wp2_with fail
     refine (dU CE _ (bA _)).mono ?_
     rintro e w2 ⟨rfl, b2⟩
     have b2' := bT (bA _) b2
     have X2 := X1.below b2
     have O1 := (dU hO).below b2'
     obtain ⟨x0, x1, x2, x3, x4, x5⟩ : _ ∧ _ ∧ _ ∧ _ ∧ _ ∧ _ := ⟨X2 0 _ rfl, X2 1 _ rfl, X2 2 _ rfl, X2 3 _ rfl, X2 4 _ rfl, X2 5 _ rfl⟩
     have hin : i < xs.length := by omega
     obtain ⟨i0, f0⟩ := O1 i hin 0 _ rfl
     obtain ⟨i1, f1⟩ := O1 i hin 1 _ rfl
     obtain ⟨i2, f2⟩ := O1 i hin 2 _ rfl
     obtain ⟨i3, f3⟩ := O1 i hin 3 _ rfl
     obtain ⟨i4, f4⟩ := O1 i hin 4 _ rfl
     obtain ⟨i5, f5⟩ := O1 i hin 5 _ rfl
     have O2 := zallAw O1 hin ⟨y0, y1, ⟨y2, y3, y4, y5⟩⟩
     rw [putZ_set ys i _ (by omega)] at O2
     replace O2 := dH O2
     simp only [Nat.add_zero] at i0 f0
     have GG : Hid (w2.grownBy ((((((w2.setCell ⟨b, off + i * 6, none⟩ (.int .i64 y0)).setCell ⟨b, off + i * 6 + 1, none⟩ (.bool y1)).setCell ⟨b, off + i * 6 + 2, none⟩ (.int .i64 y2)).setCell ⟨b, off + i * 6 + 3, none⟩ (.int .i64 y3)).setCell ⟨b, off + i * 6 + 4, none⟩ (.bool y4)).setCell ⟨b, off + i * 6 + 5, none⟩ (.string y5)) (some b)) := (grwT (grwT (grwT (grwT (grwT (grwT (grwR w2 (some b)) (grown_set w2 b (off + i * 6) (.int .i64 y0))) (grown_set (w2.setCell ⟨b, off + i * 6, none⟩ (.int .i64 y0)) b (off + i * 6 + 1) (.bool y1))) (grown_set ((w2.setCell ⟨b, off + i * 6, none⟩ (.int .i64 y0)).setCell ⟨b, off + i * 6 + 1, none⟩ (.bool y1)) b (off + i * 6 + 2) (.int .i64 y2))) (grown_set (((w2.setCell ⟨b, off + i * 6, none⟩ (.int .i64 y0)).setCell ⟨b, off + i * 6 + 1, none⟩ (.bool y1)).setCell ⟨b, off + i * 6 + 2, none⟩ (.int .i64 y2)) b (off + i * 6 + 3) (.int .i64 y3))) (grown_set ((((w2.setCell ⟨b, off + i * 6, none⟩ (.int .i64 y0)).setCell ⟨b, off + i * 6 + 1, none⟩ (.bool y1)).setCell ⟨b, off + i * 6 + 2, none⟩ (.int .i64 y2)).setCell ⟨b, off + i * 6 + 3, none⟩ (.int .i64 y3)) b (off + i * 6 + 4) (.bool y4))) (grown_set (((((w2.setCell ⟨b, off + i * 6, none⟩ (.int .i64 y0)).setCell ⟨b, off + i * 6 + 1, none⟩ (.bool y1)).setCell ⟨b, off + i * 6 + 2, none⟩ (.int .i64 y2)).setCell ⟨b, off + i * 6 + 3, none⟩ (.int .i64 y3)).setCell ⟨b, off + i * 6 + 4, none⟩ (.bool y4)) b (off + i * 6 + 5) (.string y5)))
     have G2 := dH (grwT (grwT (dU hG) (grwOf b2')) (dU GG))
     have C2 := dH (dU HIN w2 _ (some b) (dU HIN wr w2 none (dU hC) (grwOf b2') (.inl rfl)) (dU GG) (.inr ⟨dU HXE, rfl⟩))
     clear CE hO hG hC b2 b2' O1 X1 X2 c0 c1 c2 c3 c4 c5 GG
     go_wp2
     go_roundw
     case rel => exact ⟨i + 1, j + 1, _, by go_num, by go_num, by omega, by omega, S2, O2, G2, C2⟩
     case measure => simp [intOf]; omega
   ·have ej : j = xs.length := by omega
    subst ej
    obtain ⟨-, h2, -, -, h5, -⟩ := dU hS
    rw [List.take_of_length_le (Nat.le_refl _)] at h2 h5
    have hn : 0 < xs.length - i := by omega
    have at1 : ∀ t, i * 6 + t < xs.length * 6 → (wr.cell? ⟨b, off + i * 6 + t, none⟩).isSome = true ∧ wr.frozen? ⟨b, off + i * 6 + t, none⟩ = false := fun t ht => by
     have hd : (i * 6 + t) / 6 < xs.length := by omega
     have hm := Nat.div_add_mod (i * 6 + t) 6
     obtain ⟨u, hu⟩ : ∃ u, (Aw.cl (ys.getD ((i * 6 + t) / 6) zeroAw))[(i * 6 + t) % 6]? = some u := ⟨_, List.getElem?_eq_getElem (by rw [Aw.cl_len]; omega)⟩
     obtain ⟨q1, q2⟩ := dU hO _ hd _ u hu
     have e : off + (i * 6 + t) / 6 * 6 + (i * 6 + t) % 6 = off + i * 6 + t := by omega
     rw [e] at q1 q2
     exact ⟨by rw [q1]; rfl, q2⟩
    have CC := run_clearRows elemAnswer 0 (by intro u hu; simp [Value.cells] at hu; rcases hu with rfl | rfl | rfl | rfl | rfl | rfl <;> rfl) wr b (off + i * 6) (xs.length - i) (cap - i) hn (fun t ht => (at1 t (by omega)).1) (fun t ht => (at1 t (by omega)).2)
    have hzl : (Builtin.zeroCells (Value.cells (.agg #[.int .i64 0, .bool false, .int .i64 0, .int .i64 0, .bool false, .string ⟨#[]⟩])) (xs.length - i)).toList.length = (xs.length - i) * 6 := by rw [Array.length_toList, zeroCells_size, elemAnswer.zcells]
    have R2 : Hid (RdAnswerS (.slice (some ⟨b, off, none⟩) (flZ q xs).length cap) (flZ q xs) (wr.setCells b (off + i * 6) (Builtin.zeroCells (Value.cells (.agg #[.int .i64 0, .bool false, .int .i64 0, .int .i64 0, .bool false, .string ⟨#[]⟩])) (xs.length - i)).toList)) := by
     refine ⟨by omega, _, _, rfl, by omega, .inr ⟨b, off, rfl, fun t ht m u hu => ?_⟩⟩
     have hm := clG_lt Aw.cl_len hu
     have ht2 : t < i := by omega
     have e1 : (flZ q xs)[t] = ys.getD t zeroAw := by
      have : (flZ q xs)[t] = (ys.take i)[t]'(by rw [List.length_take]; omega) := by simp only [h5]
      rw [this, List.getElem_take, List.getD_eq_getElem?_getD, List.getElem?_eq_getElem (by omega)]
      rfl
     rw [e1] at hu
     exact (World.cell?_setCells_out b _ (off + i * 6) wr ⟨b, off + t * 6 + m, none⟩ (fun _ _ => .inl (by simp only; omega))).trans (dU hO t (by omega) m u hu).1
    have G2 := dH (grwT (dU hG) (grwS b (Builtin.zeroCells (Value.cells (.agg #[.int .i64 0, .bool false, .int .i64 0, .int .i64 0, .bool false, .string ⟨#[]⟩])) (xs.length - i)).toList (off + i * 6) wr))
    have E2 := dH h2
    clear hS hO hG hC h2 h5 at1 hzl
    go_wp2
    go_ret
    rw [← dU E2]
    rw [← dU E2] at R2
    exact ⟨rfl, dU R2, some b, dU G2, .inr ⟨dU HXE, rfl⟩⟩
end Go.Proofs.YtjkjmapibcfcdaaGreat
