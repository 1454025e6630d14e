/- Events: slices.IndexFunc, slices.DeleteFunc (printed by tools/mkevd.py). -/
import Derived.Test.YtodfgehicpejgaaGreatDoorGk169
import Derived.Deep.RegionHeld3
namespace Go.Proofs.YtodfgehicpejgaaGreatDoor
open Go.ChangeShapes Go.WideShapes Go.ChangeAt Go.RowKit
set_option linter.unusedVariables false
set_option linter.unusedSimpArgs false
set_option maxRecDepth 100000

set_option maxHeartbeats 2000000 in
theorem indexE_any (v : Value) (xs : List Ev) (F : Nat) (caps : Array Value) (q : Ev → Bool) (w : World) (hF : ∀ args w, (callFunc F args).run Tryz.prog w = .ok (.enter F args) w) (hv : RdEventS v xs w)
  (hq : ∀ W, Below w.heap.size w W → ∀ z ∈ xs, Calls Tryz.prog F (#[z.val] ++ caps) W fun e w' => e = .returned (.bool (q z)) ∧ Below W.heap.size W w') :
  Calls Tryz.prog 294 #[v, .func (.func F) #[] caps] w fun e w' => (((∀ x ∈ xs, q x = false) ∧ e = .returned (.int .i64 (-1))) ∨ ∃ k, ∃ h : k < xs.length, (∀ i (h : i < xs.length), i < k → q xs[i] = false) ∧ q xs[k] = true ∧ e = .returned (.int .i64 (k : Int))) ∧ Below w.heap.size w w' := by
 have HV := dH fun W (hb : Below w.heap.size w W) => RdEventS.below hv hb
 have HQ := dH hq
 obtain ⟨a, cap, rfl, hl0⟩ := formEventS hv
 clear hq hv
 go_enter Tryz.func294, Tryz.ntmps294
 go_wp2
 go_loopw [8] (fun y wr => ∃ k : Nat, y = .int .i64 (k : Int) ∧ k ≤ xs.length ∧ Hid (∀ i (h : i < xs.length), i < k → q xs[i] = false) ∧ Below w.heap.size w wr) (fun y _ => xs.length - (intOf y).toNat)
 case atStart => exact ⟨0, rfl, Nat.zero_le _, fun i h h' => by omega, Below.refl _ _⟩
 case round =>
  obtain ⟨k, rfl, hk, hcd, hb⟩ := hrel
  by_cases hlt : (k : Int) < (xs.length : Int)
  ·have hkl : k < xs.length := by omega
   obtain ⟨b, off, rfl, he⟩ := (dU HV wr hb).atEv hkl
   obtain ⟨c0, c1, c2⟩ := he k hkl
   have CE := dH (dU HQ wr hb xs[k] (List.getElem_mem hkl))
   unfold Ev.val at CE
   cases hx : q xs[k] with
   | true =>
    rw [hx] at CE
    have G : Hid (∀ wz, Below w.heap.size w wz → (((∀ x ∈ xs, q x = false) ∧ (Ending.returned (.int .i64 (k : Int))) = .returned (.int .i64 (-1))) ∨ ∃ j, ∃ h : j < xs.length, (∀ i (h : i < xs.length), i < j → q xs[i] = false) ∧ q xs[j] = true ∧ (Ending.returned (.int .i64 (k : Int))) = .returned (.int .i64 (j : Int))) ∧ Below w.heap.size w wz) := fun wz hz => ⟨.inr ⟨k, hkl, dU hcd, hx, rfl⟩, hz⟩
    generalize xs[k] = y at c0 c1 c2 CE
    obtain ⟨y0, y1, y2⟩ := y
    simp only at c0 c1 c2 CE
    clear he hx hcd
    go_wp2_with fail
    refine (dU CE).mono ?_
    rintro e w1 ⟨rfl, b1⟩
    clear CE
    go_wp2
    go_ret
    exact dU G _ (bT hb b1)
   | false =>
    rw [hx] at CE
    have H2 : Hid (∀ i (h : i < xs.length), i < k + 1 → q xs[i] = false) := fun i h hi => by
     by_cases e : i = k
     ·subst e; exact hx
     ·exact dU hcd i h (by omega)
    generalize xs[k] = y at c0 c1 c2 CE
    obtain ⟨y0, y1, y2⟩ := y
    simp only at c0 c1 c2 CE
    clear he hx hcd
    go_wp2_with fail
    refine (dU CE).mono ?_
    rintro e w1 ⟨rfl, b1⟩
    clear CE
    go_wp2
    go_roundw
    case rel => exact ⟨k + 1, by go_num, by omega, H2, bT hb b1⟩
    case measure => simp [intOf]; omega
  ·have G := dH (show ∀ x ∈ xs, q x = false from fun x hm => by
    obtain ⟨i, hi, e⟩ := List.mem_iff_getElem.1 hm
    rw [← e]
    exact dU hcd i hi (by omega))
   clear hcd
   go_wp2
   go_ret
   exact ⟨.inl ⟨dU G, rfl⟩, hb⟩
theorem putZ_setE (ys : List Ev) (i : Nat) (e : Ev) (h : i < ys.length) : putZ (fun t => ys.getD t zeroEv) i e = fun t => (ys.set i e).getD t zeroEv := by
 funext t
 unfold putZ
 by_cases ht : t = i
 ·subst ht
  rw [if_pos rfl, List.getD_eq_getElem?_getD, List.getElem?_set_self h]
  rfl
 ·rw [if_neg ht]
  show ys.getD t zeroEv = (ys.set i e).getD t zeroEv
  rw [List.getD_eq_getElem?_getD, List.getD_eq_getElem?_getD, List.getElem?_set_ne (by omega)]
set_option maxHeartbeats 8000000 in
theorem deleteE_any (a : Option Addr) (cap : Nat) (xs : List Ev) (F : Nat) (caps : Array Value) (q : Ev → Bool) (Inv : World → Prop) (base : Nat) (w : World) (hF : ∀ args w, (callFunc F args).run Tryz.prog w = .ok (.enter F args) w) (ho : OwnRw 3 Ev.cl w base (.slice a xs.length cap) xs) (hI : Inv w)
  (hInv : ∀ W W' row, Inv W → W.grownBy W' row → (row = none ∨ (xs ≠ [] ∧ row = some (bO (.slice a xs.length cap)))) → Inv W')
  (hq : ∀ W, Inv W → ∀ z ∈ xs, Calls Tryz.prog F (#[z.val] ++ caps) W fun e w' => e = .returned (.bool (q z)) ∧ Below W.heap.size W w') :
  Calls Tryz.prog 249 #[.slice a xs.length cap, .func (.func F) #[] caps] w fun e w' => e = .returned (.slice a (flZ q xs).length cap) ∧ RdEventS (.slice a (flZ q xs).length cap) (flZ q xs) w' ∧ ∃ row, w.grownBy w' row ∧ (row = none ∨ (xs ≠ [] ∧ row = some (bO (.slice a xs.length cap)))) := by
 have CI := dH (indexE_any _ xs F caps q w hF (OwnRw.rw ho) (fun W hb z hz => hq W (hInv w W none hI (grwOf hb) (.inl rfl)) z hz))
 have hl0 := ho.1
 have hcap : xs.length ≤ cap ∧ cap ≤ 9223372036854775807 := by
  obtain ⟨-, a', c', e, h, -⟩ := ho
  simp only [Value.slice.injEq] at e
  obtain ⟨-, -, rfl⟩ := e
  exact h
 have HO := dH fun W (hb : Below w.heap.size w W) => ho.below hb
 have HIN := dH hInv
 have HQ := dH hq
 have II := dH hI
 clear ho hI hInv hq
 go_enter Tryz.func249, Tryz.ntmps249
 go_wp2_with fail
 refine (dU CI).mono ?_
 rintro e w1 ⟨hcase, bl⟩
 clear CI
 have O1 := dH (dU HO w1 bl)
 have I1 := dH (dU HIN w w1 none (dU II) (grwOf bl) (.inl rfl))
 clear HO II
 rcases hcase with ⟨hx, rfl⟩ | ⟨k, hk, hlt, hx, rfl⟩
 ·have E := dH (flZ_same hx)
  clear hx HQ HIN I1
  go_wp2
  go_ret
  rw [dU E]
  exact ⟨rfl, OwnRw.rw (dU O1), none, grwOf bl, .inl rfl⟩
 ·have hxe : xs ≠ [] := fun e => by subst e; simp at hk
  obtain ⟨b, off, rfl, hbb, Z0⟩ := (dU O1).rwZ zeroEv (by omega)
  have eb : bO (.slice (some ⟨b, off, none⟩) xs.length cap) = b := rfl
  rw [eb] at HIN
  have S0 := dH (DelZ.start hk hlt hx)
  have G0 : Hid (w.grownBy w1 (some b)) := grwOf bl
  have hk1 : ((k : Int) == -1) = false := by
   rw [beq_eq_false_iff_ne]
   omega
  have HXE := dH hxe
  have HZ0 := dH Z0
  clear hlt hx hxe eb bl Z0 O1
  go_wp2
  go_loopw [5, 6] (fun p y wr => ∃ (i j : Nat) (ys : List Ev), p = .int .i64 (i : Int) ∧ y = .int .i64 (j : Int) ∧ j ≤ xs.length ∧ i ≤ xs.length ∧ Hid (DelZ q xs i j ys) ∧ Hid (RwZ 3 Ev.cl wr b off xs.length (fun t => ys.getD t zeroEv)) ∧ Hid (w.grownBy wr (some b)) ∧ Hid (Inv wr)) (fun _ y _ => xs.length - (intOf y).toNat)
  case atStart => exact ⟨k, k + 1, xs, rfl, by go_num, by omega, by omega, S0, HZ0, G0, I1⟩
  case round =>
   obtain ⟨i, j, ys, rfl, rfl, hj, hi, hS, hO, hG, hC⟩ := hrel
   clear S0 HZ0 G0 I1
   have hyl := (dU hS).1
   have hij := (dU hS).2.2.1
   by_cases hlt : (j : Int) < (xs.length : Int)
   ·have hjl : j < xs.length := by omega
    have ej := (dU hS).2.2.2.2.2 j hjl (by omega) (Nat.le_refl _)
    have egd : ys.getD j zeroEv = xs[j] := by rw [List.getD_eq_getElem?_getD, List.getElem?_eq_getElem (by omega)]; exact ej
    have CJ : EvAt wr b (off + j * 3) xs[j] := by
     have q0 := dU hO j hjl
     simp only [egd] at q0
     exact ⟨(q0 0 _ rfl).1, (q0 1 _ rfl).1, (q0 2 _ rfl).1⟩
    have hil : (i : Int) < (xs.length : Int) := by omega
    have bA : ∀ o, Below wr.heap.size wr (wr.alloc o) := fun o => (Below.refl _ _).alloc (Nat.le_refl _) o
    have CE := dH fun W (hW : Below wr.heap.size wr W) => dU HQ W (dU HIN wr W none (dU hC) (grwOf hW) (.inl rfl)) xs[j] (List.getElem_mem hjl)
    unfold Ev.val at CE
    cases hx : q xs[j] with
    | true =>
     rw [hx] at CE
     have S2 := dH ((dU hS).skip hjl hx)
     clear egd
     generalize xs[j] = y at *
     obtain ⟨y0, y1, y2⟩ := y
     obtain ⟨c0, c1, c2⟩ := CJ
     simp only at c0 c1 c2 CE
     clear hx hS ej
     go_wp2_with fail
     refine (dU CE _ (bA _)).mono ?_
     rintro e w2 ⟨rfl, b2⟩
     have b2' := bT (bA _) b2
     have O2 := dH ((dU hO).below b2')
     have G2 := dH (grwT (dU hG) (grwOf b2'))
     have C2 := dH (dU HIN wr w2 none (dU hC) (grwOf b2') (.inl rfl))
     clear CE hO hG hC b2 b2' c0 c1 c2
     go_wp2
     go_roundw
     case rel => exact ⟨i, j + 1, ys, rfl, by go_num, by omega, hi, S2, O2, G2, C2⟩
     case measure => simp [intOf]; omega
    | false =>
     rw [hx] at CE
     have S2 := dH ((dU hS).keep hjl hx)
     clear egd
     generalize xs[j] = y at *
     obtain ⟨y0, y1, y2⟩ := y
     obtain ⟨c0, c1, c2⟩ := CJ
     simp only at c0 c1 c2 CE
     clear hx hS ej
     have X1 := Bx.new wr [.int .i64 y0, .int .i64 y1, .string y2] 143
     go_wp2_with fail
     refine (dU CE _ (bA _)).mono ?_
     rintro e w2 ⟨rfl, b2⟩
     have b2' := bT (bA _) b2
     have X2 := X1.below b2
     have O1 := (dU hO).below b2'
     obtain ⟨x0, x1, x2⟩ : _ ∧ _ ∧ _ := ⟨X2 0 _ rfl, X2 1 _ rfl, X2 2 _ rfl⟩
     have hin : i < xs.length := by omega
     obtain ⟨i0, f0⟩ := O1 i hin 0 _ rfl
     obtain ⟨i1, f1⟩ := O1 i hin 1 _ rfl
     obtain ⟨i2, f2⟩ := O1 i hin 2 _ rfl
     have O2 := zallEv O1 hin ⟨y0, y1, y2⟩
     rw [putZ_setE ys i _ (by omega)] at O2
     replace O2 := dH O2
     simp only [Nat.add_zero] at i0 f0
     have GG : Hid (w2.grownBy (((w2.setCell ⟨b, off + i * 3, none⟩ (.int .i64 y0)).setCell ⟨b, off + i * 3 + 1, none⟩ (.int .i64 y1)).setCell ⟨b, off + i * 3 + 2, none⟩ (.string y2)) (some b)) := (grwT (grwT (grwT (grwR w2 (some b)) (grown_set w2 b (off + i * 3) (.int .i64 y0))) (grown_set (w2.setCell ⟨b, off + i * 3, none⟩ (.int .i64 y0)) b (off + i * 3 + 1) (.int .i64 y1))) (grown_set ((w2.setCell ⟨b, off + i * 3, none⟩ (.int .i64 y0)).setCell ⟨b, off + i * 3 + 1, none⟩ (.int .i64 y1)) b (off + i * 3 + 2) (.string y2)))
     have G2 := dH (grwT (grwT (dU hG) (grwOf b2')) (dU GG))
     have C2 := dH (dU HIN w2 _ (some b) (dU HIN wr w2 none (dU hC) (grwOf b2') (.inl rfl)) (dU GG) (.inr ⟨dU HXE, rfl⟩))
     clear CE hO hG hC b2 b2' O1 X1 X2 c0 c1 c2 GG
     go_wp2
     go_roundw
     case rel => exact ⟨i + 1, j + 1, _, by go_num, by go_num, by omega, by omega, S2, O2, G2, C2⟩
     case measure => simp [intOf]; omega
   ·have ej : j = xs.length := by omega
    subst ej
    obtain ⟨-, h2, -, -, h5, -⟩ := dU hS
    rw [List.take_of_length_le (Nat.le_refl _)] at h2 h5
    have hn : 0 < xs.length - i := by omega
    have at1 : ∀ t, i * 3 + t < xs.length * 3 → (wr.cell? ⟨b, off + i * 3 + t, none⟩).isSome = true ∧ wr.frozen? ⟨b, off + i * 3 + t, none⟩ = false := fun t ht => by
     have hd : (i * 3 + t) / 3 < xs.length := by omega
     have hm := Nat.div_add_mod (i * 3 + t) 3
     obtain ⟨u, hu⟩ : ∃ u, (Ev.cl (ys.getD ((i * 3 + t) / 3) zeroEv))[(i * 3 + t) % 3]? = some u := ⟨_, List.getElem?_eq_getElem (by rw [Ev.cl_len]; omega)⟩
     obtain ⟨q1, q2⟩ := dU hO _ hd _ u hu
     have e : off + (i * 3 + t) / 3 * 3 + (i * 3 + t) % 3 = off + i * 3 + t := by omega
     rw [e] at q1 q2
     exact ⟨by rw [q1]; rfl, q2⟩
    have CC := run_clearRows elemEvent 0 (by intro u hu; simp [Value.cells] at hu; rcases hu with rfl | rfl | rfl <;> rfl) wr b (off + i * 3) (xs.length - i) (cap - i) hn (fun t ht => (at1 t (by omega)).1) (fun t ht => (at1 t (by omega)).2)
    have hzl : (Builtin.zeroCells (Value.cells (.agg #[.int .i64 0, .int .i64 0, .string ⟨#[]⟩])) (xs.length - i)).toList.length = (xs.length - i) * 3 := by rw [Array.length_toList, zeroCells_size, elemEvent.zcells]
    have R2 : Hid (RdEventS (.slice (some ⟨b, off, none⟩) (flZ q xs).length cap) (flZ q xs) (wr.setCells b (off + i * 3) (Builtin.zeroCells (Value.cells (.agg #[.int .i64 0, .int .i64 0, .string ⟨#[]⟩])) (xs.length - i)).toList)) := by
     refine ⟨by omega, _, _, rfl, by omega, .inr ⟨b, off, rfl, fun t ht m u hu => ?_⟩⟩
     have hm := clG_lt Ev.cl_len hu
     have ht2 : t < i := by omega
     have e1 : (flZ q xs)[t] = ys.getD t zeroEv := by
      have : (flZ q xs)[t] = (ys.take i)[t]'(by rw [List.length_take]; omega) := by simp only [h5]
      rw [this, List.getElem_take, List.getD_eq_getElem?_getD, List.getElem?_eq_getElem (by omega)]
      rfl
     rw [e1] at hu
     exact (World.cell?_setCells_out b _ (off + i * 3) wr ⟨b, off + t * 3 + m, none⟩ (fun _ _ => .inl (by simp only; omega))).trans (dU hO t (by omega) m u hu).1
    have G2 := dH (grwT (dU hG) (grwS b (Builtin.zeroCells (Value.cells (.agg #[.int .i64 0, .int .i64 0, .string ⟨#[]⟩])) (xs.length - i)).toList (off + i * 3) wr))
    have E2 := dH h2
    clear hS hO hG hC h2 h5 at1 hzl
    go_wp2
    go_ret
    rw [← dU E2]
    rw [← dU E2] at R2
    exact ⟨rfl, dU R2, some b, dU G2, .inr ⟨dU HXE, rfl⟩⟩
end Go.Proofs.YtodfgehicpejgaaGreatDoor
