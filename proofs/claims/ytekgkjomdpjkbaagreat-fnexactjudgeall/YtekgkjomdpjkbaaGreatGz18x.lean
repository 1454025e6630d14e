/- Several texts in one: EvD, JgB, EvyS, JgC. -/
import Derived.Test.YtekgkjomdpjkbaaGreatGk18
import Derived.Deep.RegionHeld3
import Derived.Test.YtekgkjomdpjkbaaGreatGz16x
import Derived.Deep.DeepCutAuto
import Derived.Test.YtekgkjomdpjkbaaGreatEvyA
import Derived.Test.YtekgkjomdpjkbaaGreatGz12
namespace Go.Proofs.YtekgkjomdpjkbaaGreat
open Go.ChangeShapes Go.WideShapes Go.ChangeAt Go.RowKit
set_option linter.unusedSimpArgs false
set_option linter.unusedVariables false
set_option maxRecDepth 100000
set_option maxHeartbeats 2000000 in
theorem indexE_any (v : Value) (xs : List Ev) (F : Nat) (caps : Array Value) (q : Ev → Bool) (w : World) (hF : ∀ args w, (callFunc F args).run Tryz.prog w = .ok (.enter F args) w) (hv : RdEventS v xs w)
  (hq : ∀ W, Below w.heap.size w W → ∀ z ∈ xs, Calls Tryz.prog F (#[z.val] ++ caps) W fun e w' => e = .returned (.bool (q z)) ∧ Below W.heap.size W w') :
  Calls Tryz.prog 223 #[v, .func (.func F) #[] caps] w fun e w' => (((∀ x ∈ xs, q x = false) ∧ e = .returned (.int .i64 (-1))) ∨ ∃ k, ∃ h : k < xs.length, (∀ i (h : i < xs.length), i < k → q xs[i] = false) ∧ q xs[k] = true ∧ e = .returned (.int .i64 (k : Int))) ∧ Below w.heap.size w w' := by
 have HV := dH fun W (hb : Below w.heap.size w W) => RdEventS.below hv hb
 have HQ := dH hq
 obtain ⟨a, cap, rfl, hl0⟩ := formEventS hv
 clear hq hv
 go_enter Tryz.func223, Tryz.ntmps223
 go_wp2
 go_loopw [8] (fun y wr => ∃ k : Nat, y = .int .i64 (k : Int) ∧ k ≤ xs.length ∧ Hid (∀ i (h : i < xs.length), i < k → q xs[i] = false) ∧ Below w.heap.size w wr) (fun y _ => xs.length - (intOf y).toNat)
 case atStart => exact ⟨0, rfl, Nat.zero_le _, fun i h h' => by omega, Below.refl _ _⟩
 case round =>
  obtain ⟨k, rfl, hk, hcd, hb⟩ := hrel
  by_cases hlt : (k : Int) < (xs.length : Int)
  ·have hkl : k < xs.length := by omega
   obtain ⟨b, off, rfl, he⟩ := (dU HV wr hb).atEv hkl
   obtain ⟨c0, c1, c2⟩ := he k hkl
   have CE := dH (dU HQ wr hb xs[k] (List.getElem_mem hkl))
   unfold Ev.val at CE
   cases hx : q xs[k] with
   | true =>
    rw [hx] at CE
    have G : Hid (∀ wz, Below w.heap.size w wz → (((∀ x ∈ xs, q x = false) ∧ (Ending.returned (.int .i64 (k : Int))) = .returned (.int .i64 (-1))) ∨ ∃ j, ∃ h : j < xs.length, (∀ i (h : i < xs.length), i < j → q xs[i] = false) ∧ q xs[j] = true ∧ (Ending.returned (.int .i64 (k : Int))) = .returned (.int .i64 (j : Int))) ∧ Below w.heap.size w wz) := fun wz hz => ⟨.inr ⟨k, hkl, dU hcd, hx, rfl⟩, hz⟩
    generalize xs[k] = y at c0 c1 c2 CE
    obtain ⟨y0, y1, y2⟩ := y
    simp only at c0 c1 c2 CE
    clear he hx hcd
    go_wp2_with fail
    refine (dU CE).mono ?_
    rintro e w1 ⟨rfl, b1⟩
    clear CE
    go_wp2
    go_ret
    exact dU G _ (bT hb b1)
   | false =>
    rw [hx] at CE
    have H2 : Hid (∀ i (h : i < xs.length), i < k + 1 → q xs[i] = false) := fun i h hi => by
     by_cases e : i = k
     ·subst e; exact hx
     ·exact dU hcd i h (by omega)
    generalize xs[k] = y at c0 c1 c2 CE
    obtain ⟨y0, y1, y2⟩ := y
    simp only at c0 c1 c2 CE
    clear he hx hcd
    go_wp2_with fail
    refine (dU CE).mono ?_
    rintro e w1 ⟨rfl, b1⟩
    clear CE
    go_wp2
    go_roundw
    case rel => exact ⟨k + 1, by go_num, by omega, H2, bT hb b1⟩
    case measure => simp [intOf]; omega
  ·have G := dH (show ∀ x ∈ xs, q x = false from fun x hm => by
    obtain ⟨i, hi, e⟩ := List.mem_iff_getElem.1 hm
    rw [← e]
    exact dU hcd i hi (by omega))
   clear hcd
   go_wp2
   go_ret
   exact ⟨.inl ⟨dU G, rfl⟩, hb⟩
theorem putZ_setE (ys : List Ev) (i : Nat) (e : Ev) (h : i < ys.length) : putZ (fun t => ys.getD t zeroEv) i e = fun t => (ys.set i e).getD t zeroEv := by
 funext t
 unfold putZ
 by_cases ht : t = i
 ·subst ht
  rw [if_pos rfl, List.getD_eq_getElem?_getD, List.getElem?_set_self h]
  rfl
 ·rw [if_neg ht]
  show ys.getD t zeroEv = (ys.set i e).getD t zeroEv
  rw [List.getD_eq_getElem?_getD, List.getD_eq_getElem?_getD, List.getElem?_set_ne (by omega)]
set_option maxHeartbeats 8000000 in
theorem deleteE_any (a : Option Addr) (cap : Nat) (xs : List Ev) (F : Nat) (caps : Array Value) (q : Ev → Bool) (Inv : World → Prop) (base : Nat) (w : World) (hF : ∀ args w, (callFunc F args).run Tryz.prog w = .ok (.enter F args) w) (ho : OwnRw 3 Ev.cl w base (.slice a xs.length cap) xs) (hI : Inv w)
  (hInv : ∀ W W' row, Inv W → W.grownBy W' row → (row = none ∨ (xs ≠ [] ∧ row = some (bO (.slice a xs.length cap)))) → Inv W')
  (hq : ∀ W, Inv W → ∀ z ∈ xs, Calls Tryz.prog F (#[z.val] ++ caps) W fun e w' => e = .returned (.bool (q z)) ∧ Below W.heap.size W w') :
  Calls Tryz.prog 180 #[.slice a xs.length cap, .func (.func F) #[] caps] w fun e w' => e = .returned (.slice a (flZ q xs).length cap) ∧ RdEventS (.slice a (flZ q xs).length cap) (flZ q xs) w' ∧ ∃ row, w.grownBy w' row ∧ (row = none ∨ (xs ≠ [] ∧ row = some (bO (.slice a xs.length cap)))) := by
 have CI := dH (indexE_any _ xs F caps q w hF (OwnRw.rw ho) (fun W hb z hz => hq W (hInv w W none hI (grwOf hb) (.inl rfl)) z hz))
 have hl0 := ho.1
 have hcap : xs.length ≤ cap ∧ cap ≤ 9223372036854775807 := by
  obtain ⟨-, a', c', e, h, -⟩ := ho
  simp only [Value.slice.injEq] at e
  obtain ⟨-, -, rfl⟩ := e
  exact h
 have HO := dH fun W (hb : Below w.heap.size w W) => ho.below hb
 have HIN := dH hInv
 have HQ := dH hq
 have II := dH hI
 clear ho hI hInv hq
 go_enter Tryz.func180, Tryz.ntmps180
 go_wp2_with fail
 refine (dU CI).mono ?_
 rintro e w1 ⟨hcase, bl⟩
 clear CI
 have O1 := dH (dU HO w1 bl)
 have I1 := dH (dU HIN w w1 none (dU II) (grwOf bl) (.inl rfl))
 clear HO II
 rcases hcase with ⟨hx, rfl⟩ | ⟨k, hk, hlt, hx, rfl⟩
 ·have E := dH (flZ_same hx)
  clear hx HQ HIN I1
  go_wp2
  go_ret
  rw [dU E]
  exact ⟨rfl, OwnRw.rw (dU O1), none, grwOf bl, .inl rfl⟩
 ·have hxe : xs ≠ [] := fun e => by subst e; simp at hk
  obtain ⟨b, off, rfl, hbb, Z0⟩ := (dU O1).rwZ zeroEv (by omega)
  have eb : bO (.slice (some ⟨b, off, none⟩) xs.length cap) = b := rfl
  rw [eb] at HIN
  have S0 := dH (DelZ.start hk hlt hx)
  have G0 : Hid (w.grownBy w1 (some b)) := grwOf bl
  have hk1 : ((k : Int) == -1) = false := by
   rw [beq_eq_false_iff_ne]
   omega
  have HXE := dH hxe
  have HZ0 := dH Z0
  clear hlt hx hxe eb bl Z0 O1
  go_wp2
  go_loopw [5, 6] (fun p y wr => ∃ (i j : Nat) (ys : List Ev), p = .int .i64 (i : Int) ∧ y = .int .i64 (j : Int) ∧ j ≤ xs.length ∧ i ≤ xs.length ∧ Hid (DelZ q xs i j ys) ∧ Hid (RwZ 3 Ev.cl wr b off xs.length (fun t => ys.getD t zeroEv)) ∧ Hid (w.grownBy wr (some b)) ∧ Hid (Inv wr)) (fun _ y _ => xs.length - (intOf y).toNat)
  case atStart => exact ⟨k, k + 1, xs, rfl, by go_num, by omega, by omega, S0, HZ0, G0, I1⟩
  case round =>
   obtain ⟨i, j, ys, rfl, rfl, hj, hi, hS, hO, hG, hC⟩ := hrel
   clear S0 HZ0 G0 I1
   have hyl := (dU hS).1
   have hij := (dU hS).2.2.1
   by_cases hlt : (j : Int) < (xs.length : Int)
   ·have hjl : j < xs.length := by omega
    have ej := (dU hS).2.2.2.2.2 j hjl (by omega) (Nat.le_refl _)
    have egd : ys.getD j zeroEv = xs[j] := by rw [List.getD_eq_getElem?_getD, List.getElem?_eq_getElem (by omega)]; exact ej
    have CJ : EvAt wr b (off + j * 3) xs[j] := by
     have q0 := dU hO j hjl
     simp only [egd] at q0
     exact ⟨(q0 0 _ rfl).1, (q0 1 _ rfl).1, (q0 2 _ rfl).1⟩
    have hil : (i : Int) < (xs.length : Int) := by omega
    have bA : ∀ o, Below wr.heap.size wr (wr.alloc o) := fun o => (Below.refl _ _).alloc (Nat.le_refl _) o
    have CE := dH fun W (hW : Below wr.heap.size wr W) => dU HQ W (dU HIN wr W none (dU hC) (grwOf hW) (.inl rfl)) xs[j] (List.getElem_mem hjl)
    unfold Ev.val at CE
    cases hx : q xs[j] with
    | true =>
     rw [hx] at CE
     have S2 := dH ((dU hS).skip hjl hx)
     clear egd
     generalize xs[j] = y at *
     obtain ⟨y0, y1, y2⟩ := y
     obtain ⟨c0, c1, c2⟩ := CJ
     simp only at c0 c1 c2 CE
     clear hx hS ej
     go_wp2_with fail
     refine (dU CE _ (bA _)).mono ?_
     rintro e w2 ⟨rfl, b2⟩
     have b2' := bT (bA _) b2
     have O2 := dH ((dU hO).below b2')
     have G2 := dH (grwT (dU hG) (grwOf b2'))
     have C2 := dH (dU HIN wr w2 none (dU hC) (grwOf b2') (.inl rfl))
     clear CE hO hG hC b2 b2' c0 c1 c2
     go_wp2
     go_roundw
     case rel => exact ⟨i, j + 1, ys, rfl, by go_num, by omega, hi, S2, O2, G2, C2⟩
     case measure => simp [intOf]; omega
    | false =>
     rw [hx] at CE
     have S2 := dH ((dU hS).keep hjl hx)
     clear egd
     generalize xs[j] = y at *
     obtain ⟨y0, y1, y2⟩ := y
     obtain ⟨c0, c1, c2⟩ := CJ
     simp only at c0 c1 c2 CE
     clear hx hS ej
     have X1 := Bx.new wr [.int .i64 y0, .int .i64 y1, .string y2] 81
     go_wp2_with fail
     refine (dU CE _ (bA _)).mono ?_
     rintro e w2 ⟨rfl, b2⟩
     have b2' := bT (bA _) b2
     have X2 := X1.below b2
     have O1 := (dU hO).below b2'
     obtain ⟨x0, x1, x2⟩ : _ ∧ _ ∧ _ := ⟨X2 0 _ rfl, X2 1 _ rfl, X2 2 _ rfl⟩
     have hin : i < xs.length := by omega
     obtain ⟨i0, f0⟩ := O1 i hin 0 _ rfl
     obtain ⟨i1, f1⟩ := O1 i hin 1 _ rfl
     obtain ⟨i2, f2⟩ := O1 i hin 2 _ rfl
     have O2 := zallEv O1 hin ⟨y0, y1, y2⟩
     rw [putZ_setE ys i _ (by omega)] at O2
     replace O2 := dH O2
     simp only [Nat.add_zero] at i0 f0
     have GG : Hid (w2.grownBy (((w2.setCell ⟨b, off + i * 3, none⟩ (.int .i64 y0)).setCell ⟨b, off + i * 3 + 1, none⟩ (.int .i64 y1)).setCell ⟨b, off + i * 3 + 2, none⟩ (.string y2)) (some b)) := (grwT (grwT (grwT (grwR w2 (some b)) (grown_set w2 b (off + i * 3) (.int .i64 y0))) (grown_set (w2.setCell ⟨b, off + i * 3, none⟩ (.int .i64 y0)) b (off + i * 3 + 1) (.int .i64 y1))) (grown_set ((w2.setCell ⟨b, off + i * 3, none⟩ (.int .i64 y0)).setCell ⟨b, off + i * 3 + 1, none⟩ (.int .i64 y1)) b (off + i * 3 + 2) (.string y2)))
     have G2 := dH (grwT (grwT (dU hG) (grwOf b2')) (dU GG))
     have C2 := dH (dU HIN w2 _ (some b) (dU HIN wr w2 none (dU hC) (grwOf b2') (.inl rfl)) (dU GG) (.inr ⟨dU HXE, rfl⟩))
     clear CE hO hG hC b2 b2' O1 X1 X2 c0 c1 c2 GG
     go_wp2
     go_roundw
     case rel => exact ⟨i + 1, j + 1, _, by go_num, by go_num, by omega, by omega, S2, O2, G2, C2⟩
     case measure => simp [intOf]; omega
   ·have ej : j = xs.length := by omega
    subst ej
    obtain ⟨-, h2, -, -, h5, -⟩ := dU hS
    rw [List.take_of_length_le (Nat.le_refl _)] at h2 h5
    have hn : 0 < xs.length - i := by omega
    have at1 : ∀ t, i * 3 + t < xs.length * 3 → (wr.cell? ⟨b, off + i * 3 + t, none⟩).isSome = true ∧ wr.frozen? ⟨b, off + i * 3 + t, none⟩ = false := fun t ht => by
     have hd : (i * 3 + t) / 3 < xs.length := by omega
     have hm := Nat.div_add_mod (i * 3 + t) 3
     obtain ⟨u, hu⟩ : ∃ u, (Ev.cl (ys.getD ((i * 3 + t) / 3) zeroEv))[(i * 3 + t) % 3]? = some u := ⟨_, List.getElem?_eq_getElem (by rw [Ev.cl_len]; omega)⟩
     obtain ⟨q1, q2⟩ := dU hO _ hd _ u hu
     have e : off + (i * 3 + t) / 3 * 3 + (i * 3 + t) % 3 = off + i * 3 + t := by omega
     rw [e] at q1 q2
     exact ⟨by rw [q1]; rfl, q2⟩
    have CC := run_clearRows elemEvent 0 (by intro u hu; simp [Value.cells] at hu; rcases hu with rfl | rfl | rfl <;> rfl) wr b (off + i * 3) (xs.length - i) (cap - i) hn (fun t ht => (at1 t (by omega)).1) (fun t ht => (at1 t (by omega)).2)
    have hzl : (Builtin.zeroCells (Value.cells (.agg #[.int .i64 0, .int .i64 0, .string ⟨#[]⟩])) (xs.length - i)).toList.length = (xs.length - i) * 3 := by rw [Array.length_toList, zeroCells_size, elemEvent.zcells]
    have R2 : Hid (RdEventS (.slice (some ⟨b, off, none⟩) (flZ q xs).length cap) (flZ q xs) (wr.setCells b (off + i * 3) (Builtin.zeroCells (Value.cells (.agg #[.int .i64 0, .int .i64 0, .string ⟨#[]⟩])) (xs.length - i)).toList)) := by
     refine ⟨by omega, _, _, rfl, by omega, .inr ⟨b, off, rfl, fun t ht m u hu => ?_⟩⟩
     have hm := clG_lt Ev.cl_len hu
     have ht2 : t < i := by omega
     have e1 : (flZ q xs)[t] = ys.getD t zeroEv := by
      have : (flZ q xs)[t] = (ys.take i)[t]'(by rw [List.length_take]; omega) := by simp only [h5]
      rw [this, List.getElem_take, List.getD_eq_getElem?_getD, List.getElem?_eq_getElem (by omega)]
      rfl
     rw [e1] at hu
     exact (World.cell?_setCells_out b _ (off + i * 3) wr ⟨b, off + t * 3 + m, none⟩ (fun _ _ => .inl (by simp only; omega))).trans (dU hO t (by omega) m u hu).1
    have G2 := dH (grwT (dU hG) (grwS b (Builtin.zeroCells (Value.cells (.agg #[.int .i64 0, .int .i64 0, .string ⟨#[]⟩])) (xs.length - i)).toList (off + i * 3) wr))
    have E2 := dH h2
    clear hS hO hG hC h2 h5 at1 hzl
    go_wp2
    go_ret
    rw [← dU E2]
    rw [← dU E2] at R2
    exact ⟨rfl, dU R2, some b, dU G2, .inr ⟨dU HXE, rfl⟩⟩
theorem events1_any (z : Ev) (b : Nat) (ka : Option Addr) (kc : Nat) (ks : List Int) (w : World) (hc : w.cell? ⟨b, 0, none⟩ = some (.slice ka ks.length kc)) (hk : Ns w (.slice ka ks.length kc) ks) :
  Calls Tryz.prog 182 (#[z.val] ++ #[.pointer (some ⟨b, 0, none⟩)]) w fun e w' => e = .returned (.bool (!(decide (z.kind ∈ ks)))) ∧ Below w.heap.size w w' := by
 obtain ⟨y0, y1, y2⟩ := z
 have B0 : Below w.heap.size w (w.alloc (.cells #[.int .i64 y0, .int .i64 y1, .string y2] 81)) := (Below.refl _ _).alloc (Nat.le_refl _) _
 have C := dH (containsI_any _ ks y0 _ (hk.below B0))
 have hc' : (w.alloc (.cells #[.int .i64 y0, .int .i64 y1, .string y2] 81)).cell? ⟨b, 0, none⟩ = some (.slice ka ks.length kc) := (B0.cell (p := ⟨b, 0, none⟩) (dCell_lt hc)).trans hc
 clear hk hc
 generalize ks.length = n at *
 show Calls Tryz.prog 182 #[.agg #[.int .i64 y0, .int .i64 y1, .string y2], .pointer (some ⟨b, 0, none⟩)] w _
 go_enter Tryz.func182, Tryz.ntmps182
 go_wp2_with fail
 refine (dU C).mono ?_
 rintro e w1 ⟨q, rfl⟩
 clear C hc'
 by_cases h : y0 ∈ ks
 ·obtain rfl := q.of_yes h
  have hd : decide (y0 ∈ ks) = true := decide_eq_true h
  clear q h
  go_wp2
  go_ret
  exact ⟨by rw [hd]; rfl, B0⟩
 ·obtain rfl := q.of_no h
  have hd : decide (y0 ∈ ks) = false := decide_eq_false h
  clear q h
  go_wp2
  go_ret
  exact ⟨by rw [hd]; rfl, B0⟩
def evK (ks : List Int) (l : List Ev) : List Ev := l.filter fun z => decide (z.kind ∈ ks)
theorem evK_fl (ks : List Int) (l : List Ev) : flZ (fun z => !(decide (z.kind ∈ ks))) l = evK ks l := by simp [flZ, evK]
set_option maxHeartbeats 4000000 in
theorem events_any (v kv : Value) (m : Rr) (ks : List Int) (w : World) (hv : RdReader v m w) (hk : Ns w kv ks) (hl : m.out.length ≤ 1048576) :
  Calls Tryz.prog 126 #[v, kv] w fun e w' => (∃ u, e = .returned u ∧ RdEventS u (evK ks m.out) w') ∧ Below w.heap.size w w' := by
 obtain ⟨sv, rfl, hs⟩ := hv
 obtain ⟨sa, sc, rfl, -⟩ := formEventS hs
 obtain ⟨-, ka, kc, rfl, -, -⟩ := id hk
 have ba : ∀ (w : World) o, Below w.heap.size w (w.alloc o) := fun w o => (Below.refl _ _).alloc (Nat.le_refl _) o
 have B0 := bT (ba w (.cells #[.int .i64 m.epoch, .int .i64 m.off, .slice sa m.out.length sc] 62)) (ba _ (.cells #[.slice ka ks.length kc] 22))
 have X0 := Bx.new (w.alloc (.cells #[.int .i64 m.epoch, .int .i64 m.off, .slice sa m.out.length sc] 62)) [.slice ka ks.length kc] 22
 have R0 := (Bx.new w [.int .i64 m.epoch, .int .i64 m.off, .slice sa m.out.length sc] 62).below (ba _ (.cells #[.slice ka ks.length kc] 22))
 have hk0 := hk.below B0
 have hs0 := hs.below B0
 rw [show (w.alloc (.cells #[.int .i64 m.epoch, .int .i64 m.off, .slice sa m.out.length sc] 62)).heap.size = w.heap.size + 1 from by simp] at X0
 have r2 := R0 2 _ rfl
 clear hk hs R0
 go_enter Tryz.func126, Tryz.ntmps126
 go_wp2_with fail
 generalize (w.alloc (.cells #[.int .i64 m.epoch, .int .i64 m.off, .slice sa m.out.length sc] 62)).alloc (.cells #[.slice ka ks.length kc] 22) = w0 at *
 refine (cloneV_any _ m.out w0 hs0 hl).mono ?_
 rintro e w1 ⟨⟨u, rfl, O⟩, b1⟩
 have ho := ApR.own elemEvent O
 have hge := ho.geZ
 obtain ⟨-, ua, uc, rfl, -, -⟩ := id ho
 have CD := dH (deleteE_any ua uc m.out 182 #[.pointer (some ⟨w.heap.size + 1, 0, none⟩)] (fun z => !(decide (z.kind ∈ ks))) (fun W => Below w0.heap.size w0 W) w0.heap.size w1 (by intro args w; rfl) ho b1 (fun W W' row hW g hr => hW.grown g hW.size (fun k hk => by
   rcases hr with hr | ⟨h1, hr⟩
   ·rw [hr] at hk; cases hk
   ·rw [hr] at hk
    rcases hge with h | h
    ·exact absurd h h1
    ·cases hk; exact h)) (fun W hW z hz => events1_any z (w.heap.size + 1) ka kc ks W ((hW.cell (p := ⟨w.heap.size + 1, 0, none⟩) (dCell_lt (X0 0 _ rfl))).trans (X0 0 _ rfl)) (hk0.below hW)))
 have hfin : Hid (∀ W row, w1.grownBy W row → (row = none ∨ (m.out ≠ [] ∧ row = some (bO (.slice ua m.out.length uc)))) → Below w.heap.size w W) := fun W row g hr => B0.trans ((b1.grown g b1.size (fun k hk => by
   rcases hr with hr | ⟨h1, hr⟩
   ·rw [hr] at hk; cases hk
   ·rw [hr] at hk
    rcases hge with h | h
    ·exact absurd h h1
    ·cases hk; exact h)).mono B0.size)
 clear O ho hge X0 hk0 hs0 r2 b1
 go_wp2_with fail
 refine (dU CD).mono ?_
 rintro e w2 ⟨rfl, hr, row, g, hrow⟩
 have BB := dU hfin w2 row g hrow
 rw [evK_fl] at hr ⊢
 replace hr := dH hr
 clear CD hfin g hrow
 go_wp2
 go_ret
 exact ⟨⟨_, rfl, dU hr⟩, BB⟩
def Txs (w : World) (v : Value) (xs : List ByteArray) : Prop :=
 xs.length ≤ 9223372036854775807 ∧ ∃ a cap, v = .slice a xs.length cap ∧ (xs.length ≤ cap ∧ cap ≤ 9223372036854775807) ∧ (xs = [] ∨ ∃ b off, a = some ⟨b, off, none⟩ ∧ ∀ i (h : i < xs.length), w.cell? ⟨b, off + i, none⟩ = some (.string xs[i]))
theorem Txs.below {w w' : World} {v : Value} {xs : List ByteArray} (h : Txs w v xs) (hb : Below w.heap.size w w') : Txs w' v xs := by
 obtain ⟨h0, a, cap, rfl, h1, h⟩ := h
 refine ⟨h0, a, cap, rfl, h1, ?_⟩
 rcases h with h | ⟨b, off, rfl, h⟩
 ·exact .inl h
 ·exact .inr ⟨b, off, rfl, fun i hi => (hb.cell (p := ⟨b, off + i, none⟩) (dCell_lt (h i hi))).trans (h i hi)⟩
theorem indexT_any (v : Value) (xs : List ByteArray) (F : Nat) (caps : Array Value) (q : ByteArray → Bool) (w : World) (hF : ∀ args w, (callFunc F args).run Tryz.prog w = .ok (.enter F args) w) (hv : Txs w v xs)
  (hq : ∀ W, Below w.heap.size w W → ∀ z ∈ xs, Calls Tryz.prog F (#[.string z] ++ caps) W fun e w' => e = .returned (.bool (q z)) ∧ Below W.heap.size W w') :
  Calls Tryz.prog 185 #[v, .func (.func F) #[] caps] w fun e w' => (((∀ x ∈ xs, q x = false) ∧ e = .returned (.int .i64 (-1))) ∨ ∃ k, ∃ h : k < xs.length, (∀ i (h : i < xs.length), i < k → q xs[i] = false) ∧ q xs[k] = true ∧ e = .returned (.int .i64 (k : Int))) ∧ Below w.heap.size w w' := by
 have HV := dH fun W (hb : Below w.heap.size w W) => hv.below hb
 have HQ := dH hq
 have hl0 := hv.1
 obtain ⟨-, a, cap, rfl, -, -⟩ := hv
 clear hq
 go_enter Tryz.func185, Tryz.ntmps185
 go_wp2
 go_loopw [8] (fun y wr => ∃ k : Nat, y = .int .i64 (k : Int) ∧ k ≤ xs.length ∧ Hid (∀ i (h : i < xs.length), i < k → q xs[i] = false) ∧ Below w.heap.size w wr) (fun y _ => xs.length - (intOf y).toNat)
 case atStart => exact ⟨0, rfl, Nat.zero_le _, fun i h h' => by omega, Below.refl _ _⟩
 case round =>
  obtain ⟨k, rfl, hk, hcd, hb⟩ := hrel
  by_cases hlt : (k : Int) < (xs.length : Int)
  ·have hkl : k < xs.length := by omega
   obtain ⟨b, off, rfl, he⟩ : ∃ b off, a = some ⟨b, off, none⟩ ∧ ∀ i (h : i < xs.length), wr.cell? ⟨b, off + i, none⟩ = some (.string xs[i]) := by
    obtain ⟨-, a', c', e, -, h⟩ := dU HV wr hb
    simp only [Value.slice.injEq] at e
    obtain ⟨rfl, -, rfl⟩ := e
    rcases h with h | ⟨b, off, e, h⟩
    ·rw [h] at hkl; simp at hkl
    ·exact ⟨b, off, e, h⟩
   have ck := he k hkl
   have CE := dH (dU HQ wr hb xs[k] (List.getElem_mem hkl))
   cases hx : q xs[k] with
   | true =>
    rw [hx] at CE
    have G : Hid (∀ wz, Below w.heap.size w wz → (((∀ x ∈ xs, q x = false) ∧ (Ending.returned (.int .i64 (k : Int))) = .returned (.int .i64 (-1))) ∨ ∃ j, ∃ h : j < xs.length, (∀ i (h : i < xs.length), i < j → q xs[i] = false) ∧ q xs[j] = true ∧ (Ending.returned (.int .i64 (k : Int))) = .returned (.int .i64 (j : Int))) ∧ Below w.heap.size w wz) := fun wz hz => ⟨.inr ⟨k, hkl, dU hcd, hx, rfl⟩, hz⟩
    generalize xs[k] = y at ck CE
    clear he hx hcd
    go_wp2_with fail
    refine (dU CE).mono ?_
    rintro e w1 ⟨rfl, b1⟩
    clear CE
    go_wp2
    go_ret
    exact dU G _ (bT hb b1)
   | false =>
    rw [hx] at CE
    have H2 : Hid (∀ i (h : i < xs.length), i < k + 1 → q xs[i] = false) := fun i h hi => by
     by_cases e : i = k
     ·subst e; exact hx
     ·exact dU hcd i h (by omega)
    generalize xs[k] = y at ck CE
    clear he hx hcd
    go_wp2_with fail
    refine (dU CE).mono ?_
    rintro e w1 ⟨rfl, b1⟩
    clear CE
    go_wp2
    go_roundw
    case rel => exact ⟨k + 1, by go_num, by omega, H2, bT hb b1⟩
    case measure => simp [intOf]; omega
  ·have G := dH (show ∀ x ∈ xs, q x = false from fun x hm => by
    obtain ⟨i, hi, e⟩ := List.mem_iff_getElem.1 hm
    rw [← e]
    exact dU hcd i hi (by omega))
   clear hcd
   go_wp2
   go_ret
   exact ⟨.inl ⟨dU G, rfl⟩, hb⟩
theorem containsT_any (v : Value) (xs : List ByteArray) (F : Nat) (caps : Array Value) (q : ByteArray → Bool) (w : World) (hF : ∀ args w, (callFunc F args).run Tryz.prog w = .ok (.enter F args) w) (hv : Txs w v xs)
  (hq : ∀ W, Below w.heap.size w W → ∀ z ∈ xs, Calls Tryz.prog F (#[.string z] ++ caps) W fun e w' => e = .returned (.bool (q z)) ∧ Below W.heap.size W w') :
  Calls Tryz.prog 129 #[v, .func (.func F) #[] caps] w fun e w' => RetB (∃ x ∈ xs, q x = true) e ∧ Below w.heap.size w w' := by
 have C1 := dH (indexT_any v xs F caps q w hF hv hq)
 have hl := hv.1
 clear hF hv hq
 go_enter Tryz.func129, Tryz.ntmps129
 go_wp2_with fail
 refine (dU C1).mono ?_
 rintro e w1 ⟨h, b1⟩
 clear C1
 rcases h with ⟨h, rfl⟩ | ⟨k, hk, h1, h2, rfl⟩
 ·have R : RetB (∃ x ∈ xs, q x = true) (.returned (.bool false)) := RetB.no fun ⟨x, hx, hq⟩ => by rw [h x hx] at hq; cases hq
  clear h
  go_wp2
  go_ret
  exact ⟨R, b1⟩
 ·have R : RetB (∃ x ∈ xs, q x = true) (.returned (.bool true)) := RetB.yes ⟨_, List.getElem_mem hk, h2⟩
  have hk0 : (0 : Int) ≤ (k : Int) := by omega
  clear h1 h2
  go_wp2
  go_ret
  exact ⟨R, b1⟩
theorem every1Txt_any (z : ByteArray) (F b : Nat) (caps : Array Value) (q : Bool) (w : World) (hF : ∀ args w, (callFunc F args).run Tryz.prog w = .ok (.enter F args) w) (hc : w.cell? ⟨b, 0, none⟩ = some (.func (.func F) #[] caps))
  (hq : Calls Tryz.prog F (#[.string z] ++ caps) w fun e w' => e = .returned (.bool q) ∧ Below w.heap.size w w') :
  Calls Tryz.prog 130 (#[.string z] ++ #[.pointer (some ⟨b, 0, none⟩)]) w fun e w' => e = .returned (.bool (!q)) ∧ Below w.heap.size w w' := by
 have C1 := dH hq
 clear hq
 show Calls Tryz.prog 130 #[.string z, .pointer (some ⟨b, 0, none⟩)] w _
 go_enter Tryz.func130, Tryz.ntmps130
 go_wp2_with fail
 refine (dU C1).mono ?_
 rintro e w1 ⟨rfl, b1⟩
 clear C1 hc
 cases q
 all_goals
  go_wp2
  go_ret
  exact ⟨rfl, b1⟩
theorem everyTxt_any (v : Value) (xs : List ByteArray) (F : Nat) (caps : Array Value) (Q : ByteArray → Prop) (w : World) (hF : ∀ args w, (callFunc F args).run Tryz.prog w = .ok (.enter F args) w) (hv : Txs w v xs)
  (hq : ∀ W, Below w.heap.size w W → ∀ z ∈ xs, Calls Tryz.prog F (#[.string z] ++ caps) W fun e w' => RetB (Q z) e ∧ Below W.heap.size W w') :
  Calls Tryz.prog 74 #[v, .func (.func F) #[] caps] w fun e w' => RetB (∀ x ∈ xs, Q x) e ∧ Below w.heap.size w w' := by
 have B0 : Below w.heap.size w (w.alloc (.cells #[.func (.func F) #[] caps] 129)) := (Below.refl _ _).alloc (Nat.le_refl _) _
 have K0 := Bx.new w [.func (.func F) #[] caps] 129 0 _ rfl
 have C1 := dH (containsT_any v xs 130 #[.pointer (some ⟨w.heap.size, 0, none⟩)] (fun x => !(bq (Q x))) _ (by intro args w; rfl) (hv.below B0) fun W hb z hz => every1Txt_any z F w.heap.size caps (bq (Q z)) W hF ((hb.cell (p := ⟨w.heap.size, 0, none⟩) (dCell_lt K0)).trans K0) ((hq W (bT B0 hb) z hz).mono fun e w' h => ⟨h.1.bq, h.2⟩))
 obtain ⟨-, a, cap, rfl, -, -⟩ := hv
 have FIN : Hid (∀ b : Bool, (b = true ↔ ∃ x ∈ xs, (!(bq (Q x))) = true) → RetB (∀ x ∈ xs, Q x) (.returned (.bool (!b)))) := fun b h => (all_not h).to fun x => bq_iff _
 clear hq K0
 go_enter Tryz.func74, Tryz.ntmps74
 go_wp2_with fail
 refine (dU C1).mono ?_
 rintro e w1 ⟨⟨b, rfl, h⟩, b1⟩
 have R := dH (dU FIN b h)
 have B1 := bT B0 b1
 clear C1 FIN h b1 B0
 cases b
 all_goals
  go_wp2
  go_ret
  exact ⟨dU R, B1⟩
theorem lookS_some {w : World} {T KT ET : TypeId} {b c i : Nat} {es : Array MapEntry} {s : ByteArray} {v : Value} (hu : Tryz.prog.underlying T = some (.map KT ET)) (hs : Tryz.prog.underlying KT = some .string) (h0 : w.heap[b]? = some (.map es c)) (hf : Instr.findNow .string (.string s) es.toList 0 = some (some (i, v))) :
  (Instr.lookup T (.map (some b)) (.string s) true).run Tryz.prog w = .ok (.tuple #[v, .bool true]) w := by
 simp [Instr.lookup, run_underlying hu, MapKept.run_getObj_map h0, MapKept.run_checkKey (k := .string s) hs trivial, MapKept.run_findKey hs hf]
theorem lookS_none {w : World} {T KT ET : TypeId} {b c : Nat} {es : Array MapEntry} {s : ByteArray} {z : Value} (hu : Tryz.prog.underlying T = some (.map KT ET)) (hs : Tryz.prog.underlying KT = some .string) (hz : (zeroValue ET).run Tryz.prog w = .ok z w) (h0 : w.heap[b]? = some (.map es c)) (hf : Instr.findNow .string (.string s) es.toList 0 = some none) :
  (Instr.lookup T (.map (some b)) (.string s) true).run Tryz.prog w = .ok (.tuple #[z, .bool false]) w := by
 simp [Instr.lookup, run_underlying hu, MapKept.run_getObj_map h0, MapKept.run_checkKey (k := .string s) hs trivial, MapKept.run_findKey hs hf, hz]
theorem judged1_found (s : ByteArray) (mb b c i F : Nat) (es : Array MapEntry) (caps : Array Value) (Q : Prop) (w : World) (hF : ∀ args w, (callFunc F args).run Tryz.prog w = .ok (.enter F args) w) (hc : w.cell? ⟨mb, 0, none⟩ = some (.map (some b))) (h0 : w.heap[b]? = some (.map es c)) (hf : Instr.findNow .string (.string s) es.toList 0 = some (some (i, .func (.func F) #[] caps)))
  (hq : Calls Tryz.prog F caps w fun e w' => RetB Q e ∧ Below w.heap.size w w') :
  Calls Tryz.prog 75 (#[.string s] ++ #[.pointer (some ⟨mb, 0, none⟩)]) w fun e w' => RetB Q e ∧ Below w.heap.size w w' := by
 have C1 := dH hq
 have hlk := lookS_some Tryz.underlying124 Tryz.underlying9 h0 hf
 clear hq h0 hf
 show Calls Tryz.prog 75 #[.string s, .pointer (some ⟨mb, 0, none⟩)] w _
 go_enter Tryz.func75, Tryz.ntmps75
 go_wp2_with fail
 refine (dU C1).mono ?_
 rintro e w1 ⟨⟨q, rfl, h⟩, b1⟩
 have R := dH (show RetB Q (.returned (.bool q)) from ⟨q, rfl, h⟩)
 clear C1 h
 cases q
 all_goals
  go_wp2
  go_ret
  exact ⟨dU R, b1⟩
theorem judged1_none (s : ByteArray) (mb b c : Nat) (es : Array MapEntry) (w : World) (hc : w.cell? ⟨mb, 0, none⟩ = some (.map (some b))) (h0 : w.heap[b]? = some (.map es c)) (hf : Instr.findNow .string (.string s) es.toList 0 = some none) :
  Calls Tryz.prog 75 (#[.string s] ++ #[.pointer (some ⟨mb, 0, none⟩)]) w fun e w' => RetB True e ∧ Below w.heap.size w w' := by
 have hlk := lookS_none (z := .nilFunc) Tryz.underlying124 Tryz.underlying9 (by kernel_rfl) h0 hf
 clear h0 hf
 show Calls Tryz.prog 75 #[.string s, .pointer (some ⟨mb, 0, none⟩)] w _
 go_enter Tryz.func75, Tryz.ntmps75
 go_wp2
 go_ret
 exact ⟨RetB.yes trivial, Below.refl _ _⟩
def noLoss (r : Rr) : Prop := ∀ e ∈ r.out, ¬ e.kind = 3
theorem evK_nil (r : Rr) : (evK [3] r.out).length = 0 ↔ noLoss r := by
 rw [List.length_eq_zero_iff]
 unfold evK noLoss
 rw [List.filter_eq_nil_iff]
 constructor
 ·intro h e he; have := h e he; simpa using this
 ·intro h e he; have := h e he; simpa using this
set_option maxHeartbeats 4000000 in
theorem whole1_any (v : Value) (m : Rr) (w : World) (hv : RdReader v m w) (hl : m.out.length ≤ 1048576) :
  Calls Tryz.prog 125 #[v] w fun e w' => RetB (noLoss m) e ∧ Below w.heap.size w w' := by
 have ba : ∀ (w : World) o, Below w.heap.size w (w.alloc o) := fun w o => (Below.refl _ _).alloc (Nat.le_refl _) o
 have C := dH fun W (hb : Below w.heap.size w W) kv (hk : Ns W kv [3]) => events_any v kv m [3] W (hv.below hb) hk hl
 obtain ⟨sv, rfl, hs⟩ := hv
 obtain ⟨sa, sc, rfl, -⟩ := formEventS hs
 have B0 := bT (ba w (.cells #[.int .i64 m.epoch, .int .i64 m.off, .slice sa m.out.length sc] 62)) (ba _ (.cells #[.int .i64 3] 3))
 have X0 := Bx.new (w.alloc (.cells #[.int .i64 m.epoch, .int .i64 m.off, .slice sa m.out.length sc] 62)) [.int .i64 3] 3
 rw [show (w.alloc (.cells #[.int .i64 m.epoch, .int .i64 m.off, .slice sa m.out.length sc] 62)).heap.size = w.heap.size + 1 from by simp] at X0
 have N0 : Hid (Ns ((w.alloc (.cells #[.int .i64 m.epoch, .int .i64 m.off, .slice sa m.out.length sc] 62)).alloc (.cells #[.int .i64 3] 3)) (.slice (some ⟨w.heap.size + 1, 0, none⟩) 1 1) [3]) := ⟨by simp, _, 1, rfl, ⟨by simp, by omega⟩, .inr ⟨w.heap.size + 1, 0, rfl, fun i hi => by
  have : i = 0 := by simpa using hi
  subst this
  exact X0 0 _ rfl⟩⟩
 clear hs X0
 go_enter Tryz.func125, Tryz.ntmps125
 go_wp2_with fail
 refine (dU C _ B0 _ (dU N0)).mono ?_
 rintro e w1 ⟨⟨u, rfl, hu⟩, b1⟩
 have B1 := bT B0 b1
 obtain ⟨ua, uc, rfl, -⟩ := formEventS hu
 have HE := dH (evK_nil m)
 clear hu b1 B0 C N0
 generalize (evK [3] m.out).length = n at *
 by_cases h : (n : Int) = 0
 ·have R := dH (RetB.yes ((dU HE).1 (by omega)))
  have hb : ((n : Int) == 0) = true := by simpa using h
  clear h HE
  go_wp2
  go_ret
  exact ⟨dU R, B1⟩
 ·have R := dH (RetB.no (fun q => h (by have := (dU HE).2 q; omega)) : RetB (noLoss m) (.returned (.bool false)))
  have hb : ((n : Int) == 0) = false := by simpa using h
  clear HE
  go_wp2
  go_ret
  exact ⟨dU R, B1⟩
end Go.Proofs.YtekgkjomdpjkbaaGreat
