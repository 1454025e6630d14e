/- Several texts in one: RmP, DelG, WrD, WrE. -/
import Derived.Test.YtkiclbbialadlaaGreatGw2
import Derived.Lib.SliceRun
import Derived.Deep.RegionHeld3
import Derived.Deep.DeepCutAuto
import Derived.Laws.IdiomCopy
import Derived.Test.YtkiclbbialadlaaGreatWrC
import Derived.Test.YtkiclbbialadlaaGreatGaA
import Derived.Test.YtkiclbbialadlaaGreatGaT
import Derived.Test.YtkiclbbialadlaaGreatGbO
import Derived.Test.YtkiclbbialadlaaGreatGaG
namespace Go.Proofs.YtkiclbbialadlaaGreat
open Go.ChangeShapes Go.WideShapes Go.ChangeAt Go.RowKit
set_option linter.unusedSimpArgs false
set_option linter.unusedVariables false
set_option maxRecDepth 100000
def RmN (w : World) (base : Nat) (v : Value) (xs : List Int) : Prop := ApR 3 1 (fun x => [.int .i64 x]) w base v xs ∧ (xs = [] → touch v = none)
section
variable {w w' : World} {base base' : Nat} {v : Value} {xs : List Int}
theorem RmN.own (h : RmN w base v xs) : OwnN w base v xs := (ApR.own elemN h.1).n1
theorem RmN.bs (h : RmN w base v xs) : Ns w v xs := h.own.bs
theorem RmN.ge (h : RmN w base v xs) : xs = [] ∨ base ≤ bO v := h.own.ge
theorem RmN.mono (h : RmN w base v xs) (hb : base' ≤ base) : RmN w base' v xs := ⟨h.1.mono hb, h.2⟩
theorem RmN.below (h : RmN w base v xs) (hb : Below w.heap.size w w') : RmN w' base v xs := ⟨h.1.below hb, h.2⟩
theorem RmN.touch (h : RmN w base v xs) {j : Nat} (ht : touch v = some j) : xs ≠ [] ∧ j = bO v := by
 refine ⟨(fun e => by rw [h.2 e] at ht; cases ht), ?_⟩
 rcases h.1 with ⟨-, a, rfl⟩ | h'
 ·cases a <;> simp [Go.Proofs.YtkiclbbialadlaaGreat.touch] at ht
 ·rcases h'.2 with ⟨rfl, -⟩ | ⟨g, cap, cur, rfl, -⟩
  ·simp [Go.Proofs.YtkiclbbialadlaaGreat.touch] at ht
  ·by_cases hc : cap = 0
   ·simp [Go.Proofs.YtkiclbbialadlaaGreat.touch, hc] at ht
   ·simp [Go.Proofs.YtkiclbbialadlaaGreat.touch, hc] at ht
    exact ht.symm
theorem RmN.grown {row : Option Nat} (h : RmN w base v xs) (g : w.grownBy w' row) (hn : xs = [] ∨ row ≠ some (bO v)) : RmN w' base v xs := by
 refine ⟨h.1.kept elemN g ?_, h.2⟩
 cases row with
 | none => exact .inl rfl
 | some j =>
  right
  intro ht
  obtain ⟨h1, h2⟩ := h.touch ht
  rcases hn with hn | hn
  ·exact h1 hn
  ·exact hn (by rw [h2])
theorem RmN.far {b o : Nat} (h : RmN w base v xs) (hb : b < base) (u : Value) : RmN (w.setCell ⟨b, o, none⟩ u) base v xs := ⟨h.1.far elemN hb u, h.2⟩
end
def flQ (q : Int → Bool) (xs : List Int) : List Int := xs.filter fun z => !(q z)
theorem flQ_yes {q : Int → Bool} (xs : List Int) (k : Nat) (h : k < xs.length) (hx : q xs[k] = true) : flQ q (xs.take (k + 1)) = flQ q (xs.take k) := by
 rw [flQ, List.take_succ_eq_append_getElem h, List.filter_append]
 simp [flQ, hx]
theorem flQ_no {q : Int → Bool} (xs : List Int) (k : Nat) (h : k < xs.length) (hx : q xs[k] = false) : flQ q (xs.take (k + 1)) = flQ q (xs.take k) ++ [xs[k]] := by
 rw [flQ, List.take_succ_eq_append_getElem h, List.filter_append]
 simp [flQ, hx]
theorem flQ_same {q : Int → Bool} {xs : List Int} (h : ∀ x ∈ xs, q x = false) : flQ q xs = xs := by
 unfold flQ
 rw [List.filter_eq_self]
 intro a ha
 simp [h a ha]
theorem flQ_head {q : Int → Bool} {xs : List Int} {k : Nat} (h : ∀ i (h : i < xs.length), i < k → q xs[i] = false) : flQ q (xs.take k) = xs.take k := flQ_same fun x hm => by
 obtain ⟨i, hi, e⟩ := List.mem_iff_getElem.1 hm
 rw [List.length_take] at hi
 rw [List.getElem_take] at e
 rw [← e]
 exact h i (by omega) (by omega)
set_option maxHeartbeats 2000000 in
theorem indexG_any (v : Value) (xs : List Int) (F : Nat) (caps : Array Value) (q : Int → Bool) (w : World) (hF : ∀ args w, (callFunc F args).run Tryz.prog w = .ok (.enter F args) w) (hv : Ns w v xs)
  (hq : ∀ W, Below w.heap.size w W → ∀ z ∈ xs, Calls Tryz.prog F (#[.int .i64 z] ++ caps) W fun e w' => e = .returned (.bool (q z)) ∧ Below W.heap.size W w') :
  Calls Tryz.prog 202 #[v, .func (.func F) #[] caps] w fun e w' => (((∀ x ∈ xs, q x = false) ∧ e = .returned (.int .i64 (-1))) ∨ ∃ k, ∃ h : k < xs.length, (∀ i (h : i < xs.length), i < k → q xs[i] = false) ∧ q xs[k] = true ∧ e = .returned (.int .i64 (k : Int))) ∧ Below w.heap.size w w' := by
 have HV := dH fun W (hb : Below w.heap.size w W) => hv.below hb
 have HQ := dH hq
 have hl0 := hv.1
 obtain ⟨-, a, cap, rfl, -, -⟩ := hv
 clear hq
 go_enter Tryz.func202, Tryz.ntmps202
 go_wp2
 go_loopw [8] (fun y wr => ∃ k : Nat, y = .int .i64 (k : Int) ∧ k ≤ xs.length ∧ Hid (∀ i (h : i < xs.length), i < k → q xs[i] = false) ∧ Below w.heap.size w wr) (fun y _ => xs.length - (intOf y).toNat)
 case atStart => exact ⟨0, rfl, Nat.zero_le _, fun i h h' => by omega, Below.refl _ _⟩
 case round =>
  obtain ⟨k, rfl, hk, hcd, hb⟩ := hrel
  by_cases hlt : (k : Int) < (xs.length : Int)
  ·have hkl : k < xs.length := by omega
   obtain ⟨b, off, rfl, he⟩ : ∃ b off, a = some ⟨b, off, none⟩ ∧ ∀ i (h : i < xs.length), wr.cell? ⟨b, off + i, none⟩ = some (.int .i64 xs[i]) := by
    obtain ⟨-, a', c', e, -, h⟩ := dU HV wr hb
    simp only [Value.slice.injEq] at e
    obtain ⟨rfl, -, rfl⟩ := e
    rcases h with h | ⟨b, off, e, h⟩
    ·rw [h] at hkl; simp at hkl
    ·exact ⟨b, off, e, h⟩
   have ck := he k hkl
   have CE := dH (dU HQ wr hb xs[k] (List.getElem_mem hkl))
   cases hx : q xs[k] with
   | true =>
    rw [hx] at CE
    have G : Hid (∀ wz, Below w.heap.size w wz → (((∀ x ∈ xs, q x = false) ∧ (Ending.returned (.int .i64 (k : Int))) = .returned (.int .i64 (-1))) ∨ ∃ j, ∃ h : j < xs.length, (∀ i (h : i < xs.length), i < j → q xs[i] = false) ∧ q xs[j] = true ∧ (Ending.returned (.int .i64 (k : Int))) = .returned (.int .i64 (j : Int))) ∧ Below w.heap.size w wz) := fun wz hz => ⟨.inr ⟨k, hkl, dU hcd, hx, rfl⟩, hz⟩
    generalize xs[k] = y at ck CE
    clear he hx hcd
    go_wp2_with fail
    refine (dU CE).mono ?_
    rintro e w1 ⟨rfl, b1⟩
    clear CE
    go_wp2
    go_ret
    exact dU G _ (bT hb b1)
   | false =>
    rw [hx] at CE
    have H2 : Hid (∀ i (h : i < xs.length), i < k + 1 → q xs[i] = false) := fun i h hi => by
     by_cases e : i = k
     ·subst e; exact hx
     ·exact dU hcd i h (by omega)
    generalize xs[k] = y at ck CE
    clear he hx hcd
    go_wp2_with fail
    refine (dU CE).mono ?_
    rintro e w1 ⟨rfl, b1⟩
    clear CE
    go_wp2
    go_roundw
    case rel => exact ⟨k + 1, by go_num, by omega, H2, bT hb b1⟩
    case measure => simp [intOf]; omega
  ·have G := dH (show ∀ x ∈ xs, q x = false from fun x hm => by
    obtain ⟨i, hi, e⟩ := List.mem_iff_getElem.1 hm
    rw [← e]
    exact dU hcd i hi (by omega))
   clear hcd
   go_wp2
   go_ret
   exact ⟨.inl ⟨dU G, rfl⟩, hb⟩
def DelG (q : Int → Bool) (xs : List Int) (i j : Nat) (ys : List Int) : Prop := ys.length = xs.length ∧ i = (flQ q (xs.take j)).length ∧ i < j ∧ j ≤ xs.length ∧ ys.take i = flQ q (xs.take j) ∧ ∀ t (h : t < xs.length) (h' : t < ys.length), j ≤ t → ys[t] = xs[t]
theorem DelG.start {q : Int → Bool} {xs : List Int} {k : Nat} (hk : k < xs.length) (h : ∀ i (h : i < xs.length), i < k → q xs[i] = false) (hx : q xs[k] = true) : DelG q xs k (k + 1) xs := by
 have e1 := flQ_yes xs k hk hx
 have e2 := flQ_head (k := k) h
 refine ⟨rfl, ?_, by omega, by omega, ?_, fun t _ _ _ => rfl⟩
 ·rw [e1, e2, List.length_take]; omega
 ·rw [e1, e2]
theorem DelG.keep {q : Int → Bool} {xs ys : List Int} {i j : Nat} (h : DelG q xs i j ys) (hj : j < xs.length) (hx : q xs[j] = false) : DelG q xs (i + 1) (j + 1) (ys.set i xs[j]) := by
 obtain ⟨h1, h2, h3, h4, h5, h6⟩ := h
 have e1 := flQ_no xs j hj hx
 refine ⟨by rw [List.length_set]; exact h1, by rw [e1, List.length_append, ← h2]; rfl, by omega, by omega, ?_, fun t ht ht' hjt => ?_⟩
 ·rw [e1, ← h5, List.take_succ_eq_append_getElem (by rw [List.length_set]; omega), List.getElem_set_self, List.take_set_of_le (Nat.le_refl _)]
 ·rw [List.getElem_set_ne (by omega)]
  exact h6 t ht (by rw [List.length_set] at ht'; exact ht') (by omega)
def opCl (p : Addr) : List Value := [.pointer (some p)]
theorem elemO : Elem (α := Addr) 279 266 (.agg #[.pointer none]) 1 8 opCl where
  under := Tryz.underlying266
  info := by kernel_rfl
  zcells := by kernel_rfl
  pos := by decide
  len := fun _ => rfl
  one := fun a u hu => by
    simp only [opCl, List.mem_cons, List.not_mem_nil, or_false] at hu
    subst hu
    rfl
theorem rwO_one (w : World) (p : Addr) (T : TypeId) (c : Nat) (hc : 1 ≤ c ∧ c ≤ 9223372036854775807) : Rw 1 opCl (w.alloc (.cells #[.pointer (some p)] T)) (.slice (some ⟨w.heap.size, 0, none⟩) 1 c) [p] := by
  refine ⟨by simp, _, _, rfl, by simpa using hc, .inr ⟨w.heap.size, 0, rfl, fun i hi j u hu => ?_⟩⟩
  obtain rfl : i = 0 := by simp at hi; omega
  simp only [List.getElem_cons_zero, opCl] at hu
  simpa using hu
def opI (ms : List Wd) (k : Nat) : List Nat := (List.range k).filter fun i => !(ms.getD i ⟨⟨#[]⟩, [], true⟩).done
theorem opI_step (ms : List Wd) (k : Nat) (h : k < ms.length) : opI ms (k + 1) = opI ms k ++ (if ms[k].done then [] else [k]) := by
  unfold opI
  rw [List.range_succ, List.filter_append]
  congr 1
  rw [List.filter_cons, getD_lt _ h]
  cases ms[k].done <;> simp
theorem opI_len (ms : List Wd) : ∀ k, k ≤ ms.length → (opI ms k).length = openN (ms.take k)
  | 0, _ => by simp [opI, openN]
  | k + 1, h => by
    rw [opI_step ms k (by omega), openN_step ms k (by omega), List.length_append, opI_len ms k (by omega)]
    cases ms[k].done <;> simp
theorem opI_le (ms : List Wd) (k : Nat) : (opI ms k).length ≤ k := by
  unfold opI
  have := List.length_filter_le (fun i => !(ms.getD i ⟨⟨#[]⟩, [], true⟩).done) (List.range k)
  simpa using this
def adW (b off : Nat) (i : Nat) : Addr := ⟨b, off + i * 3, none⟩
set_option maxHeartbeats 4000000 in
theorem winOpen_any (b o bb off cap : Nat) (a : Option Addr) (rs : List (Nst Wd)) (w : World) (hc : w.cell? ⟨b, o + 2, none⟩ = some (.slice a rs.length cap)) (hr : Rw 3 wdCl w (.slice a rs.length cap) rs) (ha : rs = [] ∨ a = some ⟨bb, off, none⟩) (hl : rs.length ≤ 1048576) :
    Calls Tryz.prog 228 #[.pointer (some ⟨b, o, none⟩)] w fun e w' => (∃ u, e = .returned u ∧ ApR 279 1 opCl w' w.heap.size u ((opI (rs.map Nst.m) rs.length).map (adW bb off))) ∧ Below w.heap.size w w' := by
  have ba : ∀ (w : World) o, Below w.heap.size w (w.alloc o) := fun w o => (Below.refl _ _).alloc (Nat.le_refl _) o
  have HC := dH fun W (hb : Below w.heap.size w W) => (hb.cell (p := ⟨b, o + 2, none⟩) (dCell_lt hc)).trans hc
  have HR := dH fun W (hb : Below w.heap.size w W) => hr.below hb
  have HA := dH ha
  have t1 := taOpen_done
  have t2 := taOpen_yes
  clear ha hr
  go_enter Tryz.func228, Tryz.ntmps228
  go_wp2
  go_loopw [3, 12] (fun u x wr => ∃ (k : Nat) (oa : Option Addr) (oc : Nat), x = .int .i64 (k : Int) ∧ u = .slice oa (opI (rs.map Nst.m) k).length oc ∧ k ≤ rs.length ∧ Hid (ApR 279 1 opCl wr w.heap.size (.slice oa (opI (rs.map Nst.m) k).length oc) ((opI (rs.map Nst.m) k).map (adW bb off))) ∧ Below w.heap.size w wr) (fun _ x _ => rs.length - (intOf x).toNat)
  case atStart => exact ⟨0, none, 0, rfl, rfl, Nat.zero_le _, .inl ⟨rfl, none, rfl⟩, Below.refl _ _⟩
  case round =>
    obtain ⟨k, oa, oc, rfl, rfl, hk, hA, hb⟩ := hrel
    by_cases hlt : (k : Int) < (rs.length : Int)
    · have hkl : k < rs.length := by omega
      have hne : ¬ rs = [] := fun e => by rw [e] at hkl; simp at hkl
      have ea := (dU HA).resolve_left hne
      subst ea
      obtain ⟨b', off', e', he⟩ := (dU HR wr hb).word hkl
      cases e'
      have c2 := (he k hkl).2.2
      have hcw := dU HC wr hb
      have hst := opI_step (rs.map Nst.m) k (by simpa using hkl)
      rw [List.getElem_map] at hst
      have hol := opI_le (rs.map Nst.m) k
      cases hd : rs[k].m.done with
      | true =>
        rw [hd] at c2 hst
        simp only [if_true, List.append_nil] at hst
        have C1 := dH (winAt_done b o bb off rs.length cap k wr hcw hkl (by omega) c2)
        have A2 := hA
        have EL := dH hst
        clear c2 he hcw hst hd hA
        go_wp2_with fail
        refine (dU C1).mono ?_
        rintro e w1 ⟨rfl, rfl⟩
        clear C1
        go_wp2
        go_roundw
        case rel => exact ⟨k + 1, oa, oc, by go_num, by rw [dU EL], by omega, (by rw [dU EL]; exact (dU A2).below (ba _ _)), bT hb (ba _ _)⟩
        case measure => simp [intOf]; omega
      | false =>
        rw [hd] at c2 hst
        have C1 := dH (winAt_open b o bb off rs.length cap k wr hcw hkl (by omega) c2)
        have EL : Hid (opI (rs.map Nst.m) (k + 1) = opI (rs.map Nst.m) k ++ [k]) := by rw [Hid, hst]; rfl
        have bA := ba wr (.cells #[.pointer (some ⟨bb, off + k * 3, none⟩)] 279)
        have bB := ba (wr.alloc (.cells #[.pointer (some ⟨bb, off + k * 3, none⟩)] 279)) (.cells #[.pointer (some ⟨bb, off + k * 3, none⟩)] 279)
        have A2 := dH (((dU hA).below bA).below bB)
        have RO := rwO_one (wr.alloc (.cells #[.pointer (some ⟨bb, off + k * 3, none⟩)] 279)) ⟨bb, off + k * 3, none⟩ 279 1 (by omega)
        rw [show (wr.alloc (.cells #[.pointer (some ⟨bb, off + k * 3, none⟩)] 279)).heap.size = wr.heap.size + 1 from by simp] at RO
        replace RO := dH RO
        have tv : Hid (∀ j, touch (.slice oa (opI (rs.map Nst.m) k).length oc) = some j → w.heap.size ≤ j) := fun j hj => ((dU hA).touched elemO hj).1
        have B2 := dH (bT hb (bT bA bB))
        have hs2 := hb.size
        clear c2 he hcw hst hd hA bA bB
        go_wp2_with fail
        refine (dU C1).mono ?_
        rintro e w1 ⟨rfl, rfl⟩
        clear C1
        go_wp2_with (first
          | (at_builtin; refine wp_apR elemO rfl _ _ rfl w.heap.size _ ((opI (rs.map Nst.m) k).map (adW bb off)) rfl (dU A2) _ [⟨bb, off + k * 3, none⟩] rfl (dU RO) (by simp; omega) (by simp; omega) (by simp; omega) ?_; intro v5 w5 P5 g5 t5
             obtain ⟨a5, c5, e5⟩ : ∃ a c, v5 = .slice a (opI (rs.map Nst.m) (k + 1)).length c := by
               obtain ⟨a, c, e⟩ := ApR.slice elemO P5
               exact ⟨a, c, by rw [e, dU EL]; simp⟩
             subst e5
             have P6 : Hid (ApR 279 1 opCl w5 w.heap.size (.slice a5 (opI (rs.map Nst.m) (k + 1)).length c5) ((opI (rs.map Nst.m) (k + 1)).map (adW bb off))) := by
               have q := P5
               have e9 : (opI (rs.map Nst.m) (k + 1)).map (adW bb off) = (opI (rs.map Nst.m) k).map (adW bb off) ++ [⟨bb, off + k * 3, none⟩] := by rw [dU EL, List.map_append]; rfl
               rw [Hid, e9]; exact q
             have B5 := dH ((dU B2).grown g5 (by simp; omega) (fun j hj => dU tv j hj))
             clear P5))
        go_roundw
        case rel => exact ⟨k + 1, a5, c5, by go_num, rfl, by omega, P6, dU B5⟩
        case measure => simp [intOf]; omega
    · have ek : k = rs.length := by omega
      subst ek
      clear HC HR HA
      go_wp2
      go_ret
      exact ⟨⟨_, rfl, dU hA⟩, hb⟩
set_option maxHeartbeats 8000000 in
theorem wordOk_any (p : Nst Wd) (sc : Value) (ds : List Int) (cop : Int) (w : World) (hc : Ns w sc ds) (hn : Ns w (Sv Wd.acks p) p.m.acks) (had : allInt ds) (hld : ds.length ≤ 1048576) (c0 : -9223372036854775808 ≤ cop) (c1 : cop ≤ 9223372036854775807) (hf : fitWd p.m) (hlx : p.m.acks.length ≤ 1048576) :
  Calls Tryz.prog 231 #[.agg #[.string p.m.data, .slice p.a p.m.acks.length p.c, .bool p.m.done], .agg #[sc, .int .i64 cop]] w fun e w' => RetB (wdP ds cop p.m) e ∧ Below w.heap.size w w' := by
 have CN := dH fun W (hb : Below w.heap.size w W) => implNodes_any sc (Sv Wd.acks p) ds p.m.acks cop W (hc.below hb) (hn.below hb) had hf.1 hld hlx c0 c1
 have CH := dH fun W (hb : Below w.heap.size w W) => implHolds_any sc (Sv Wd.acks p) ds p.m.acks cop W (hc.below hb) (hn.below hb) had hf.1 hld hlx c0 c1
 obtain ⟨ya, yc, yd, yn, yb⟩ := p
 obtain ⟨-, l0⟩ := hf
 unfold Sv at CN CH
 simp only at *
 have PD : Hid (wdP ds cop ⟨yd, yn, yb⟩ ↔ yd.size ≤ 40 ∧ nodesP ds cop yn ∧ (holdsP ds cop yn ↔ yb = true)) := Iff.rfl
 generalize wdP ds cop ⟨yd, yn, yb⟩ = P at *
 obtain ⟨-, ca, cc, rfl, -, -⟩ := hc
 clear hn
 have ba : ∀ (w : World) o, Below w.heap.size w (w.alloc o) := fun w o => (Below.refl _ _).alloc (Nat.le_refl _) o
 have B2 := bT (ba w (.cells #[.string yd, .slice ya yn.length yc, .bool yb] 209)) (ba _ (.cells #[.slice ca ds.length cc, .int .i64 cop] 38))
 have E2 := dH ((Bx.new w [.string yd, .slice ya yn.length yc, .bool yb] 209).below (ba _ (.cells #[.slice ca ds.length cc, .int .i64 cop] 38)))
 have X2 := Bx.new (w.alloc (.cells #[.string yd, .slice ya yn.length yc, .bool yb] 209)) [.slice ca ds.length cc, .int .i64 cop] 38
 have e1 : (w.alloc (.cells #[.string yd, .slice ya yn.length yc, .bool yb] 209)).heap.size = w.heap.size + 1 := by simp
 rw [e1] at X2
 replace X2 := dH X2
 clear e1
 go_enter Tryz.func231, Tryz.ntmps231
 go_wp2_with fail
 generalize (w.alloc (.cells #[.string yd, .slice ya yn.length yc, .bool yb] 209)).alloc (.cells #[.slice ca ds.length cc, .int .i64 cop] 38) = w2 at *
 have CNw := dH fun W (hB : Below w2.heap.size w2 W) => dU CN W (bT B2 hB)
 have CHw := dH fun W (hB : Below w2.heap.size w2 W) => dU CH W (bT B2 hB)
 clear CN CH
 generalize heb : w.heap.size = eb at *
 have B2' : Below w.heap.size w w2 := heb ▸ B2
 have bd : Below w2.heap.size w2 w2.drew := (Below.refl _ _).drew
 have PC : Hid (∀ W, Below w2.heap.size w2 W → W.cell? ⟨eb + 1, 0, none⟩ = some (.slice ca ds.length cc) ∧ W.cell? ⟨eb + 1, 1, none⟩ = some (.int .i64 cop) ∧ W.cell? ⟨eb, 0, none⟩ = some (.string yd) ∧ W.cell? ⟨eb, 1, none⟩ = some (.slice ya yn.length yc) ∧ W.cell? ⟨eb, 2, none⟩ = some (.bool yb)) := fun W hb => ⟨(dU X2).below hb 0 _ rfl, (dU X2).below hb 1 _ rfl, (dU E2).below hb 0 _ rfl, (dU E2).below hb 1 _ rfl, (dU E2).below hb 2 _ rfl⟩
 by_cases hd : ¬ (yd.size : Int) ≤ 40
 ·have R : RetB P (.returned (.bool false)) := RetB.no fun h => by have := ((dU PD).1 h).1; omega
  clear PD CNw CHw
  refine wp_region_noPanic ?_
  refine wp_region_held_drew (S := fun W => W.cell? ⟨eb + 1, 0, none⟩ = some (.slice ca ds.length cc) ∧ W.cell? ⟨eb + 1, 1, none⟩ = some (.int .i64 cop) ∧ W.cell? ⟨eb, 0, none⟩ = some (.string yd) ∧ W.cell? ⟨eb, 1, none⟩ = some (.slice ya yn.length yc) ∧ W.cell? ⟨eb, 2, none⟩ = some (.bool yb)) (by kernel_rfl) (by first | exact dU PC _ (Below.refl _ _) | exact dU PC _ bd | exact dU PC _ b3' | exact dU PC _ b4') (fun hHeld => ?_)
  refine tY 0 (v := ?_) rfl (by kernel_rfl) (.inl ⟨by rfl, ?_⟩) ‹_› ?_
  rotate_left 1
  ·intro w hSw
   (try dsimp only at hSw)
   first | (go_simp; done) | (go_simp; with_reducible rfl)
  try simp only [Act.put, sA, sB, sC]
  refine tY 1 (v := ?_) rfl (by kernel_rfl) (.inl ⟨by rfl, ?_⟩) ‹_› ?_
  rotate_left 1
  ·intro w hSw
   (try dsimp only at hSw)
   first | (go_simp; done) | (go_simp; with_reducible rfl)
  try simp only [Act.put, sA, sB, sC]
  refine tY 2 (v := ?_) rfl (by kernel_rfl) (.inl ⟨by rfl, ?_⟩) ‹_› ?_
  rotate_left 1
  ·intro w hSw
   (try dsimp only at hSw)
   first | (go_simp; done) | (go_simp; with_reducible rfl)
  try simp only [Act.put, sA, sB, sC]
  refine tY 3 (v := ?_) rfl (by kernel_rfl) (.inl ⟨by rfl, ?_⟩) ‹_› ?_
  rotate_left 1
  ·intro w hSw
   (try dsimp only at hSw)
   first | (go_simp; done) | (go_simp; with_reducible rfl)
  try simp only [Act.put, sA, sB, sC]
  refine tY 4 (v := ?_) rfl (by kernel_rfl) (.inl ⟨by rfl, ?_⟩) ‹_› ?_
  rotate_left 1
  ·intro w hSw
   (try dsimp only at hSw)
   first | (go_simp; done) | (go_simp; with_reducible rfl)
  try simp only [Act.put, sA, sB, sC]
  refine tY 5 rfl (by kernel_rfl) (.inr ⟨by rfl, rfl⟩) ‹_› ?_
  try simp only [Act.put, sA, sB, sC]
  refine tY 6 rfl (by kernel_rfl) (.inr ⟨by rfl, rfl⟩) ‹_› ?_
  try simp only [Act.put, sA, sB, sC]
  refine tY 7 rfl (by kernel_rfl) (.inr ⟨by rfl, rfl⟩) ‹_› ?_
  try simp only [Act.put, sA, sB, sC]
  refine tY 8 rfl (by kernel_rfl) (.inr ⟨by rfl, rfl⟩) ‹_› ?_
  try simp only [Act.put, sA, sB, sC]
  refine tY 9 (v := ?_) rfl (by kernel_rfl) (.inl ⟨by rfl, ?_⟩) ‹_› ?_
  rotate_left 1
  ·intro w hSw
   (try dsimp only at hSw)
   first | (go_simp; done) | (go_simp; with_reducible rfl)
  try simp only [Act.put, sA, sB, sC]
  refine tY 10 (v := ?_) rfl (by kernel_rfl) (.inl ⟨by rfl, ?_⟩) ‹_› ?_
  rotate_left 1
  ·intro w hSw
   (try dsimp only at hSw)
   first | (go_simp; done) | (go_simp; with_reducible rfl)
  try simp only [Act.put, sA, sB, sC]
  refine tY 11 rfl (by kernel_rfl) (.inr ⟨by rfl, rfl⟩) ‹_› ?_
  try simp only [Act.put, sA, sB, sC]
  refine tY 12 rfl (by kernel_rfl) (.inr ⟨by rfl, rfl⟩) ‹_› ?_
  try simp only [Act.put, sA, sB, sC]
  refine tY 13 rfl (by kernel_rfl) (.inr ⟨by rfl, rfl⟩) ‹_› ?_
  try simp only [Act.put, sA, sB, sC]
  refine tY 14 rfl (by kernel_rfl) (.inr ⟨by rfl, rfl⟩) ‹_› ?_
  try simp only [Act.put, sA, sB, sC]
  refine tY 15 rfl (by kernel_rfl) (.inr ⟨by rfl, rfl⟩) ‹_› ?_
  try simp only [Act.put, sA, sB, sC]
  refine tY 16 rfl (by kernel_rfl) (.inr ⟨by rfl, rfl⟩) ‹_› ?_
  try simp only [Act.put, sA, sB, sC]
  refine tY 17 rfl (by kernel_rfl) (.inr ⟨by rfl, rfl⟩) ‹_› ?_
  try simp only [Act.put, sA, sB, sC]
  refine tY 18 (v := ?_) rfl (by kernel_rfl) (.inl ⟨by rfl, ?_⟩) ‹_› ?_
  rotate_left 1
  ·intro w hSw
   (try dsimp only at hSw)
   first | (go_simp; done) | (go_simp; with_reducible rfl)
  try simp only [Act.put, sA, sB, sC]
  refine tY 19 (v := ?_) rfl (by kernel_rfl) (.inl ⟨by rfl, ?_⟩) ‹_› ?_
  rotate_left 1
  ·intro w hSw
   (try dsimp only at hSw)
   first | (go_simp; done) | (go_simp; with_reducible rfl)
  try simp only [Act.put, sA, sB, sC]
  refine wpAnyH_done (by kernel_rfl) ?_ _
  refine NoPanic.normal ?_
  (try simp only [Act.put, sA, sB, sC])
  go_wp2
  go_ret
  exact ⟨R, heb ▸ bT B2' bd⟩
 replace hd : (yd.size : Int) ≤ 40 := by omega
 by_cases hN : nodesP ds cop yn
 ·have CN1 := dH fun W hB => retB_yes (dU CNw W hB) hN
  have HN := dH hN
  clear CNw hN
  refine wp_region_noPanic ?_
  refine wp_region_held_drew (S := fun W => W.cell? ⟨eb + 1, 0, none⟩ = some (.slice ca ds.length cc) ∧ W.cell? ⟨eb + 1, 1, none⟩ = some (.int .i64 cop) ∧ W.cell? ⟨eb, 0, none⟩ = some (.string yd) ∧ W.cell? ⟨eb, 1, none⟩ = some (.slice ya yn.length yc) ∧ W.cell? ⟨eb, 2, none⟩ = some (.bool yb)) (by kernel_rfl) (by first | exact dU PC _ (Below.refl _ _) | exact dU PC _ bd | exact dU PC _ b3' | exact dU PC _ b4') (fun hHeld => ?_)
  refine tY 0 (v := ?_) rfl (by kernel_rfl) (.inl ⟨by rfl, ?_⟩) ‹_› ?_
  rotate_left 1
  ·intro w hSw
   (try dsimp only at hSw)
   first | (go_simp; done) | (go_simp; with_reducible rfl)
  try simp only [Act.put, sA, sB, sC]
  refine tY 1 (v := ?_) rfl (by kernel_rfl) (.inl ⟨by rfl, ?_⟩) ‹_› ?_
  rotate_left 1
  ·intro w hSw
   (try dsimp only at hSw)
   first | (go_simp; done) | (go_simp; with_reducible rfl)
  try simp only [Act.put, sA, sB, sC]
  refine tY 2 (v := ?_) rfl (by kernel_rfl) (.inl ⟨by rfl, ?_⟩) ‹_› ?_
  rotate_left 1
  ·intro w hSw
   (try dsimp only at hSw)
   first | (go_simp; done) | (go_simp; with_reducible rfl)
  try simp only [Act.put, sA, sB, sC]
  refine tY 3 (v := ?_) rfl (by kernel_rfl) (.inl ⟨by rfl, ?_⟩) ‹_› ?_
  rotate_left 1
  ·intro w hSw
   (try dsimp only at hSw)
   first | (go_simp; done) | (go_simp; with_reducible rfl)
  try simp only [Act.put, sA, sB, sC]
  refine tY 4 (v := ?_) rfl (by kernel_rfl) (.inl ⟨by rfl, ?_⟩) ‹_› ?_
  rotate_left 1
  ·intro w hSw
   (try dsimp only at hSw)
   first | (go_simp; done) | (go_simp; with_reducible rfl)
  try simp only [Act.put, sA, sB, sC]
  refine tY 5 (v := ?_) rfl (by kernel_rfl) (.inl ⟨by rfl, ?_⟩) ‹_› ?_
  rotate_left 1
  ·intro w hSw
   (try dsimp only at hSw)
   first | (go_simp; done) | (go_simp; with_reducible rfl)
  try simp only [Act.put, sA, sB, sC]
  refine tY 6 (v := ?_) rfl (by kernel_rfl) (.inl ⟨by rfl, ?_⟩) ‹_› ?_
  rotate_left 1
  ·intro w hSw
   (try dsimp only at hSw)
   first | (go_simp; done) | (go_simp; with_reducible rfl)
  try simp only [Act.put, sA, sB, sC]
  refine tY 7 (v := ?_) rfl (by kernel_rfl) (.inl ⟨by rfl, ?_⟩) ‹_› ?_
  rotate_left 1
  ·intro w hSw
   (try dsimp only at hSw)
   first | (go_simp; done) | (go_simp; with_reducible rfl)
  try simp only [Act.put, sA, sB, sC]
  refine wpAnyH_ready (rs := [8]) (by kernel_rfl) (by simp) ?_
  refine rC rfl (fun K hK => ?_) AllReadyH.nil
  go_simp
  refine (dU CN1 _ bd).mono ?_
  rintro e w3 ⟨rfl, b3⟩
  have b3' := bT bd b3
  (try go_wp2_with fail)
  refine hK.out _ _ (by first | exact dU PC _ (Below.refl _ _) | exact dU PC _ bd | exact dU PC _ b3' | exact dU PC _ b4') (fun hHeld => ?_)
  clear hK K
  try simp only [Act.put, sA, sB, sC]
  refine tY 9 (v := ?_) rfl (by kernel_rfl) (.inl ⟨by rfl, ?_⟩) ‹_› ?_
  rotate_left 1
  ·intro w hSw
   (try dsimp only at hSw)
   first | (go_simp; done) | (go_simp; with_reducible rfl)
  try simp only [Act.put, sA, sB, sC]
  refine tY 10 (v := ?_) rfl (by kernel_rfl) (.inl ⟨by rfl, ?_⟩) ‹_› ?_
  rotate_left 1
  ·intro w hSw
   (try dsimp only at hSw)
   first | (go_simp; done) | (go_simp; with_reducible rfl)
  try simp only [Act.put, sA, sB, sC]
  refine tY 11 (v := ?_) rfl (by kernel_rfl) (.inl ⟨by rfl, ?_⟩) ‹_› ?_
  rotate_left 1
  ·intro w hSw
   (try dsimp only at hSw)
   first | (go_simp; done) | (go_simp; with_reducible rfl)
  try simp only [Act.put, sA, sB, sC]
  refine tY 12 (v := ?_) rfl (by kernel_rfl) (.inl ⟨by rfl, ?_⟩) ‹_› ?_
  rotate_left 1
  ·intro w hSw
   (try dsimp only at hSw)
   first | (go_simp; done) | (go_simp; with_reducible rfl)
  try simp only [Act.put, sA, sB, sC]
  refine tY 13 (v := ?_) rfl (by kernel_rfl) (.inl ⟨by rfl, ?_⟩) ‹_› ?_
  rotate_left 1
  ·intro w hSw
   (try dsimp only at hSw)
   first | (go_simp; done) | (go_simp; with_reducible rfl)
  try simp only [Act.put, sA, sB, sC]
  refine tY 15 (v := ?_) rfl (by kernel_rfl) (.inl ⟨by rfl, ?_⟩) ‹_› ?_
  rotate_left 1
  ·intro w hSw
   (try dsimp only at hSw)
   first | (go_simp; done) | (go_simp; with_reducible rfl)
  try simp only [Act.put, sA, sB, sC]
  refine tY 16 (v := ?_) rfl (by kernel_rfl) (.inl ⟨by rfl, ?_⟩) ‹_› ?_
  rotate_left 1
  ·intro w hSw
   (try dsimp only at hSw)
   first | (go_simp; done) | (go_simp; with_reducible rfl)
  try simp only [Act.put, sA, sB, sC]
  refine wpAnyH_ready (rs := [14]) (by kernel_rfl) (by simp) ?_
  refine rC rfl (fun K hK => ?_) AllReadyH.nil
  go_simp
  refine (dU CHw _ b3').mono ?_
  rintro e w4 ⟨⟨bq, rfl, h4⟩, b4⟩
  have b4' := bT b3' b4
  (try go_wp2_with fail)
  refine hK.out _ _ (by first | exact dU PC _ (Below.refl _ _) | exact dU PC _ bd | exact dU PC _ b3' | exact dU PC _ b4') (fun hHeld => ?_)
  clear hK K
  try simp only [Act.put, sA, sB, sC]
  refine tY 17 (v := ?_) rfl (by kernel_rfl) (.inl ⟨by rfl, ?_⟩) ‹_› ?_
  rotate_left 1
  ·intro w hSw
   (try dsimp only at hSw)
   first | (go_simp; done) | (go_simp; with_reducible rfl)
  try simp only [Act.put, sA, sB, sC]
  refine tY 18 (v := ?_) rfl (by kernel_rfl) (.inl ⟨by rfl, ?_⟩) ‹_› ?_
  rotate_left 1
  ·intro w hSw
   (try dsimp only at hSw)
   first | (go_simp; done) | (go_simp; with_reducible rfl)
  try simp only [Act.put, sA, sB, sC]
  refine tY 19 (v := ?_) rfl (by kernel_rfl) (.inl ⟨by rfl, ?_⟩) ‹_› ?_
  rotate_left 1
  ·intro w hSw
   (try dsimp only at hSw)
   first | (go_simp; done) | (go_simp; with_reducible rfl)
  try simp only [Act.put, sA, sB, sC]
  refine wpAnyH_done (by kernel_rfl) ?_ _
  refine NoPanic.normal ?_
  (try simp only [Act.put, sA, sB, sC])
  have R : Hid (RetB P (.returned (.bool (bq == yb)))) := ⟨_, rfl, by
   rw [dU PD, beq_iff_eq]
   constructor
   ·intro h
    subst h
    exact ⟨by omega, dU HN, h4.symm⟩
   ·rintro ⟨-, -, h⟩
    rw [← h4] at h
    cases bq <;> cases yb <;> simp at h ⊢⟩
  have B4 := dH (bT B2' b4')
  clear PD h4 X2 E2 PC
  go_wp2
  go_ret
  exact ⟨dU R, dU B4⟩
 ·have CN1 := dH fun W hB => retB_no (dU CNw W hB) hN
  have R : RetB P (.returned (.bool false)) := RetB.no fun h => hN ((dU PD).1 h).2.1
  clear PD CNw CHw
  refine wp_region_noPanic ?_
  refine wp_region_held_drew (S := fun W => W.cell? ⟨eb + 1, 0, none⟩ = some (.slice ca ds.length cc) ∧ W.cell? ⟨eb + 1, 1, none⟩ = some (.int .i64 cop) ∧ W.cell? ⟨eb, 0, none⟩ = some (.string yd) ∧ W.cell? ⟨eb, 1, none⟩ = some (.slice ya yn.length yc) ∧ W.cell? ⟨eb, 2, none⟩ = some (.bool yb)) (by kernel_rfl) (by first | exact dU PC _ (Below.refl _ _) | exact dU PC _ bd | exact dU PC _ b3' | exact dU PC _ b4') (fun hHeld => ?_)
  refine tY 0 (v := ?_) rfl (by kernel_rfl) (.inl ⟨by rfl, ?_⟩) ‹_› ?_
  rotate_left 1
  ·intro w hSw
   (try dsimp only at hSw)
   first | (go_simp; done) | (go_simp; with_reducible rfl)
  try simp only [Act.put, sA, sB, sC]
  refine tY 1 (v := ?_) rfl (by kernel_rfl) (.inl ⟨by rfl, ?_⟩) ‹_› ?_
  rotate_left 1
  ·intro w hSw
   (try dsimp only at hSw)
   first | (go_simp; done) | (go_simp; with_reducible rfl)
  try simp only [Act.put, sA, sB, sC]
  refine tY 2 (v := ?_) rfl (by kernel_rfl) (.inl ⟨by rfl, ?_⟩) ‹_› ?_
  rotate_left 1
  ·intro w hSw
   (try dsimp only at hSw)
   first | (go_simp; done) | (go_simp; with_reducible rfl)
  try simp only [Act.put, sA, sB, sC]
  refine tY 3 (v := ?_) rfl (by kernel_rfl) (.inl ⟨by rfl, ?_⟩) ‹_› ?_
  rotate_left 1
  ·intro w hSw
   (try dsimp only at hSw)
   first | (go_simp; done) | (go_simp; with_reducible rfl)
  try simp only [Act.put, sA, sB, sC]
  refine tY 4 (v := ?_) rfl (by kernel_rfl) (.inl ⟨by rfl, ?_⟩) ‹_› ?_
  rotate_left 1
  ·intro w hSw
   (try dsimp only at hSw)
   first | (go_simp; done) | (go_simp; with_reducible rfl)
  try simp only [Act.put, sA, sB, sC]
  refine tY 5 (v := ?_) rfl (by kernel_rfl) (.inl ⟨by rfl, ?_⟩) ‹_› ?_
  rotate_left 1
  ·intro w hSw
   (try dsimp only at hSw)
   first | (go_simp; done) | (go_simp; with_reducible rfl)
  try simp only [Act.put, sA, sB, sC]
  refine tY 6 (v := ?_) rfl (by kernel_rfl) (.inl ⟨by rfl, ?_⟩) ‹_› ?_
  rotate_left 1
  ·intro w hSw
   (try dsimp only at hSw)
   first | (go_simp; done) | (go_simp; with_reducible rfl)
  try simp only [Act.put, sA, sB, sC]
  refine tY 7 (v := ?_) rfl (by kernel_rfl) (.inl ⟨by rfl, ?_⟩) ‹_› ?_
  rotate_left 1
  ·intro w hSw
   (try dsimp only at hSw)
   first | (go_simp; done) | (go_simp; with_reducible rfl)
  try simp only [Act.put, sA, sB, sC]
  refine wpAnyH_ready (rs := [8]) (by kernel_rfl) (by simp) ?_
  refine rC rfl (fun K hK => ?_) AllReadyH.nil
  go_simp
  refine (dU CN1 _ bd).mono ?_
  rintro e w3 ⟨rfl, b3⟩
  have b3' := bT bd b3
  (try go_wp2_with fail)
  refine hK.out _ _ (by first | exact dU PC _ (Below.refl _ _) | exact dU PC _ bd | exact dU PC _ b3' | exact dU PC _ b4') (fun hHeld => ?_)
  clear hK K
  try simp only [Act.put, sA, sB, sC]
  refine tY 9 (v := ?_) rfl (by kernel_rfl) (.inl ⟨by rfl, ?_⟩) ‹_› ?_
  rotate_left 1
  ·intro w hSw
   (try dsimp only at hSw)
   first | (go_simp; done) | (go_simp; with_reducible rfl)
  try simp only [Act.put, sA, sB, sC]
  refine tY 10 (v := ?_) rfl (by kernel_rfl) (.inl ⟨by rfl, ?_⟩) ‹_› ?_
  rotate_left 1
  ·intro w hSw
   (try dsimp only at hSw)
   first | (go_simp; done) | (go_simp; with_reducible rfl)
  try simp only [Act.put, sA, sB, sC]
  refine tY 11 rfl (by kernel_rfl) (.inr ⟨by rfl, rfl⟩) ‹_› ?_
  try simp only [Act.put, sA, sB, sC]
  refine tY 12 rfl (by kernel_rfl) (.inr ⟨by rfl, rfl⟩) ‹_› ?_
  try simp only [Act.put, sA, sB, sC]
  refine tY 13 rfl (by kernel_rfl) (.inr ⟨by rfl, rfl⟩) ‹_› ?_
  try simp only [Act.put, sA, sB, sC]
  refine tY 14 rfl (by kernel_rfl) (.inr ⟨by rfl, rfl⟩) ‹_› ?_
  try simp only [Act.put, sA, sB, sC]
  refine tY 15 rfl (by kernel_rfl) (.inr ⟨by rfl, rfl⟩) ‹_› ?_
  try simp only [Act.put, sA, sB, sC]
  refine tY 16 rfl (by kernel_rfl) (.inr ⟨by rfl, rfl⟩) ‹_› ?_
  try simp only [Act.put, sA, sB, sC]
  refine tY 17 rfl (by kernel_rfl) (.inr ⟨by rfl, rfl⟩) ‹_› ?_
  try simp only [Act.put, sA, sB, sC]
  refine tY 18 (v := ?_) rfl (by kernel_rfl) (.inl ⟨by rfl, ?_⟩) ‹_› ?_
  rotate_left 1
  ·intro w hSw
   (try dsimp only at hSw)
   first | (go_simp; done) | (go_simp; with_reducible rfl)
  try simp only [Act.put, sA, sB, sC]
  refine tY 19 (v := ?_) rfl (by kernel_rfl) (.inl ⟨by rfl, ?_⟩) ‹_› ?_
  rotate_left 1
  ·intro w hSw
   (try dsimp only at hSw)
   first | (go_simp; done) | (go_simp; with_reducible rfl)
  try simp only [Act.put, sA, sB, sC]
  refine wpAnyH_done (by kernel_rfl) ?_ _
  refine NoPanic.normal ?_
  (try simp only [Act.put, sA, sB, sC])
  go_wp2
  go_ret
  exact ⟨R, heb ▸ bT B2' b3'⟩
end Go.Proofs.YtkiclbbialadlaaGreat
