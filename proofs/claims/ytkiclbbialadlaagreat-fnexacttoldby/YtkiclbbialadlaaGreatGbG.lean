/- Several texts in one: StJ, SitE, StD, SitF, SitG. -/
import Derived.Test.YtkiclbbialadlaaGreatGbP
import Derived.Deep.RegionHeld3
import Derived.Test.YtkiclbbialadlaaGreatGaA
import Derived.Test.YtkiclbbialadlaaGreatGaT
import Derived.Deep.DeepCutAuto
namespace Go.Proofs.YtkiclbbialadlaaGreat
open Go.ChangeShapes Go.WideShapes Go.ChangeAt Go.RowKit
set_option linter.unusedSimpArgs false
set_option linter.unusedVariables false
set_option maxRecDepth 100000
set_option maxHeartbeats 4000000 in
theorem eqEntryS_yes (u v : Value) (es : List Ent) (w : World) (hu : Rw 4 Ent.cl w u es) (hv : Rw 4 Ent.cl w v es) :
  Calls Tryz.prog 148 #[u, v] w fun r w' => r = .returned (.bool true) ∧ Below w.heap.size w w' := by
 have HU := dH fun W (hb : Below w.heap.size w W) => hu.below hb
 have HV := dH fun W (hb : Below w.heap.size w W) => hv.below hb
 obtain ⟨h0, a, cap, rfl, -, -⟩ := hu
 obtain ⟨h0', a', cap', rfl, -, -⟩ := hv
 go_enter Tryz.func148, Tryz.ntmps148
 go_wp2
 go_loopw [5] (fun i wr => ∃ k : Nat, i = .int .i64 (k : Int) ∧ k ≤ es.length ∧ Below w.heap.size w wr) (fun i _ => es.length - (intOf i).toNat)
 case atStart => exact ⟨0, rfl, Nat.zero_le _, Below.refl _ _⟩
 case round =>
  obtain ⟨k, rfl, hk, hb⟩ := hrel
  by_cases hlt : (k : Int) < (es.length : Int)
  ·have hkl : k < es.length := by omega
   obtain ⟨b, off, rfl, hc⟩ := (dU HU wr hb).ent hkl
   obtain ⟨b', off', rfl, hc'⟩ := (dU HV wr hb).ent hkl
   have E1 := dH (hc k hkl)
   have E2 := dH (hc' k hkl)
   obtain ⟨c0, c1, c2, c3⟩ := hc k hkl
   obtain ⟨e0, e1, e2, e3⟩ := hc' k hkl
   have CE := dH (eqEntry_same es[k])
   generalize es[k] = y at *
   obtain ⟨yx, yw, yh, yd⟩ := y
   unfold Ent.val at CE
   simp only at *
   clear hc hc' HU HV
   have hbr : Below wr.heap.size wr wr.drew := (Below.refl _ _).drew
   go_wp2_with fail
   go_region_held3 (fun W => (W.cell? ⟨b, off + k * 4, none⟩ = some (.int .i64 yx) ∧ W.cell? ⟨b, off + k * 4 + 1, none⟩ = some (.int .i64 yw) ∧ W.cell? ⟨b, off + k * 4 + 2, none⟩ = some (.bool yh) ∧ W.cell? ⟨b, off + k * 4 + 3, none⟩ = some (.string yd)) ∧ W.cell? ⟨b', off' + k * 4, none⟩ = some (.int .i64 yx) ∧ W.cell? ⟨b', off' + k * 4 + 1, none⟩ = some (.int .i64 yw) ∧ W.cell? ⟨b', off' + k * 4 + 2, none⟩ = some (.bool yh) ∧ W.cell? ⟨b', off' + k * 4 + 3, none⟩ = some (.string yd)) (first | exact ⟨(dU E1).below hb5, (dU E2).below hb5⟩ | go_keep)
    (first
     | (go_at_call 196; refine (dU CE _).mono ?_; rintro r w5 ⟨rfl, b5⟩; have hb5 := bT hbr b5))
   all_goals
    go_wp2
    go_roundw
    case rel => exact ⟨k + 1, by go_num, by omega, bT hb hb5⟩
    case measure => simp [intOf]; omega
  ·clear HU HV
   go_wp2
   go_ret
   exact ⟨rfl, hb⟩
def sumD (es : List Ent) : Nat := (es.map fun e => e.data.size).sum
theorem sumD_take (es : List Ent) (k : Nat) (h : k < es.length) : sumD (es.take (k + 1)) = sumD (es.take k) + es[k].data.size := by
 unfold sumD
 rw [List.take_succ_eq_append_getElem h, List.map_append, List.sum_append, List.map_cons, List.map_nil, List.sum_cons, List.sum_nil, Nat.add_zero]
theorem sumD_le (es : List Ent) (k : Nat) : sumD (es.take k) ≤ sumD es := by
 unfold sumD
 conv => rhs; rw [← List.take_append_drop k es, List.map_append, List.sum_append]
 exact Nat.le_add_right _ _
def txtE (es : List Ent) : Prop := ∀ e ∈ es, e.data.size ≤ 9223372036854775807
set_option maxHeartbeats 2000000 in
theorem szEntryS_any (v : Value) (es : List Ent) (left : Int) (l0 : 0 ≤ left) (l1 : left ≤ 1048576) (w : World) (hv : Rw 4 Ent.cl w v es) (hf : txtE es) :
  Calls Tryz.prog 98 #[v, .int .i64 left] w fun r w' => r = .returned (.int .i64 (lft left (es.length + sumD es))) ∧ Below w.heap.size w w' := by
 have HV := dH fun W (hb : Below w.heap.size w W) => hv.below hb
 have HF := dH hf
 obtain ⟨h0, a, cap, rfl, -, -⟩ := hv
 clear hf
 by_cases hl : left < (es.length : Int)
 ·have e1 : lft left (es.length + sumD es) = -1 := lft_no (by omega)
  rw [e1]
  have hd : left - (es.length : Int) < 0 := by omega
  clear HV HF e1
  go_enter Tryz.func98, Tryz.ntmps98
  go_wp2
  go_ret
  exact ⟨rfl, Below.refl _ _⟩
 ·have hd : ¬ left - (es.length : Int) < 0 := by omega
  have LN : Hid (left < ((es.length + sumD es : Nat) : Int) → lft left (es.length + sumD es) = -1) := lft_no
  have LY : Hid (¬ left < ((es.length + sumD es : Nat) : Int) → lft left (es.length + sumD es) = left - ((es.length + sumD es : Nat) : Int)) := lft_yes
  generalize lft left (es.length + sumD es) = M at *
  go_enter Tryz.func98, Tryz.ntmps98
  go_wp2
  go_loopw [5, 1] (fun x y wr => ∃ (k : Nat) (q : Int), x = .int .i64 (k : Int) ∧ y = .int .i64 q ∧ k ≤ es.length ∧ 0 ≤ q ∧ q ≤ 1048576 ∧ Hid (q = left - (es.length : Int) - (sumD (es.take k) : Int)) ∧ Below w.heap.size w wr) (fun x _ _ => es.length - (intOf x).toNat)
  case atStart => exact ⟨0, _, rfl, rfl, Nat.zero_le _, by omega, by omega, by simp [Hid, sumD], Below.refl _ _⟩
  case round =>
   obtain ⟨k, q, rfl, rfl, hk, q0, q1, hq, hb⟩ := hrel
   by_cases hlt : (k : Int) < (es.length : Int)
   ·have hkl : k < es.length := by omega
    obtain ⟨b, off, rfl, hc⟩ := (dU HV wr hb).ent hkl
    have hs := sumD_take es k hkl
    have hs2 := sumD_le es (k + 1)
    have CE := dH fun W => szEntry_any es[k] q q0 q1 (dU HF _ (List.getElem_mem hkl)) W
    obtain ⟨c0, c1, c2, c3⟩ := hc k hkl
    have hq' := dU hq
    generalize es[k] = y at *
    obtain ⟨yx, yw, yh, yd⟩ := y
    unfold Ent.val at CE
    simp only at *
    by_cases hn : q < (yd.size : Int)
    ·rw [if_pos hn] at CE
     have e1 := dU LN (by omega)
     subst e1
     clear hc HV HF hq' hq hs hs2 hn LN LY
     go_wp2_with fail
     refine (dU CE _).mono ?_
     rintro r w2 ⟨rfl, b2⟩
     have hb2 := bT hb b2
     clear CE b2 c0 c1 c2 c3 hb
     go_wp2
     go_ret
     exact ⟨rfl, hb2⟩
    ·rw [if_neg hn] at CE
     have e1 : Hid (q - (yd.size : Int) = left - (es.length : Int) - (sumD (es.take (k + 1)) : Int)) := by rw [Hid, hs]; omega
     have q0' : 0 ≤ q - (yd.size : Int) := by omega
     have q1' : q - (yd.size : Int) ≤ 1048576 := by omega
     generalize q - (yd.size : Int) = q' at *
     have hd' : ¬ q' < 0 := by omega
     clear hc hq' hq hs hs2 hn
     go_wp2_with fail
     refine (dU CE _).mono ?_
     rintro r w2 ⟨rfl, b2⟩
     have hb2 := bT hb b2
     clear CE b2 c0 c1 c2 c3 hb
     go_wp2
     go_roundw
     case rel => exact ⟨k + 1, q', by go_num, rfl, by omega, q0', q1', e1, hb2⟩
     case measure => simp [intOf]; omega
   ·have e1 : es.take k = es := List.take_of_length_le (by omega)
    have hq' := dU hq
    rw [e1] at hq'
    have e2 := dU LY (by omega)
    have e3 : Hid (q = M) := by rw [Hid, e2, hq']; omega
    clear hq hq' e1 e2 LN LY HV HF
    go_wp2
    go_ret
    exact ⟨by rw [← dU e3]; rfl, hb⟩
def RdEntryS (v : Value) (m : List Ent) (W : World) : Prop := Rw 4 Ent.cl W v m
def OwEntryS (lo hi : Nat) (v : Value) (m : List Ent) (W : World) : Prop := OwnRw 4 Ent.cl W lo v m ∧ (m = [] ∨ bO v < hi)
def sizEntryS (m : List Ent) : Nat := m.length + sumD m
def cntEntryS (m : List Ent) : Nat := 4 * m.length
def mkEnt (k : Nat) : Ent := ⟨((k : Nat) : Int), ((k + 1 : Nat) : Int), ((k + 2) % 3 == 0), markT (k + 3)⟩
def mkEntryS (k : Nat) (m : List Ent) : List Ent := (List.range m.length).map fun i => mkEnt (k + 4 * i)
theorem mkEntryS_len (k : Nat) (m : List Ent) : (mkEntryS k m).length = m.length := by simp [mkEntryS]
theorem mkEntryS_at (k : Nat) (m : List Ent) (i : Nat) (h : i < (mkEntryS k m).length) : (mkEntryS k m)[i] = mkEnt (k + 4 * i) := by simp [mkEntryS]
theorem OwEntryS.rd {lo hi : Nat} {v : Value} {m : List Ent} {W : World} (h : OwEntryS lo hi v m W) : RdEntryS v m W := OwnRw.rw h.1
theorem RdEntryS.below {v : Value} {m : List Ent} {W W' : World} (h : RdEntryS v m W) (b : Below W.heap.size W W') : RdEntryS v m W' := Rw.below h b
theorem formEntryS {v : Value} {m : List Ent} {W : World} (h : RdEntryS v m W) : ∃ a cap, v = .slice a m.length cap ∧ m.length ≤ 9223372036854775807 := by
 obtain ⟨h0, a, cap, rfl, -, -⟩ := h
 exact ⟨a, cap, rfl, h0⟩
theorem OwEntryS.sits {lo hi : Nat} {w : World} {v : Value} {m : List Ent} (h : OwEntryS lo hi v m w) (hf : hi ≤ w.heap.size) : Sits (OwEntryS lo hi v m) lo hi w := by
 refine ⟨hf, fun W hW => ⟨?_, h.2⟩⟩
 obtain ⟨⟨h0, a, cap, rfl, hcap, h⟩, hl⟩ := h
 refine ⟨h0, a, cap, rfl, hcap, ?_⟩
 rcases hl with hl | hl
 ·exact .inl hl
 ·rcases h with h | ⟨b, off, rfl, hb, hc⟩
  ·exact .inl h
  ·have e := hW b hb hl
   exact .inr ⟨b, off, rfl, hb, fun i hi j u hu => ⟨(World.cell?_of_block (a := ⟨b, off + i * 4 + j, none⟩) e).trans (hc i hi j u hu).1, (World.frozen?_of_block (a := ⟨b, off + i * 4 + j, none⟩) e).trans (hc i hi j u hu).2⟩⟩
theorem OwnRw.lt {w : World} {base : Nat} {v : Value} {m : List Ent} (h : OwnRw 4 Ent.cl w base v m) : m = [] ∨ bO v < w.heap.size := by
 obtain ⟨-, a, cap, rfl, -, h⟩ := h
 rcases h with h | ⟨b, off, rfl, hb, hc⟩
 ·exact .inl h
 ·rcases Nat.eq_zero_or_pos m.length with h1 | h1
  ·exact .inl (List.length_eq_zero_iff.1 h1)
  ·exact .inr (dCell_lt (hc 0 h1 0 _ rfl).1)
theorem OwnRw.ge {w : World} {base : Nat} {v : Value} {m : List Ent} (h : OwnRw 4 Ent.cl w base v m) : m = [] ∨ base ≤ bO v := by
 obtain ⟨-, a, cap, rfl, -, h⟩ := h
 rcases h with h | ⟨b, off, rfl, hb, hc⟩
 ·exact .inl h
 ·exact .inr hb
theorem OwnRw.sits {w : World} {base : Nat} {v : Value} {m : List Ent} (h : OwnRw 4 Ent.cl w base v m) : Sits (OwEntryS base w.heap.size v m) base w.heap.size w := OwEntryS.sits ⟨h, h.lt⟩ (Nat.le_refl _)
theorem szEntryS_ (v : Value) (m : List Ent) (left : Int) (l0 : 0 ≤ left) (l1 : left ≤ 1048576) (hf : txtE m) (w : World) (h : RdEntryS v m w) :
  Calls Tryz.prog 98 #[v, .int .i64 left] w fun e w' => e = .returned (.int .i64 (lft left (sizEntryS m))) ∧ Below w.heap.size w w' := szEntryS_any v m left l0 l1 w h hf
theorem eqEntryS_ (u v : Value) (m : List Ent) (w : World) (hu : RdEntryS u m w) (hv : RdEntryS v m w) :
  Calls Tryz.prog 148 #[u, v] w fun e w' => e = .returned (.bool true) ∧ Below w.heap.size w w' := eqEntryS_yes u v m w hu hv
set_option maxHeartbeats 2000000 in
theorem toEntryS_own (v : Value) (es : List Ent) (w : World) (hl : es.length ≤ 1048576) (hv : Rw 4 Ent.cl w v es) :
  Calls Tryz.prog 115 #[v] w fun r w' => (∃ u, r = .returned u ∧ OwnRw 4 Ent.cl w' w.heap.size u es) ∧ Below w.heap.size w w' := by
 have HV := dH fun W (hb : Below w.heap.size w W) => hv.below hb
 obtain ⟨h0, a, cap, rfl, -, -⟩ := hv
 have hmk := makeE es.length (by omega)
 go_enter Tryz.func115, Tryz.ntmps115
 go_wp2
 go_loopw [4] (fun x wr => ∃ (k : Nat) (f : Nat → Ent), x = .int .i64 (k : Int) ∧ k ≤ es.length ∧ Hid (RowZ wr w.heap.size 0 es.length f ∧ ∀ i (h : i < es.length), i < k → f i = es[i]) ∧ Below w.heap.size w wr) (fun x _ => es.length - (intOf x).toNat)
 case atStart => exact ⟨0, _, rfl, Nat.zero_le _, ⟨RowZ.made w es.length 207, fun i h h' => by omega⟩, (Below.refl _ _).alloc (Nat.le_refl _) _⟩
 case round =>
  obtain ⟨k, f, rfl, hk, hz, hb⟩ := hrel
  by_cases hlt : (k : Int) < (es.length : Int)
  ·have hkl : k < es.length := by omega
   obtain ⟨b, off, rfl, hc⟩ := (dU HV wr hb).ent hkl
   obtain ⟨c0, c1, c2, c3⟩ := hc k hkl
   have CE := dH fun W => toEntry_any es[k] W
   have hst : Hid (∀ W, Below wr.heap.size wr W → RowZ W w.heap.size 0 es.length f) := fun W hB => (dU hz).1.below hB
   have hin : Hid (∀ i (h : i < es.length), i < k + 1 → putF f k es[k] i = es[i]) := fun i h h' => by
    unfold putF
    split
    ·rename_i e; subst e; rfl
    ·rename_i e; exact (dU hz).2 i h (by omega)
   generalize es[k] = y at *
   obtain ⟨yx, yw, yh, yd⟩ := y
   unfold Ent.val at CE
   simp only at *
   clear hc hz
   go_wp2_with fail
   refine (dU CE _).mono ?_
   rintro r w2 ⟨rfl, b2⟩
   have Z2 := dU hst w2 b2
   obtain ⟨z0, f0⟩ := Z2 k hkl 0 _ rfl
   obtain ⟨z1, f1⟩ := Z2 k hkl 1 _ rfl
   obtain ⟨z2, f2⟩ := Z2 k hkl 2 _ rfl
   obtain ⟨z3, f3⟩ := Z2 k hkl 3 _ rfl
   have Z3 := dH (Z2.all hkl ⟨yx, yw, yh, yd⟩)
   simp only [Nat.zero_add, Nat.add_zero] at z0 z1 z2 z3 f0 f1 f2 f3 Z3
   have hb2 := bT hb b2
   have hb3 := dH ((((hb2.setCell (p := ⟨w.heap.size, k * 4, none⟩) (Nat.le_refl _) (.int .i64 yx)).setCell (p := ⟨w.heap.size, k * 4 + 1, none⟩) (Nat.le_refl _) (.int .i64 yw)).setCell (p := ⟨w.heap.size, k * 4 + 2, none⟩) (Nat.le_refl _) (.bool yh)).setCell (p := ⟨w.heap.size, k * 4 + 3, none⟩) (Nat.le_refl _) (.string yd))
   clear CE b2 c0 c1 c2 c3 hb hst Z2 hb2
   go_wp2
   go_roundw
   case rel => exact ⟨k + 1, _, by go_num, by omega, ⟨dU Z3, dU hin⟩, dU hb3⟩
   case measure => simp [intOf]; omega
  ·have O : Hid (OwnRw 4 Ent.cl wr w.heap.size (.slice (some ⟨w.heap.size, 0, none⟩) es.length es.length) es) := (dU hz).1.own rfl (fun i hi => (dU hz).2 i hi (by omega)) (Nat.le_refl _) (by omega) (by omega)
   clear hz HV
   go_wp2
   go_ret
   exact ⟨⟨_, rfl, dU O⟩, hb⟩
theorem Wr.set {lo hi b o : Nat} {w wr : World} (h : Wr lo hi w wr) (h1 : lo ≤ b) (h2 : b < hi) (u : Value) : Wr lo hi w (wr.setCell ⟨b, o, none⟩ u) :=
 h.trans ⟨rfl, rfl, rfl, by simp, fun k hk hn => Below.heap_setCell _ _ _ k (fun e => by simp at e; omega)⟩
set_option maxHeartbeats 4000000 in
theorem markEntryS_ (lo hi : Nat) (v : Value) (m : List Ent) (k0 : Nat) (w : World) (hk : k0 ≤ 1073741824) (hl : cntEntryS m ≤ 1073741824) (h : Sits (OwEntryS lo hi v m) lo hi w) :
  Calls Tryz.prog 90 #[v, .int .i64 (k0 : Int)] w fun e w' => e = .returned (.int .i64 ((k0 + cntEntryS m : Nat) : Int)) ∧ Sits (OwEntryS lo hi v (mkEntryS k0 m)) lo hi w' ∧ Wr lo hi w w' := by
 obtain ⟨hO, hB⟩ := h.now
 have hfit := h.fit
 have hlen : m.length ≤ 268435456 := by unfold cntEntryS at hl; omega
 obtain ⟨a, cap, rfl, -⟩ := formEntryS (OwnRw.rw hO)
 have hcap : m.length ≤ cap ∧ cap ≤ 9223372036854775807 := by obtain ⟨-, a', c', e, q, -⟩ := hO; cases e; exact q
 rcases Nat.eq_zero_or_pos m.length with h0 | h0
 ·have hm : m = [] := List.length_eq_zero_iff.1 h0
  subst hm
  have e1 : mkEntryS k0 [] = [] := rfl
  have e2 : k0 + cntEntryS [] = k0 := rfl
  rw [e1, e2]
  clear hl hO hB e1 e2
  go_enter Tryz.func90, Tryz.ntmps90
  go_wp2
  go_rounds 1
  go_ret
  exact ⟨rfl, h, Wr.refl _ _ _⟩
 ·obtain ⟨b, off, rfl, hb1, Z0⟩ := hO.rowZ h0
  have hb2 : b < hi := by
   rcases hB with h | h
   ·rw [h] at h0; simp at h0
   ·exact h
  have FIN : Hid (∀ (W : World) (f : Nat → Ent), RowZ W b off m.length f → (∀ i, i < m.length → f i = mkEnt (k0 + 4 * i)) → hi ≤ W.heap.size → Sits (OwEntryS lo hi (.slice (some ⟨b, off, none⟩) m.length cap) (mkEntryS k0 m)) lo hi W) := fun W f hz hf hW => by
   have hl := mkEntryS_len k0 m
   have q := hz.own (es := mkEntryS k0 m) (base := lo) (cap := cap) hl.symm (fun i hi => by rw [mkEntryS_at]; exact hf i (by omega)) hb1 (by omega) (by omega)
   rw [hl] at q
   exact OwEntryS.sits ⟨q, .inr hb2⟩ hW
  have hcn : Hid (k0 + cntEntryS m = k0 + 4 * m.length) := rfl
  have HZ0 := dH Z0
  clear h hO hB Z0
  go_enter Tryz.func90, Tryz.ntmps90
  go_wp2
  go_loopw [5, 1] (fun x y wr => ∃ (k K : Nat) (f : Nat → Ent), x = .int .i64 (k : Int) ∧ y = .int .i64 (K : Int) ∧ k ≤ m.length ∧ Hid (K = k0 + 4 * k) ∧ Hid (RowZ wr b off m.length f ∧ ∀ i, i < k → f i = mkEnt (k0 + 4 * i)) ∧ Hid (Wr lo hi w wr) ∧ hi ≤ wr.heap.size) (fun x _ _ => m.length - (intOf x).toNat)
  case atStart => exact ⟨0, k0, _, rfl, rfl, Nat.zero_le _, rfl, ⟨dU HZ0, fun i h => by omega⟩, Wr.refl _ _ _, hfit⟩
  case round =>
   obtain ⟨k, K, f, rfl, rfl, hkk, hK, hz, hw, hhi⟩ := hrel
   by_cases hlt : (k : Int) < (m.length : Int)
   ·have hkl : k < m.length := by omega
    have hKb : K ≤ 2147483648 := by have := dU hK; omega
    obtain ⟨z0, f0⟩ := (dU hz).1 k hkl 0 _ rfl
    obtain ⟨z1, f1⟩ := (dU hz).1 k hkl 1 _ rfl
    obtain ⟨z2, f2⟩ := (dU hz).1 k hkl 2 _ rfl
    obtain ⟨z3, f3⟩ := (dU hz).1 k hkl 3 _ rfl
    simp only [Nat.add_zero] at z0 f0
    have CT := dH fun W => markText_any (K + 3) (by omega) (by omega) W
    have e3 : ((K + 3 : Nat) : Int) = (K : Int) + 1 + 1 + 1 := by omega
    rw [e3] at CT
    have Z3 := (((dU hz).1.pl hkl (K : Int)).wave hkl ((K : Int) + 1)).hole hkl (((K : Int) + 1 + 1) % 3 == 0)
    simp only [putF_same, putF_twice] at Z3
    have W3 := (((dU hw).set (o := off + k * 4) hb1 hb2 (.int .i64 (K : Int))).set (o := off + k * 4 + 1) hb1 hb2 (.int .i64 ((K : Int) + 1))).set (o := off + k * 4 + 2) hb1 hb2 (.bool (((K : Int) + 1 + 1) % 3 == 0))
    have s3 : hi ≤ (((wr.setCell ⟨b, off + k * 4, none⟩ (.int .i64 (K : Int))).setCell ⟨b, off + k * 4 + 1, none⟩ (.int .i64 ((K : Int) + 1))).setCell ⟨b, off + k * 4 + 2, none⟩ (.bool (((K : Int) + 1 + 1) % 3 == 0))).heap.size := by simpa using hhi
    have HW3 := dH W3
    have HZ3 := dH Z3
    have HF : Hid (∀ i, i < k → f i = mkEnt (k0 + 4 * i)) := (dU hz).2
    clear e3 Z3 W3 hz hw
    go_wp2_with fail
    generalize (((wr.setCell ⟨b, off + k * 4, none⟩ (.int .i64 (K : Int))).setCell ⟨b, off + k * 4 + 1, none⟩ (.int .i64 ((K : Int) + 1))).setCell ⟨b, off + k * 4 + 2, none⟩ (.bool (((K : Int) + 1 + 1) % 3 == 0))) = V at *
    refine (dU CT _).mono ?_
    rintro r w2 ⟨rfl, b2⟩
    have Z4 := (dU HZ3).below b2
    obtain ⟨z3', f3'⟩ := Z4 k hkl 3 _ rfl
    have Z5 := Z4.data hkl (markT (K + 3))
    simp only [putF_same, putF_twice] at Z5
    have W5 := dH (((dU HW3).trans (Wr.of_below b2)).set (o := off + k * 4 + 3) hb1 hb2 (.string (markT (K + 3))))
    have s5 : hi ≤ w2.heap.size := Nat.le_trans s3 b2.size
    have HZ5 : Hid (RowZ (w2.setCell ⟨b, off + k * 4 + 3, none⟩ (.string (markT (K + 3)))) b off m.length (putF f k (mkEnt (k0 + 4 * k)))) := by
     have e : mkEnt (k0 + 4 * k) = ⟨(K : Int), (K : Int) + 1, (((K : Int) + 1 + 1) % 3 == 0), markT (K + 3)⟩ := by
      rw [← dU hK]
      unfold mkEnt
      have e1 : ((K + 1 : Nat) : Int) = (K : Int) + 1 := by omega
      have e2 : ((K + 2) % 3 == 0) = (((K : Int) + 1 + 1) % 3 == 0) := by
       by_cases h : (K + 2) % 3 = 0
       ·have h' : ((K : Int) + 1 + 1) % 3 = 0 := by omega
        rw [h, h']; rfl
       ·have h' : ¬ ((K : Int) + 1 + 1) % 3 = 0 := by omega
        rw [beq_eq_false_iff_ne.2 h, beq_eq_false_iff_ne.2 h']
      rw [e1, e2]
     rw [e]
     exact Z5
    have HF2 : Hid (∀ i, i < k + 1 → putF f k (mkEnt (k0 + 4 * k)) i = mkEnt (k0 + 4 * i)) := fun i h => by
     unfold putF
     split
     ·rename_i e; subst e; rfl
     ·rename_i e; exact dU HF i (by omega)
    have hK2 : Hid (K + 4 = k0 + 4 * (k + 1)) := by rw [Hid, dU hK]; omega
    simp only [putF_same] at z3'
    clear CT b2 Z4 Z5 HZ3 HW3 HF s3 z0 z1 z2 z3 f0 f1 f2 f3 hK hhi
    generalize markT (K + 3) = MT at *
    go_wp2
    go_roundw
    case rel => exact ⟨k + 1, K + 4, _, by go_num, by go_num, by omega, hK2, ⟨dU HZ5, dU HF2⟩, W5, by simpa using s5⟩
    case measure => simp [intOf]; omega
   ·have e1 : k = m.length := by omega
    have e2 : Hid ((K : Int) = ((k0 + cntEntryS m : Nat) : Int)) := by rw [Hid, dU hK, dU hcn, e1]
    have O := dH (dU FIN wr f (dU hz).1 (fun i hi => (dU hz).2 i (by omega)) hhi)
    clear hz hK FIN HZ0 hcn
    go_wp2
    go_ret
    exact ⟨by have e := dU e2; simp only [Int.natCast_add] at e; simp [e], dU O, dU hw⟩
abbrev ApE (w : World) (base : Nat) (v : Value) (es : List Ent) : Prop := ApR 207 4 Ent.cl w base v es
def OwS (w : World) (base : Nat) (v : Value) (s : St) : Prop := ∃ kv lv, v = .agg #[kv, lv, .int .i64 s.lock] ∧ ApE w base kv s.kept ∧ ApE w base lv s.late ∧ (touch kv = none ∨ touch kv ≠ touch lv)
theorem OwS.rs {w : World} {base : Nat} {v : Value} {s : St} (h : OwS w base v s) : Rs w v s := by
 obtain ⟨kv, lv, h1, h2, h3, -⟩ := h
 exact ⟨kv, lv, h1, (ApR.own elemE h2).rw, (ApR.own elemE h3).rw⟩
theorem OwS.below {w w' : World} {base : Nat} {v : Value} {s : St} (h : OwS w base v s) (hb : Below w.heap.size w w') : OwS w' base v s := by
 obtain ⟨kv, lv, h1, h2, h3, h4⟩ := h
 exact ⟨kv, lv, h1, h2.below hb, h3.below hb, h4⟩
theorem OwS.mono {w : World} {base base' : Nat} {v : Value} {s : St} (h : OwS w base v s) (hb : base' ≤ base) : OwS w base' v s := by
 obtain ⟨kv, lv, h1, h2, h3, h4⟩ := h
 exact ⟨kv, lv, h1, h2.mono hb, h3.mono hb, h4⟩
def RdStore (v : Value) (m : St) (W : World) : Prop := Rs W v m
def OwStore (lo hi : Nat) (v : Value) (m : St) (W : World) : Prop := ∃ kv lv, v = .agg #[kv, lv, .int .i64 m.lock] ∧ OwEntryS lo hi kv m.kept W ∧ OwEntryS lo hi lv m.late W ∧ (m.kept = [] ∨ m.late = [] ∨ bO kv ≠ bO lv)
def sizStore (m : St) : Nat := sizEntryS m.kept + sizEntryS m.late
def cntStore (m : St) : Nat := cntEntryS m.kept + cntEntryS m.late
theorem OwStore.rd {lo hi : Nat} {v : Value} {m : St} {W : World} (h : OwStore lo hi v m W) : RdStore v m W := by
 obtain ⟨kv, lv, h1, h2, h3, -⟩ := h
 exact ⟨kv, lv, h1, h2.rd, h3.rd⟩
theorem RdStore.below {v : Value} {m : St} {W W' : World} (h : RdStore v m W) (b : Below W.heap.size W W') : RdStore v m W' := Rs.below h b
theorem formStore {v : Value} {m : St} {W : World} (h : RdStore v m W) : ∃ ka kc la lc, v = .agg #[.slice ka m.kept.length kc, .slice la m.late.length lc, .int .i64 m.lock] ∧ m.kept.length ≤ 9223372036854775807 ∧ m.late.length ≤ 9223372036854775807 := by
 obtain ⟨kv, lv, rfl, h2, h3⟩ := h
 obtain ⟨ka, kc, rfl, e1⟩ := formEntryS h2
 obtain ⟨la, lc, rfl, e2⟩ := formEntryS h3
 exact ⟨ka, kc, la, lc, rfl, e1, e2⟩
theorem OwStore.sits {lo hi : Nat} {w : World} {v : Value} {m : St} (h : OwStore lo hi v m w) (hf : hi ≤ w.heap.size) : Sits (OwStore lo hi v m) lo hi w := by
 obtain ⟨kv, lv, h1, h2, h3, h4⟩ := h
 have s2 := h2.sits hf
 have s3 := h3.sits hf
 exact ⟨hf, fun W hW => ⟨kv, lv, h1, s2.all W hW, s3.all W hW, h4⟩⟩
def txtS (m : St) : Prop := txtE m.kept ∧ txtE m.late
theorem OwS.sits {w : World} {base : Nat} {v : Value} {s : St} (h : OwS w base v s) : Sits (OwStore base w.heap.size v s) base w.heap.size w := by
 obtain ⟨kv, lv, h1, h2, h3, h4⟩ := h
 have o2 := ApR.own elemE h2
 have o3 := ApR.own elemE h3
 refine OwStore.sits ⟨kv, lv, h1, ⟨o2, o2.lt⟩, ⟨o3, o3.lt⟩, ?_⟩ (Nat.le_refl _)
 by_cases hk : s.kept = []
 ·exact .inl hk
 ·by_cases hl : s.late = []
  ·exact .inr (.inl hl)
  ·right; right
   have tb : ∀ {u : Value} {ms : List Ent}, ApE w base u ms → ms ≠ [] → touch u = some (bO u) := fun {u ms} hu hm => by
    rcases hu with ⟨h, -⟩ | hu
    ·exact absurd h hm
    ·rcases hu.2 with ⟨-, h0⟩ | ⟨g, cap, cur, rfl, -, -, hnc, -⟩
     ·exact absurd (List.length_eq_zero_iff.1 h0) hm
     ·have : ms.length ≠ 0 := fun e => hm (List.length_eq_zero_iff.1 e)
      have hc : cap ≠ 0 := by omega
      simp [touch, hc, bO]
   have t1 := tb h2 hk
   have t2 := tb h3 hl
   intro e
   rcases h4 with h4 | h4
   ·rw [t1] at h4; cases h4
   ·exact h4 (by rw [t1, t2, e])
set_option maxHeartbeats 2000000 in
theorem szStore_ (v : Value) (m : St) (left : Int) (l0 : 0 ≤ left) (l1 : left ≤ 1048576) (hf : txtS m) (w : World) (h : RdStore v m w) :
  Calls Tryz.prog 58 #[v, .int .i64 left] w fun e w' => e = .returned (.int .i64 (lft left (sizStore m))) ∧ Below w.heap.size w w' := by
 have hb0 : ∀ o, Below w.heap.size w (w.alloc o) := fun o => (Below.refl _ _).alloc (Nat.le_refl _) o
 obtain ⟨kv, lv, rfl, hk, hl⟩ := h
 have C1 := dH fun W (hb : Below w.heap.size w W) => szEntryS_ kv m.kept left l0 l1 hf.1 W (RdEntryS.below hk hb)
 have C2 := dH fun (q : Int) (q0 : 0 ≤ q) (q1 : q ≤ 1048576) W (hb : Below w.heap.size w W) => szEntryS_ lv m.late q q0 q1 hf.2 W (RdEntryS.below hl hb)
 obtain ⟨ka, kc, rfl, -⟩ := formEntryS hk
 obtain ⟨la, lc, rfl, -⟩ := formEntryS hl
 have e0 : sizStore m = sizEntryS m.kept + sizEntryS m.late := rfl
 by_cases h1 : left < (sizEntryS m.kept : Int)
 ·have eL : lft left (sizStore m) = -1 := lft_no (by omega)
  rw [lft_no h1] at C1
  rw [eL]
  clear C2 hf eL e0 h1
  go_enter Tryz.func58, Tryz.ntmps58
  go_wp2_with fail
  refine (dU C1 _ (hb0 _)).mono ?_
  rintro r w1 ⟨rfl, b1⟩
  have B1 := bT (hb0 _) b1
  clear b1 hb0 C1
  go_wp2
  go_ret
  exact ⟨rfl, B1⟩
 ·rw [lft_yes h1] at C1
  have C2 := dH fun W hb => dU C2 (left - (sizEntryS m.kept : Int)) (by omega) (by omega) W hb
  have eL : Hid (lft left (sizStore m) = lft (left - (sizEntryS m.kept : Int)) (sizEntryS m.late)) := by
   unfold lft
   rw [Hid, e0]
   by_cases h2 : left - (sizEntryS m.kept : Int) < (sizEntryS m.late : Int)
   ·rw [if_pos h2, if_pos (by omega)]
   ·rw [if_neg h2, if_neg (by omega)]; omega
  have hq0 : ¬ left - (sizEntryS m.kept : Int) < 0 := by omega
  have hL : lft (left - (sizEntryS m.kept : Int)) (sizEntryS m.late) < 0 → lft (left - (sizEntryS m.kept : Int)) (sizEntryS m.late) = -1 := fun h => by
   unfold lft at h ⊢
   split
   ·rfl
   ·rename_i h2; rw [if_neg h2] at h; omega
  have HL := dH hL
  generalize lft (left - (sizEntryS m.kept : Int)) (sizEntryS m.late) = M at *
  generalize left - (sizEntryS m.kept : Int) = q at *
  clear hL hf h1 e0
  go_enter Tryz.func58, Tryz.ntmps58
  go_wp2_with fail
  have T0 := Bx.new w [.slice ka m.kept.length kc, .slice la m.late.length lc, .int .i64 m.lock] 106
  refine (dU C1 _ (hb0 _)).mono ?_
  rintro r w1 ⟨rfl, b1⟩
  have B1 := bT (hb0 _) b1
  have T1 := T0.below b1
  have k0 := T1 0 _ rfl
  have k1 := T1 1 _ rfl
  have k2 := T1 2 _ rfl
  clear b1 hb0 C1 T0 T1
  go_wp2_with fail
  refine (dU C2 _ B1).mono ?_
  rintro r w2 ⟨rfl, b2⟩
  have B2 := bT B1 b2
  clear b2 k0 k1 k2 C2
  by_cases hM : M < 0
  ·have e1 := dU HL hM
   go_wp2
   go_ret
   exact ⟨by rw [dU eL, e1]; rfl, B2⟩
  ·go_wp2
   go_ret
   exact ⟨by rw [dU eL]; rfl, B2⟩
theorem OwnRw.farE {w : World} {base b o : Nat} {v : Value} {m : List Ent} (h : OwnRw 4 Ent.cl w base v m) (hb : b < base) (u : Value) : OwnRw 4 Ent.cl (w.setCell ⟨b, o, none⟩ u) base v m := by
 obtain ⟨h0, a, cap, rfl, hcap, h⟩ := h
 refine ⟨h0, a, cap, rfl, hcap, ?_⟩
 rcases h with h | ⟨b', off, rfl, hb', hc⟩
 ·exact .inl h
 ·exact .inr ⟨b', off, rfl, hb', fun i hi j u' hu => ⟨sO (hc i hi j u' hu).1 (.inl (by omega)), (World.frozen?_setCell _ _ _ _).trans (hc i hi j u' hu).2⟩⟩
set_option maxHeartbeats 4000000 in
theorem toStore_ (v : Value) (m : St) (w : World) (hl : sizStore m ≤ 1048576) (h : RdStore v m w) :
  Calls Tryz.prog 68 #[v] w fun e w' => ∃ u, e = .returned u ∧ Sits (OwStore w.heap.size w'.heap.size u m) w.heap.size w'.heap.size w' ∧ Below w.heap.size w w' := by
 have ba : ∀ (w : World) o, Below w.heap.size w (w.alloc o) := fun w o => (Below.refl _ _).alloc (Nat.le_refl _) o
 obtain ⟨kv, lv, rfl, rk, rl⟩ := h
 have hl1 : m.kept.length ≤ 1048576 := by unfold sizStore sizEntryS at hl; omega
 have hl2 : m.late.length ≤ 1048576 := by unfold sizStore sizEntryS at hl; omega
 have C1 := dH fun W (hb : Below w.heap.size w W) => toEntryS_own kv m.kept W hl1 (rk.below hb)
 have C2 := dH fun W (hb : Below w.heap.size w W) => toEntryS_own lv m.late W hl2 (rl.below hb)
 obtain ⟨ka, kc, rfl, -⟩ := formEntryS rk
 obtain ⟨la, lc, rfl, -⟩ := formEntryS rl
 have X0 := (Bx.new w [.slice ka m.kept.length kc, .slice la m.late.length lc, .int .i64 m.lock] 106).below (bT (ba _ (.cells #[.slice none 0 0, .slice none 0 0, .int .i64 0] 125)) (ba _ (.cells #[.slice none 0 0, .slice none 0 0, .int .i64 0] 125)))
 have Y0 := (BxZ.new (B := w.heap.size) (w.alloc (.cells #[.slice ka m.kept.length kc, .slice la m.late.length lc, .int .i64 m.lock] 106)) [.slice none 0 0, .slice none 0 0, .int .i64 0] 125 (by simp)).below (ba _ (.cells #[.slice none 0 0, .slice none 0 0, .int .i64 0] 125))
 have Z0 := BxZ.new (B := w.heap.size) ((w.alloc (.cells #[.slice ka m.kept.length kc, .slice la m.late.length lc, .int .i64 m.lock] 106)).alloc (.cells #[.slice none 0 0, .slice none 0 0, .int .i64 0] 125)) [.slice none 0 0, .slice none 0 0, .int .i64 0] 125 (by simp <;> omega)
 have B0 := bT (bT (ba w (.cells #[.slice ka m.kept.length kc, .slice la m.late.length lc, .int .i64 m.lock] 106)) (ba _ (.cells #[.slice none 0 0, .slice none 0 0, .int .i64 0] 125))) (ba _ (.cells #[.slice none 0 0, .slice none 0 0, .int .i64 0] 125))
 have e1 : (w.alloc (.cells #[.slice ka m.kept.length kc, .slice la m.late.length lc, .int .i64 m.lock] 106)).heap.size = w.heap.size + 1 := by simp
 have e2 : ((w.alloc (.cells #[.slice ka m.kept.length kc, .slice la m.late.length lc, .int .i64 m.lock] 106)).alloc (.cells #[.slice none 0 0, .slice none 0 0, .int .i64 0] 125)).heap.size = w.heap.size + 1 + 1 := by simp
 rw [e1] at Y0
 rw [e2] at Z0
 have EX : Hid (∀ (W : World) (u1 u2 : Value), OwnRw 4 Ent.cl W w.heap.size u1 m.kept → OwnRw 4 Ent.cl W w.heap.size u2 m.late → (m.kept = [] ∨ m.late = [] ∨ bO u1 ≠ bO u2) → Sits (OwStore w.heap.size W.heap.size (.agg #[u1, u2, .int .i64 m.lock]) m) w.heap.size W.heap.size W) := fun W u1 u2 o1 o2 hd => OwStore.sits ⟨u1, u2, rfl, ⟨o1, o1.lt⟩, ⟨o2, o2.lt⟩, hd⟩ (Nat.le_refl _)
 generalize m.lock = sl at *
 clear e1 e2 rk rl hl
 go_enter Tryz.func68, Tryz.ntmps68
 go_wp2_with fail
 generalize ((w.alloc (.cells #[.slice ka m.kept.length kc, .slice la m.late.length lc, .int .i64 sl] 106)).alloc (.cells #[.slice none 0 0, .slice none 0 0, .int .i64 0] 125)).alloc (.cells #[.slice none 0 0, .slice none 0 0, .int .i64 0] 125) = w0 at *
 have hlt := Z0.lt
 refine (dU C1 _ B0).mono ?_
 rintro r w1 ⟨⟨u1, rfl, O1⟩, b1⟩
 have hs1 := b1.size
 obtain ⟨a1, c1, rfl, -⟩ := formEntryS (OwnRw.rw O1)
 have B1 := bT B0 b1
 have X1 := X0.below b1
 have Y1 := Y0.below b1
 have Z1 := Z0.below b1
 have HX1 := dH (X1 : Bx w1 w.heap.size [.slice ka m.kept.length kc, .slice la m.late.length lc, .int .i64 sl])
 have HY1 := dH Y1
 have HZ1 := dH Z1
 have HO1 := dH O1
 have k0 := X1 0 _ rfl
 have k1 := X1 1 _ rfl
 have k2 := X1 2 _ rfl
 obtain ⟨z0, f0⟩ := Z1.2 0 _ rfl
 have hBx : ∀ u, Bx (w1.setCell ⟨w.heap.size + 1 + 1, 0, none⟩ u) w.heap.size [.slice ka m.kept.length kc, .slice la m.late.length lc, .int .i64 sl] := fun u i v hv => sO (X1 i v hv) (.inl (by omega))
 have X2 := dH (hBx (.slice a1 m.kept.length c1))
 have Y2 := dH (Y1.far (b' := w.heap.size + 1 + 1) (o := 0) (by omega) (.slice a1 m.kept.length c1))
 have Z2 := dH (Z1.put 0 (.slice a1 m.kept.length c1))
 have O2 := dH (O1.farE (b := w.heap.size + 1 + 1) (o := 0) (by omega) (.slice a1 m.kept.length c1))
 have B2 := B1.setCell (p := ⟨w.heap.size + 1 + 1, 0, none⟩) (by simp only; omega) (.slice a1 m.kept.length c1)
 have s2 : w0.heap.size ≤ (w1.setCell ⟨w.heap.size + 1 + 1, 0, none⟩ (.slice a1 m.kept.length c1)).heap.size := by simpa using hs1
 have k1' := dU X2 1 _ rfl
 clear X0 Y0 Z0 B0 C1 b1 O1 X1 Y1 Z1 HX1 HY1 HZ1 HO1 hBx B1
 go_wp2_with fail
 generalize w1.setCell ⟨w.heap.size + 1 + 1, 0, none⟩ (.slice a1 m.kept.length c1) = w2 at *
 clear z0 f0 k0 k1 k2
 refine (dU C2 _ B2).mono ?_
 rintro r w3 ⟨⟨u3, rfl, O3⟩, b3⟩
 obtain ⟨a3, c3, rfl, -⟩ := formEntryS (OwnRw.rw O3)
 have hs3 := b3.size
 have B3 := bT B2 b3
 have X3 := (dU X2).below b3
 have Y3 := (dU Y2).below b3
 have Z3 := (dU Z2).below b3
 have P3 := (dU O2).below b3
 have k2 := X3 2 _ rfl
 obtain ⟨z0, g0⟩ := Z3.2 0 _ rfl
 obtain ⟨z1, f1⟩ := Z3.2 1 _ rfl
 obtain ⟨z2, f2⟩ := Z3.2 2 _ rfl
 obtain ⟨y0, p0⟩ := Y3.2 0 _ rfl
 obtain ⟨y1, p1⟩ := Y3.2 1 _ rfl
 obtain ⟨y2, p2⟩ := Y3.2 2 _ rfl
 have hsep : m.kept = [] ∨ m.late = [] ∨ bO (.slice a1 m.kept.length c1) ≠ bO (.slice a3 m.late.length c3) := by
  rcases (dU O2).lt with h | h
  ·exact .inl h
  ·rcases O3.ge with h' | h'
   ·exact .inr (.inl h')
   ·right; right; omega
 have YY := dH ((((Y3.far (b' := w.heap.size + 1 + 1) (o := 1) (by omega) (.slice a3 m.late.length c3)).far (b' := w.heap.size + 1 + 1) (o := 2) (by omega) (.int .i64 sl)).put 0 (.slice a1 m.kept.length c1)).put 1 (.slice a3 m.late.length c3) |>.put 2 (.int .i64 sl))
 have OO := dH (((((P3.farE (b := w.heap.size + 1 + 1) (o := 1) (by omega) (.slice a3 m.late.length c3)).farE (b := w.heap.size + 1 + 1) (o := 2) (by omega) (.int .i64 sl)).farE (b := w.heap.size + 1) (o := 0) (by omega) (.slice a1 m.kept.length c1)).farE (b := w.heap.size + 1) (o := 1) (by omega) (.slice a3 m.late.length c3)).farE (b := w.heap.size + 1) (o := 2) (by omega) (.int .i64 sl))
 have QQ := dH (((((O3.farE (b := w.heap.size + 1 + 1) (o := 1) (by omega) (.slice a3 m.late.length c3)).farE (b := w.heap.size + 1 + 1) (o := 2) (by omega) (.int .i64 sl)).farE (b := w.heap.size + 1) (o := 0) (by omega) (.slice a1 m.kept.length c1)).farE (b := w.heap.size + 1) (o := 1) (by omega) (.slice a3 m.late.length c3)).farE (b := w.heap.size + 1) (o := 2) (by omega) (.int .i64 sl))
 have BB := dH (((((B3.setCell (p := ⟨w.heap.size + 1 + 1, 1, none⟩) (by simp only; omega) (.slice a3 m.late.length c3)).setCell (p := ⟨w.heap.size + 1 + 1, 2, none⟩) (by simp only; omega) (.int .i64 sl)).setCell (p := ⟨w.heap.size + 1, 0, none⟩) (by simp only; omega) (.slice a1 m.kept.length c1)).setCell (p := ⟨w.heap.size + 1, 1, none⟩) (by simp only; omega) (.slice a3 m.late.length c3)).setCell (p := ⟨w.heap.size + 1, 2, none⟩) (by simp only; omega) (.int .i64 sl))
 have HSEP := dH hsep
 have w0le : w.heap.size ≤ w0.heap.size := by omega
 clear X3 Y3 Z3 P3 O3 b3 C2 X2 Y2 Z2 O2 hsep B2 B3 k1'
 go_wp2_with fail
 generalize (((((w3.setCell ⟨w.heap.size + 1 + 1, 1, none⟩ (.slice a3 m.late.length c3)).setCell ⟨w.heap.size + 1 + 1, 2, none⟩ (.int .i64 sl)).setCell ⟨w.heap.size + 1, 0, none⟩ (.slice a1 m.kept.length c1)).setCell ⟨w.heap.size + 1, 1, none⟩ (.slice a3 m.late.length c3)).setCell ⟨w.heap.size + 1, 2, none⟩ (.int .i64 sl)) = V at *
 have q0 := ((dU YY).2 0 _ rfl).1
 have q1 := ((dU YY).2 1 _ rfl).1
 have q2 := ((dU YY).2 2 _ rfl).1
 clear z0 z1 z2 g0 f1 f2 y0 y1 y2 p0 p1 p2 k2
 refine bodyPost_ret (v := .agg #[.slice a1 m.kept.length c1, .slice a3 m.late.length c3, .int .i64 sl]) (by simp [results, Tryz.results68, go_sem, q0, q1, q2]) rfl ⟨_, rfl, ?_, dU BB⟩
 exact dU EX V _ _ ((dU OO).mono w0le) ((dU QQ).mono (by omega)) (dU HSEP)
set_option maxHeartbeats 2000000 in
theorem eqStore_ (u v : Value) (m : St) (w : World) (hu : RdStore u m w) (hv : RdStore v m w) :
  Calls Tryz.prog 85 #[u, v] w fun e w' => e = .returned (.bool true) ∧ Below w.heap.size w w' := by
 have ba : ∀ (w : World) o, Below w.heap.size w (w.alloc o) := fun w o => (Below.refl _ _).alloc (Nat.le_refl _) o
 obtain ⟨ku, lu, rfl, hku, hlu⟩ := hu
 obtain ⟨kv, lv, rfl, hkv, hlv⟩ := hv
 have C1 := dH fun W (hb : Below w.heap.size w W) => eqEntryS_ ku kv m.kept W (RdEntryS.below hku hb) (RdEntryS.below hkv hb)
 have C2 := dH fun W (hb : Below w.heap.size w W) => eqEntryS_ lu lv m.late W (RdEntryS.below hlu hb) (RdEntryS.below hlv hb)
 obtain ⟨ka, kc, rfl, -⟩ := formEntryS hku
 obtain ⟨la, lc, rfl, -⟩ := formEntryS hlu
 obtain ⟨ka', kc', rfl, -⟩ := formEntryS hkv
 obtain ⟨la', lc', rfl, -⟩ := formEntryS hlv
 generalize m.lock = sl at *
 have X0 := (Bx.new w [.slice ka m.kept.length kc, .slice la m.late.length lc, .int .i64 sl] 125).below (ba _ (.cells #[.slice ka' m.kept.length kc', .slice la' m.late.length lc', .int .i64 sl] 125))
 have Y0 := Bx.new (w.alloc (.cells #[.slice ka m.kept.length kc, .slice la m.late.length lc, .int .i64 sl] 125)) [.slice ka' m.kept.length kc', .slice la' m.late.length lc', .int .i64 sl] 125
 have B0 := bT (ba w (.cells #[.slice ka m.kept.length kc, .slice la m.late.length lc, .int .i64 sl] 125)) (ba _ (.cells #[.slice ka' m.kept.length kc', .slice la' m.late.length lc', .int .i64 sl] 125))
 have e1 : (w.alloc (.cells #[.slice ka m.kept.length kc, .slice la m.late.length lc, .int .i64 sl] 125)).heap.size = w.heap.size + 1 := by simp
 rw [e1] at Y0
 clear e1 hku hlu hkv hlv
 go_enter Tryz.func85, Tryz.ntmps85
 go_wp2_with fail
 generalize (w.alloc (.cells #[.slice ka m.kept.length kc, .slice la m.late.length lc, .int .i64 sl] 125)).alloc (.cells #[.slice ka' m.kept.length kc', .slice la' m.late.length lc', .int .i64 sl] 125) = w0 at *
 refine (dU C1 _ B0).mono ?_
 rintro r w1 ⟨rfl, b1⟩
 have B1 := bT B0 b1
 have X1 := X0.below b1
 have Y1 := Y0.below b1
 have k1 := X1 1 _ rfl
 have j1 := Y1 1 _ rfl
 have HX := dH X1
 have HY := dH Y1
 clear X0 Y0 B0 b1 C1 X1 Y1
 go_wp2_with fail
 refine (dU C2 _ B1).mono ?_
 rintro r w2 ⟨rfl, b2⟩
 have B2 := bT B1 b2
 have k2 := (dU HX).below b2 2 _ rfl
 have j2 := (dU HY).below b2 2 _ rfl
 clear k1 j1 HX HY C2 b2 B1
 go_wp2
 go_ret
 exact ⟨rfl, B2⟩
theorem OwEntryS.wr {lo hi lo' hi' : Nat} {v : Value} {m : List Ent} {w w' : World} (h : OwEntryS lo hi v m w) (hw : Wr lo' hi' w w') (hne : m = [] ∨ bO v < lo' ∨ hi' ≤ bO v) : OwEntryS lo hi v m w' := by
 have hlt := h.1.lt
 obtain ⟨⟨h0, a, cap, rfl, hcap, h⟩, hl⟩ := h
 refine ⟨⟨h0, a, cap, rfl, hcap, ?_⟩, hl⟩
 rcases hne with hne | hne
 ·exact .inl hne
 ·rcases h with h | ⟨b', off, rfl, hb, hc⟩
  ·exact .inl h
  ·rcases hlt with hlt | hlt
   ·exact .inl hlt
   ·have e := hw.block b' hlt hne
    exact .inr ⟨b', off, rfl, hb, fun i hi j u hu => ⟨(World.cell?_of_block (a := ⟨b', off + i * 4 + j, none⟩) e).trans (hc i hi j u hu).1, (World.frozen?_of_block (a := ⟨b', off + i * 4 + j, none⟩) e).trans (hc i hi j u hu).2⟩⟩
theorem OwEntryS.narrow {lo hi : Nat} {v : Value} {m : List Ent} {w : World} (h : OwEntryS lo hi v m w) (hm : m ≠ []) : OwEntryS (bO v) (bO v + 1) v m w ∧ lo ≤ bO v ∧ bO v < hi := by
 have h1 := h.1.ge.resolve_left hm
 have h2 := h.2.resolve_left hm
 refine ⟨⟨?_, .inr (by omega)⟩, h1, h2⟩
 obtain ⟨⟨h0, a, cap, rfl, hcap, h⟩, -⟩ := h
 refine ⟨h0, a, cap, rfl, hcap, ?_⟩
 rcases h with h | ⟨b', off, rfl, hb, hc⟩
 ·exact .inl h
 ·exact .inr ⟨b', off, rfl, Nat.le_refl _, hc⟩
theorem OwEntryS.wide {lo hi lo' hi' : Nat} {v : Value} {m : List Ent} {w : World} (h : OwEntryS lo hi v m w) (h1 : lo' ≤ lo) (h2 : hi ≤ hi') : OwEntryS lo' hi' v m w := ⟨h.1.mono h1, by rcases h.2 with h | h; exact .inl h; exact .inr (by omega)⟩
theorem markEntryS_in (lo hi : Nat) (v : Value) (m : List Ent) (k0 : Nat) (w : World) (hk : k0 ≤ 1073741824) (hl : cntEntryS m ≤ 1073741824) (hf : hi ≤ w.heap.size) (h : OwEntryS lo hi v m w) :
  Calls Tryz.prog 90 #[v, .int .i64 (k0 : Int)] w fun e w' => e = .returned (.int .i64 ((k0 + cntEntryS m : Nat) : Int)) ∧ OwEntryS lo hi v (mkEntryS k0 m) w' ∧ (∃ b1 b2, Wr b1 b2 w w' ∧ ((m = [] ∧ b1 = 0 ∧ b2 = 0) ∨ (m ≠ [] ∧ b1 = bO v ∧ b2 = bO v + 1))) ∧ Wr lo hi w w' := by
 by_cases hm : m = []
 ·subst hm
  refine (markEntryS_ 0 0 v [] k0 w hk hl (OwEntryS.sits ⟨h.1.mono (Nat.zero_le _), .inl rfl⟩ (Nat.zero_le _))).mono ?_
  rintro e w' ⟨rfl, o, d⟩
  have q : OwEntryS lo hi v [] w' := h.wr d (.inl rfl)
  exact ⟨rfl, q, ⟨0, 0, d, .inl ⟨rfl, rfl, rfl⟩⟩, ⟨d.os, d.tape, d.output, d.size, fun k hk _ => d.block k hk (.inr (Nat.zero_le _))⟩⟩
 ·obtain ⟨hn, h1, h2⟩ := h.narrow hm
  refine (markEntryS_ _ _ v m k0 w hk hl (hn.sits (by omega))).mono ?_
  rintro e w' ⟨rfl, o, d⟩
  exact ⟨rfl, o.now.wide h1 (by omega), ⟨_, _, d, .inr ⟨hm, rfl, rfl⟩⟩, d.wider h1 (by omega)⟩
theorem mkEntryS_nil {k : Nat} {m : List Ent} : mkEntryS k m = [] ↔ m = [] := by
 rw [← List.length_eq_zero_iff, ← List.length_eq_zero_iff, mkEntryS_len]
end Go.Proofs.YtkiclbbialadlaaGreat
