/- Several texts in one: EvS, RdS. -/
import Derived.Test.YtkiclbbialadlaaGreatGz19
import Derived.Test.YtkiclbbialadlaaGreatGaA
import Derived.Test.YtkiclbbialadlaaGreatGaT
import Derived.Deep.RegionHeld3
import Derived.Deep.DeepCutAuto
namespace Go.Proofs.YtkiclbbialadlaaGreat
open Go.ChangeShapes Go.WideShapes Go.ChangeAt Go.RowKit
set_option linter.unusedSimpArgs false
set_option linter.unusedVariables false
set_option maxRecDepth 100000
structure Ev where
 kind : Int
 pl : Int
 data : ByteArray
def Ev.cl (e : Ev) : List Value := [.int .i64 e.kind, .int .i64 e.pl, .string e.data]
def Ev.val (e : Ev) : Value := .agg #[.int .i64 e.kind, .int .i64 e.pl, .string e.data]
theorem Ev.cl_len (e : Ev) : e.cl.length = 3 := rfl
def zeroEv : Ev := ⟨0, 0, ⟨#[]⟩⟩
theorem elemEvent : Elem (α := Ev) 102 98 (.agg #[.int .i64 0, .int .i64 0, .string ⟨#[]⟩]) 3 32 Ev.cl where
 under := Tryz.underlying98
 info := by kernel_rfl
 zcells := by kernel_rfl
 pos := by decide
 len := fun _ => rfl
 one := fun a u hu => by
  simp only [Ev.cl, List.mem_cons, List.not_mem_nil, or_false] at hu
  rcases hu with rfl | rfl | rfl <;> rfl
def EvAt (w : World) (b o : Nat) (e : Ev) : Prop := w.cell? ⟨b, o, none⟩ = some (.int .i64 e.kind) ∧ w.cell? ⟨b, o + 1, none⟩ = some (.int .i64 e.pl) ∧ w.cell? ⟨b, o + 2, none⟩ = some (.string e.data)
theorem EvAt.below {w w' : World} {b o : Nat} {e : Ev} (h : EvAt w b o e) (hb : Below w.heap.size w w') : EvAt w' b o e := by
 obtain ⟨h0, h1, h2⟩ := h
 exact ⟨(hb.cell (p := ⟨b, o, none⟩) (dCell_lt h0)).trans h0, (hb.cell (p := ⟨b, o + 1, none⟩) (dCell_lt h1)).trans h1, (hb.cell (p := ⟨b, o + 2, none⟩) (dCell_lt h2)).trans h2⟩
theorem Rw.atEv {w : World} {a : Option Addr} {n cap : Nat} {es : List Ev} (h : Rw 3 Ev.cl w (.slice a n cap) es) {k : Nat} (hk : k < es.length) : ∃ b off, a = some ⟨b, off, none⟩ ∧ ∀ i (hi : i < es.length), EvAt w b (off + i * 3) es[i] := by
 obtain ⟨b, off, e, hc⟩ := h.elG hk
 exact ⟨b, off, e, fun i hi => ⟨hc i hi 0 _ rfl, hc i hi 1 _ rfl, hc i hi 2 _ rfl⟩⟩
theorem makeEvent (n : Nat) (h : n ≤ 1073741824) (w : World) : (Instr.makeSlice 98 (.int .i64 (n : Int)) (.int .i64 (n : Int))).run Tryz.prog w = .ok (.slice (some ⟨w.heap.size, 0, none⟩) n n) (w.alloc (.cells (madeCells (Value.agg #[.int .i64 0, .int .i64 0, .string ⟨#[]⟩]).cells (n * 3)) 102)) := by
 obtain ⟨i0, hi, hz0, hz1, hz2⟩ := info_parts (elemEvent).info
 have := run_make (P := Tryz.prog) w 98 102 i0 _ Tryz.underlying98 hi hz0 .i64 .i64 (n : Int) (n : Int) (by omega) (by omega) (by rw [hz2]; omega) (by omega)
 rw [hz1] at this
 simpa using this
theorem madeEvent (w : World) (n : Nat) : RwZ 3 Ev.cl (w.alloc (.cells (madeCells (Value.agg #[.int .i64 0, .int .i64 0, .string ⟨#[]⟩]).cells (n * 3)) 102)) w.heap.size 0 n (fun _ => zeroEv) := RwZ.made _ zeroEv rfl Ev.cl_len w n
set_option maxHeartbeats 4000000 in
theorem toEvent_any (e : Ev) (w : World) :
  Calls Tryz.prog 165 #[e.val] w fun r w' => r = .returned e.val ∧ Below w.heap.size w w' := by
 obtain ⟨y0, y1, y2⟩ := e
 unfold Ev.val
 go_enter Tryz.func165, Tryz.ntmps165
 go_wp2
 go_returns
 exact ⟨rfl, by go_grown⟩
theorem szEvent_any (e : Ev) (left : Int) (l0 : 0 ≤ left) (l1 : left ≤ 1048576) (hs : e.data.size ≤ 9223372036854775807) (w : World) :
  Calls Tryz.prog 156 #[e.val, .int .i64 left] w fun r w' => r = .returned (.int .i64 (if left < (e.data.size : Int) then -1 else left - (e.data.size : Int))) ∧ Below w.heap.size w w' := by
 obtain ⟨y0, y1, y2⟩ := e
 unfold Ev.val
 simp only at *
 by_cases hd : left < (y2.size : Int)
 ·rw [if_pos hd]
  have hd' : left - (y2.size : Int) < 0 := by omega
  go_enter Tryz.func156, Tryz.ntmps156
  go_wp2
  go_returns
  exact ⟨rfl, by go_grown⟩
 ·rw [if_neg hd]
  have hd' : ¬ (left - (y2.size : Int) < 0) := by omega
  go_enter Tryz.func156, Tryz.ntmps156
  go_wp2
  go_returns
  exact ⟨rfl, by go_grown⟩
theorem eqEvent_same (e : Ev) (w : World) :
  Calls Tryz.prog 198 #[e.val, e.val] w fun r w' => r = .returned (.bool true) ∧ Below w.heap.size w w' := by
 obtain ⟨y0, y1, y2⟩ := e
 unfold Ev.val
 go_enter Tryz.func198, Tryz.ntmps198
 go_wp2
 go_returns
 exact ⟨rfl, by go_grown⟩
def sumEv (es : List Ev) : Nat := (es.map fun e => e.data.size).sum
theorem sumEv_take (es : List Ev) (k : Nat) (h : k < es.length) : sumEv (es.take (k + 1)) = sumEv (es.take k) + es[k].data.size := by
 unfold sumEv
 rw [List.take_succ_eq_append_getElem h, List.map_append, List.sum_append, List.map_cons, List.map_nil, List.sum_cons, List.sum_nil, Nat.add_zero]
theorem sumEv_le (es : List Ev) (k : Nat) : sumEv (es.take k) ≤ sumEv es := by
 unfold sumEv
 conv => rhs; rw [← List.take_append_drop k es, List.map_append, List.sum_append]
 exact Nat.le_add_right _ _
def txtEv (es : List Ev) : Prop := ∀ e ∈ es, e.data.size ≤ 9223372036854775807
def RdEventS (v : Value) (m : List Ev) (W : World) : Prop := Rw 3 Ev.cl W v m
def OwEventS (lo hi : Nat) (v : Value) (m : List Ev) (W : World) : Prop := OwG 3 Ev.cl lo hi v m W
def sizEventS (m : List Ev) : Nat := m.length + sumEv m
def cntEventS (m : List Ev) : Nat := 3 * m.length
def mkEv (k : Nat) : Ev := ⟨((k + 0 : Nat) : Int), ((k + 1 : Nat) : Int), markT (k + 2)⟩
def mkEventS (k : Nat) (m : List Ev) : List Ev := (List.range m.length).map fun i => mkEv (k + 3 * i)
theorem mkEventS_len (k : Nat) (m : List Ev) : (mkEventS k m).length = m.length := by simp [mkEventS]
theorem mkEventS_at (k : Nat) (m : List Ev) (i : Nat) (h : i < (mkEventS k m).length) : (mkEventS k m)[i] = mkEv (k + 3 * i) := by simp [mkEventS]
theorem OwEventS.rd {lo hi : Nat} {v : Value} {m : List Ev} {W : World} (h : OwEventS lo hi v m W) : RdEventS v m W := OwnRw.rw h.1
theorem RdEventS.below {v : Value} {m : List Ev} {W W' : World} (h : RdEventS v m W) (b : Below W.heap.size W W') : RdEventS v m W' := Rw.below h b
theorem formEventS {v : Value} {m : List Ev} {W : World} (h : RdEventS v m W) : ∃ a cap, v = .slice a m.length cap ∧ m.length ≤ 9223372036854775807 := by
 obtain ⟨h0, a, cap, rfl, -, -⟩ := h
 exact ⟨a, cap, rfl, h0⟩
set_option maxHeartbeats 2000000 in
theorem szEventS_ (v : Value) (es : List Ev) (left : Int) (l0 : 0 ≤ left) (l1 : left ≤ 1048576) (hf : txtEv es) (w : World) (hv : RdEventS v es w) :
  Calls Tryz.prog 102 #[v, .int .i64 left] w fun r w' => r = .returned (.int .i64 (lft left (sizEventS es))) ∧ Below w.heap.size w w' := by
 have HV := dH fun W (hb : Below w.heap.size w W) => Rw.below hv hb
 have HF := dH hf
 obtain ⟨h0, a, cap, rfl, -, -⟩ := hv
 unfold sizEventS
 clear hf
 by_cases hl : left < (es.length : Int)
 ·have e1 : lft left (es.length + sumEv es) = -1 := lft_no (by omega)
  rw [e1]
  have hd : left - (es.length : Int) < 0 := by omega
  clear HV HF e1
  go_enter Tryz.func102, Tryz.ntmps102
  go_wp2
  go_ret
  exact ⟨rfl, Below.refl _ _⟩
 ·have hd : ¬ left - (es.length : Int) < 0 := by omega
  have LN : Hid (left < ((es.length + sumEv es : Nat) : Int) → lft left (es.length + sumEv es) = -1) := lft_no
  have LY : Hid (¬ left < ((es.length + sumEv es : Nat) : Int) → lft left (es.length + sumEv es) = left - ((es.length + sumEv es : Nat) : Int)) := lft_yes
  generalize lft left (es.length + sumEv es) = M at *
  go_enter Tryz.func102, Tryz.ntmps102
  go_wp2
  go_loopw [5, 1] (fun x y wr => ∃ (k : Nat) (q : Int), x = .int .i64 (k : Int) ∧ y = .int .i64 q ∧ k ≤ es.length ∧ 0 ≤ q ∧ q ≤ 1048576 ∧ Hid (q = left - (es.length : Int) - (sumEv (es.take k) : Int)) ∧ Below w.heap.size w wr) (fun x _ _ => es.length - (intOf x).toNat)
  case atStart => exact ⟨0, _, rfl, rfl, Nat.zero_le _, by omega, by omega, by simp [Hid, sumEv], Below.refl _ _⟩
  case round =>
   obtain ⟨k, q, rfl, rfl, hk, q0, q1, hq, hb⟩ := hrel
   by_cases hlt : (k : Int) < (es.length : Int)
   ·have hkl : k < es.length := by omega
    obtain ⟨b, off, rfl, hc⟩ := (dU HV wr hb).atEv hkl
    have hs := sumEv_take es k hkl
    have hs2 := sumEv_le es (k + 1)
    have CE := dH fun W => szEvent_any es[k] q q0 q1 (dU HF _ (List.getElem_mem hkl)) W
    obtain ⟨c0, c1, c2⟩ := hc k hkl
    have hq' := dU hq
    generalize es[k] = y at *
    obtain ⟨y0, y1, y2⟩ := y
    unfold Ev.val at CE
    simp only at *
    by_cases hn : q < (y2.size : Int)
    ·rw [if_pos hn] at CE
     have e1 := dU LN (by omega)
     subst e1
     clear hc HV HF hq' hq hs hs2 hn LN LY
     go_wp2_with fail
     refine (dU CE _).mono ?_
     rintro r w2 ⟨rfl, b2⟩
     have hb2 := bT hb b2
     clear CE b2 c0 c1 c2 hb
     go_wp2
     go_ret
     exact ⟨rfl, hb2⟩
    ·rw [if_neg hn] at CE
     have e1 : Hid (q - (y2.size : Int) = left - (es.length : Int) - (sumEv (es.take (k + 1)) : Int)) := by rw [Hid, hs]; omega
     have q0' : 0 ≤ q - (y2.size : Int) := by omega
     have q1' : q - (y2.size : Int) ≤ 1048576 := by omega
     generalize q - (y2.size : Int) = q' at *
     have hd' : ¬ q' < 0 := by omega
     clear hc hq' hq hs hs2 hn
     go_wp2_with fail
     refine (dU CE _).mono ?_
     rintro r w2 ⟨rfl, b2⟩
     have hb2 := bT hb b2
     clear CE b2 c0 c1 c2 hb
     go_wp2
     go_roundw
     case rel => exact ⟨k + 1, q', by go_num, rfl, by omega, q0', q1', e1, hb2⟩
     case measure => simp [intOf]; omega
   ·have e1 : es.take k = es := List.take_of_length_le (by omega)
    have hq' := dU hq
    rw [e1] at hq'
    have e2 := dU LY (by omega)
    have e3 : Hid (q = M) := by rw [Hid, e2, hq']; omega
    clear hq hq' e1 e2 LN LY HV HF
    go_wp2
    go_ret
    exact ⟨by rw [← dU e3]; rfl, hb⟩
set_option maxHeartbeats 4000000 in
theorem eqEventS_ (u v : Value) (es : List Ev) (w : World) (hu : RdEventS u es w) (hv : RdEventS v es w) :
  Calls Tryz.prog 152 #[u, v] w fun r w' => r = .returned (.bool true) ∧ Below w.heap.size w w' := by
 have HU := dH fun W (hb : Below w.heap.size w W) => Rw.below hu hb
 have HV := dH fun W (hb : Below w.heap.size w W) => Rw.below hv hb
 obtain ⟨h0, a, cap, rfl, -, -⟩ := hu
 obtain ⟨h0', a', cap', rfl, -, -⟩ := hv
 go_enter Tryz.func152, Tryz.ntmps152
 go_wp2
 go_loopw [5] (fun i wr => ∃ k : Nat, i = .int .i64 (k : Int) ∧ k ≤ es.length ∧ Below w.heap.size w wr) (fun i _ => es.length - (intOf i).toNat)
 case atStart => exact ⟨0, rfl, Nat.zero_le _, Below.refl _ _⟩
 case round =>
  obtain ⟨k, rfl, hk, hb⟩ := hrel
  by_cases hlt : (k : Int) < (es.length : Int)
  ·have hkl : k < es.length := by omega
   obtain ⟨b, off, rfl, hc⟩ := (dU HU wr hb).atEv hkl
   obtain ⟨b', off', rfl, hc'⟩ := (dU HV wr hb).atEv hkl
   have E1 := dH (hc k hkl)
   have E2 := dH (hc' k hkl)
   obtain ⟨c0, c1, c2⟩ := hc k hkl
   obtain ⟨e0, e1, e2⟩ := hc' k hkl
   have CE := dH (eqEvent_same es[k])
   generalize es[k] = y at *
   obtain ⟨y0, y1, y2⟩ := y
   unfold Ev.val at CE
   simp only at *
   clear hc hc' HU HV
   have hbr : Below wr.heap.size wr wr.drew := (Below.refl _ _).drew
   go_wp2_with fail
   go_region_held3 (fun W => (W.cell? ⟨b, off + k * 3, none⟩ = some (.int .i64 y0) ∧ W.cell? ⟨b, off + k * 3 + 1, none⟩ = some (.int .i64 y1) ∧ W.cell? ⟨b, off + k * 3 + 2, none⟩ = some (.string y2)) ∧ W.cell? ⟨b', off' + k * 3, none⟩ = some (.int .i64 y0) ∧ W.cell? ⟨b', off' + k * 3 + 1, none⟩ = some (.int .i64 y1) ∧ W.cell? ⟨b', off' + k * 3 + 2, none⟩ = some (.string y2)) (first | exact ⟨(dU E1).below hb5, (dU E2).below hb5⟩ | go_keep)
    (first
     | (go_at_call 198; refine (dU CE _).mono ?_; rintro r w5 ⟨rfl, b5⟩; have hb5 := bT hbr b5))
   all_goals
    go_wp2
    go_roundw
    case rel => exact ⟨k + 1, by go_num, by omega, bT hb hb5⟩
    case measure => simp [intOf]; omega
  ·clear HU HV
   go_wp2
   go_ret
   exact ⟨rfl, hb⟩
theorem zallEv {w : World} {b off n k : Nat} {f : Nat → Ev} (h : RwZ 3 Ev.cl w b off n f) (hk : k < n) (e : Ev) :
  RwZ 3 Ev.cl (((w.setCell ⟨b, off + k * 3, none⟩ (.int .i64 e.kind)).setCell ⟨b, off + k * 3 + 1, none⟩ (.int .i64 e.pl)).setCell ⟨b, off + k * 3 + 2, none⟩ (.string e.data)) b off n (putZ f k e) := by
 have h1 := h.cell Ev.cl_len hk 0 (by decide) (.int .i64 e.kind) ⟨e.kind, (f k).pl, (f k).data⟩ (by rfl)
 have h2 := h1.cell Ev.cl_len hk 1 (by decide) (.int .i64 e.pl) ⟨e.kind, e.pl, (f k).data⟩ (by simp only [putZ_same]; rfl)
 rw [putZ_twice] at h2
 have h3 := h2.cell Ev.cl_len hk 2 (by decide) (.string e.data) ⟨e.kind, e.pl, e.data⟩ (by simp only [putZ_same]; rfl)
 rw [putZ_twice] at h3
 exact h3
set_option maxHeartbeats 2000000 in
theorem toEventS_own (v : Value) (es : List Ev) (w : World) (hl : es.length ≤ 1048576) (hv : RdEventS v es w) :
  Calls Tryz.prog 119 #[v] w fun r w' => (∃ u, r = .returned u ∧ OwnRw 3 Ev.cl w' w.heap.size u es) ∧ Below w.heap.size w w' := by
 have HV := dH fun W (hb : Below w.heap.size w W) => Rw.below hv hb
 obtain ⟨h0, a, cap, rfl, -, -⟩ := hv
 have hmk := makeEvent es.length (by omega)
 have MZ := dH (madeEvent w es.length)
 generalize madeCells (Value.agg #[.int .i64 0, .int .i64 0, .string ⟨#[]⟩]).cells (es.length * 3) = ZC at *
 go_enter Tryz.func119, Tryz.ntmps119
 go_wp2
 go_loopw [4] (fun x wr => ∃ (k : Nat) (f : Nat → Ev), x = .int .i64 (k : Int) ∧ k ≤ es.length ∧ Hid (RwZ 3 Ev.cl wr w.heap.size 0 es.length f ∧ ∀ i (h : i < es.length), i < k → f i = es[i]) ∧ Below w.heap.size w wr) (fun x _ => es.length - (intOf x).toNat)
 case atStart => exact ⟨0, _, rfl, Nat.zero_le _, ⟨dU MZ, fun i h h' => by omega⟩, (Below.refl _ _).alloc (Nat.le_refl _) _⟩
 case round =>
  obtain ⟨k, f, rfl, hk, hz, hb⟩ := hrel
  by_cases hlt : (k : Int) < (es.length : Int)
  ·have hkl : k < es.length := by omega
   obtain ⟨b, off, rfl, hc⟩ := (dU HV wr hb).atEv hkl
   obtain ⟨c0, c1, c2⟩ := hc k hkl
   have CE := dH fun W => toEvent_any es[k] W
   have hst : Hid (∀ W, Below wr.heap.size wr W → RwZ 3 Ev.cl W w.heap.size 0 es.length f) := fun W hB => (dU hz).1.below hB
   have hin : Hid (∀ i (h : i < es.length), i < k + 1 → putZ f k es[k] i = es[i]) := fun i h h' => by
    unfold putZ
    split
    ·rename_i e; subst e; rfl
    ·rename_i e; exact (dU hz).2 i h (by omega)
   generalize es[k] = y at *
   obtain ⟨y0, y1, y2⟩ := y
   unfold Ev.val at CE
   simp only at *
   clear hc hz
   go_wp2_with fail
   refine (dU CE _).mono ?_
   rintro r w2 ⟨rfl, b2⟩
   have Z2 := dU hst w2 b2
   obtain ⟨z0, f0⟩ := Z2 k hkl 0 _ rfl
   obtain ⟨z1, f1⟩ := Z2 k hkl 1 _ rfl
   obtain ⟨z2, f2⟩ := Z2 k hkl 2 _ rfl
   have Z3 := dH (zallEv Z2 hkl ⟨y0, y1, y2⟩)
   simp only [Nat.zero_add, Nat.add_zero] at z0 z1 z2 f0 f1 f2 Z3
   have hb2 := bT hb b2
   have hb3 := dH (((hb2.setCell (p := ⟨w.heap.size, k * 3, none⟩) (Nat.le_refl _) (.int .i64 y0)).setCell (p := ⟨w.heap.size, k * 3 + 1, none⟩) (Nat.le_refl _) (.int .i64 y1)).setCell (p := ⟨w.heap.size, k * 3 + 2, none⟩) (Nat.le_refl _) (.string y2))
   clear CE b2 c0 c1 c2 hb hst Z2 hb2
   go_wp2
   go_roundw
   case rel => exact ⟨k + 1, _, by go_num, by omega, ⟨dU Z3, dU hin⟩, dU hb3⟩
   case measure => simp [intOf]; omega
  ·have O : Hid (OwnRw 3 Ev.cl wr w.heap.size (.slice (some ⟨w.heap.size, 0, none⟩) es.length es.length) es) := (dU hz).1.own rfl (fun i hi => (dU hz).2 i hi (by omega)) (Nat.le_refl _) (by omega) (by omega)
   clear hz HV
   go_wp2
   go_ret
   exact ⟨⟨_, rfl, dU O⟩, hb⟩
theorem Wr.setEv {lo hi b o : Nat} {w wr : World} (h : Wr lo hi w wr) (h1 : lo ≤ b) (h2 : b < hi) (u : Value) : Wr lo hi w (wr.setCell ⟨b, o, none⟩ u) :=
 h.trans ⟨rfl, rfl, rfl, by simp, fun k hk hn => Below.heap_setCell _ _ _ k (fun e => by simp at e; omega)⟩
theorem mkEv_at (K : Nat) : mkEv K = ⟨(K : Int), (K : Int) + 1, markT (K + 2)⟩ := by
 unfold mkEv
 have e0 : ((K + 0 : Nat) : Int) = (K : Int) := by omega
 have e1 : ((K + 1 : Nat) : Int) = (K : Int) + 1 := by omega
 rw [e0, e1]
set_option maxHeartbeats 4000000 in
theorem markEventS_ (lo hi : Nat) (v : Value) (m : List Ev) (k0 : Nat) (w : World) (hk : k0 ≤ 1073741824) (hl : cntEventS m ≤ 1073741824) (h : Sits (OwEventS lo hi v m) lo hi w) :
  Calls Tryz.prog 94 #[v, .int .i64 (k0 : Int)] w fun e w' => e = .returned (.int .i64 ((k0 + cntEventS m : Nat) : Int)) ∧ Sits (OwEventS lo hi v (mkEventS k0 m)) lo hi w' ∧ Wr lo hi w w' := by
 have hfit := h.fit
 obtain ⟨hown, hlt⟩ := h.now
 obtain ⟨a, cap, rfl, -⟩ := formEventS (OwnRw.rw hown)
 have hlen : m.length ≤ 1073741824 := by unfold cntEventS at hl; omega
 have hcn : Hid (k0 + cntEventS m = k0 + 3 * m.length) := rfl
 have hcap : m.length ≤ cap ∧ cap ≤ 9223372036854775807 := by obtain ⟨-, a', c', e, hc, -⟩ := hown; cases e; exact hc
 by_cases hm : m.length = 0
 ·obtain rfl : m = [] := List.length_eq_zero_iff.1 hm
  have S : Hid (Sits (OwEventS lo hi (.slice a ([] : List Ev).length cap) (mkEventS k0 [])) lo hi w) := h
  clear h hown hlt hm
  simp only [List.length_nil] at *
  go_enter Tryz.func94, Tryz.ntmps94
  go_wp2
  go_loopw [5, 1] (fun x y wr => x = .int .i64 0 ∧ y = .int .i64 (k0 : Int) ∧ wr = w) (fun _ _ _ => 0)
  case atStart => exact ⟨rfl, rfl, rfl⟩
  case round =>
   obtain ⟨rfl, rfl, rfl⟩ := hrel
   go_wp2
   go_ret
   exact ⟨by simp [cntEventS], dU S, Wr.refl _ _ _⟩
 ·obtain ⟨b, off, rfl, hb1, hz0⟩ := hown.rwZ zeroEv (by omega)
  have hb2 : b < hi := by
   rcases hlt with h | h
   ·exact absurd (by rw [h]; rfl) hm
   ·exact h
  have FIN : Hid (∀ (W : World) (f : Nat → Ev), RwZ 3 Ev.cl W b off m.length f → (∀ i, i < m.length → f i = mkEv (k0 + 3 * i)) → hi ≤ W.heap.size → Sits (OwEventS lo hi (.slice (some ⟨b, off, none⟩) m.length cap) (mkEventS k0 m)) lo hi W) := fun W f hf he hW => by
   have o := hf.own (es := mkEventS k0 m) (cap := cap) (base := lo) (mkEventS_len k0 m).symm (fun i hi => by rw [mkEventS_at]; exact he i (by rw [mkEventS_len] at hi; exact hi)) hb1 (by rw [mkEventS_len]; omega) (by rw [mkEventS_len]; exact hcap)
   rw [mkEventS_len] at o
   exact OwG.sits ⟨o, .inr hb2⟩ hW
  have HZ0 := dH hz0
  clear h hown hlt hz0 hm
  go_enter Tryz.func94, Tryz.ntmps94
  go_wp2
  go_loopw [5, 1] (fun x y wr => ∃ (k K : Nat) (f : Nat → Ev), x = .int .i64 (k : Int) ∧ y = .int .i64 (K : Int) ∧ k ≤ m.length ∧ Hid (K = k0 + 3 * k) ∧ Hid (RwZ 3 Ev.cl wr b off m.length f ∧ ∀ i, i < k → f i = mkEv (k0 + 3 * i)) ∧ Hid (Wr lo hi w wr) ∧ hi ≤ wr.heap.size) (fun x _ _ => m.length - (intOf x).toNat)
  case atStart => exact ⟨0, k0, _, rfl, rfl, Nat.zero_le _, rfl, ⟨dU HZ0, fun i h => by omega⟩, Wr.refl _ _ _, hfit⟩
  case round =>
   obtain ⟨k, K, f, rfl, rfl, hkk, hK, hz, hw, hhi⟩ := hrel
   by_cases hlt : (k : Int) < (m.length : Int)
   ·have hkl : k < m.length := by omega
    have hKb : K ≤ 8589934592 := by have := dU hK; unfold cntEventS at hl; omega
    have hKb2 : K ≤ 2147483648 := by have := dU hK; unfold cntEventS at hl; omega
    obtain ⟨z0, f0⟩ := (dU hz).1 k hkl 0 _ rfl
    obtain ⟨z1, f1⟩ := (dU hz).1 k hkl 1 _ rfl
    obtain ⟨z2, f2⟩ := (dU hz).1 k hkl 2 _ rfl
    simp only [Nat.add_zero] at z0 f0
    have CT := dH fun W => markText_any (K + 2) (by omega) (by omega) W
    have e3 : ((K + 2 : Nat) : Int) = (K : Int) + 1 + 1 := by omega
    rw [e3] at CT
    have Z0x := (dU hz).1.cell Ev.cl_len hkl 0 (by decide) (.int .i64 ((K : Int))) ⟨(K : Int), (f k).pl, (f k).data⟩ (by rfl)
    have Z1x := Z0x.cell Ev.cl_len hkl 1 (by decide) (.int .i64 ((K : Int) + 1)) ⟨(K : Int), (K : Int) + 1, (f k).data⟩ (by simp only [putZ_same]; rfl)
    rw [putZ_twice] at Z1x
    have HZ3 := dH Z1x
    have HW3 := dH (((dU hw).setEv (o := off + k * 3) hb1 hb2 (.int .i64 ((K : Int)))).setEv (o := off + k * 3 + 1) hb1 hb2 (.int .i64 ((K : Int) + 1)))
    have s3 : hi ≤ ((wr.setCell ⟨b, off + k * 3, none⟩ (.int .i64 ((K : Int)))).setCell ⟨b, off + k * 3 + 1, none⟩ (.int .i64 ((K : Int) + 1))).heap.size := by simpa using hhi
    have HF : Hid (∀ i, i < k → f i = mkEv (k0 + 3 * i)) := (dU hz).2
    simp only [Nat.add_zero] at HZ3
    clear e3 Z0x Z1x hz hw
    go_wp2_with fail
    generalize ((wr.setCell ⟨b, off + k * 3, none⟩ (.int .i64 ((K : Int)))).setCell ⟨b, off + k * 3 + 1, none⟩ (.int .i64 ((K : Int) + 1))) = V at *
    refine (dU CT _).mono ?_
    rintro r w2 ⟨rfl, b2⟩
    have Z4 := (dU HZ3).below b2
    obtain ⟨z2', f2'⟩ := Z4 k hkl 2 _ rfl
    have Z5 := Z4.cell Ev.cl_len hkl 2 (by decide) (.string (markT (K + 2))) ⟨(K : Int), (K : Int) + 1, markT (K + 2)⟩ (by simp only [putZ_same]; rfl)
    rw [putZ_twice] at Z5
    have W5 := dH (((dU HW3).trans (Wr.of_below b2)).setEv (o := off + k * 3 + 2) hb1 hb2 (.string (markT (K + 2))))
    have s5 : hi ≤ w2.heap.size := Nat.le_trans s3 b2.size
    have HZ5 : Hid (RwZ 3 Ev.cl (w2.setCell ⟨b, off + k * 3 + 2, none⟩ (.string (markT (K + 2)))) b off m.length (putZ f k (mkEv (k0 + 3 * k)))) := by
     rw [← dU hK, mkEv_at]
     exact Z5
    have HF2 : Hid (∀ i, i < k + 1 → putZ f k (mkEv (k0 + 3 * k)) i = mkEv (k0 + 3 * i)) := fun i h => by
     unfold putZ
     split
     ·rename_i e; subst e; rfl
     ·rename_i e; exact dU HF i (by omega)
    have hK2 : Hid (K + 3 = k0 + 3 * (k + 1)) := by rw [Hid, dU hK]; omega
    simp only [putZ_same] at z2'
    clear CT b2 Z4 Z5 HZ3 HW3 HF s3 z0 f0 z1 f1 z2 f2 hK hhi
    generalize markT (K + 2) = MT at *
    go_wp2
    go_roundw
    case rel => exact ⟨k + 1, K + 3, _, by go_num, by go_num, by omega, hK2, ⟨dU HZ5, dU HF2⟩, W5, by simpa using s5⟩
    case measure => simp [intOf]; omega
   ·have e1 : k = m.length := by omega
    have e2 : Hid ((K : Int) = ((k0 + cntEventS m : Nat) : Int)) := by rw [Hid, dU hK, dU hcn, e1]
    have O := dH (dU FIN wr f (dU hz).1 (fun i hi => (dU hz).2 i (by omega)) hhi)
    clear hz hK FIN HZ0 hcn
    go_wp2
    go_ret
    exact ⟨by have e := dU e2; simp only [Int.natCast_add] at e; simp [e], dU O, dU hw⟩
structure Rr where
 epoch : Int
 off : Int
 out : List Ev
def RdReader (v : Value) (m : Rr) (W : World) : Prop := ∃ sv, v = .agg #[.int .i64 m.epoch, .int .i64 m.off, sv] ∧ RdEventS sv m.out W
def OwReader (lo hi : Nat) (v : Value) (m : Rr) (W : World) : Prop := ∃ sv, v = .agg #[.int .i64 m.epoch, .int .i64 m.off, sv] ∧ OwEventS lo hi sv m.out W
def sizReader (m : Rr) : Nat := sizEventS m.out
def cntReader (m : Rr) : Nat := cntEventS m.out
theorem OwReader.rd {lo hi : Nat} {v : Value} {m : Rr} {W : World} (h : OwReader lo hi v m W) : RdReader v m W := by
 obtain ⟨sv, h1, h2⟩ := h
 exact ⟨sv, h1, OwEventS.rd h2⟩
theorem RdReader.below {v : Value} {m : Rr} {W W' : World} (h : RdReader v m W) (b : Below W.heap.size W W') : RdReader v m W' := by
 obtain ⟨sv, h1, h2⟩ := h
 exact ⟨sv, h1, RdEventS.below h2 b⟩
theorem formReader {v : Value} {m : Rr} {W : World} (h : RdReader v m W) : ∃ a cap, v = .agg #[.int .i64 m.epoch, .int .i64 m.off, .slice a m.out.length cap] ∧ m.out.length ≤ 9223372036854775807 := by
 obtain ⟨sv, rfl, h⟩ := h
 obtain ⟨a, cap, rfl, h0⟩ := formEventS h
 exact ⟨a, cap, rfl, h0⟩
theorem OwReader.sits {lo hi : Nat} {w : World} {v : Value} {m : Rr} (h : OwReader lo hi v m w) (hf : hi ≤ w.heap.size) : Sits (OwReader lo hi v m) lo hi w := by
 obtain ⟨sv, h1, h2⟩ := h
 have s2 := OwG.sits h2 hf
 exact ⟨hf, fun W hW => ⟨sv, h1, s2.all W hW⟩⟩
theorem szReader_ (v : Value) (m : Rr) (left : Int) (l0 : 0 ≤ left) (l1 : left ≤ 1048576) (ht : txtEv m.out) (w : World) (h : RdReader v m w) :
  Calls Tryz.prog 62 #[v, .int .i64 left] w fun e w' => e = .returned (.int .i64 (lft left (sizReader m))) ∧ Below w.heap.size w w' := by
 have hb0 : ∀ o, Below w.heap.size w (w.alloc o) := fun o => (Below.refl _ _).alloc (Nat.le_refl _) o
 obtain ⟨sv, rfl, h⟩ := h
 have C1 := dH fun W (hb : Below w.heap.size w W) => szEventS_ sv m.out left l0 l1 ht W (RdEventS.below h hb)
 obtain ⟨a, cap, rfl, -⟩ := formEventS h
 have e0 : sizReader m = sizEventS m.out := rfl
 rw [e0]
 have hL : lft left (sizEventS m.out) < 0 → lft left (sizEventS m.out) = -1 := fun h => by
  unfold lft at h ⊢
  split
  ·rfl
  ·rename_i h2; rw [if_neg h2] at h; omega
 generalize lft left (sizEventS m.out) = M at *
 have HL := dH hL
 clear hL h e0 ht
 go_enter Tryz.func62, Tryz.ntmps62
 go_wp2_with fail
 refine (dU C1 _ (hb0 _)).mono ?_
 rintro r w1 ⟨rfl, b1⟩
 have B1 := bT (hb0 _) b1
 clear b1 hb0 C1
 by_cases hM : M < 0
 ·have e1 := dU HL hM
  subst e1
  go_wp2
  go_ret
  exact ⟨rfl, B1⟩
 ·go_wp2
  go_ret
  exact ⟨rfl, B1⟩
set_option maxHeartbeats 2000000 in
theorem eqReader_ (u v : Value) (m : Rr) (w : World) (hu : RdReader u m w) (hv : RdReader v m w) :
  Calls Tryz.prog 89 #[u, v] w fun e w' => e = .returned (.bool true) ∧ Below w.heap.size w w' := by
 have hb0 : ∀ o o', Below w.heap.size w ((w.alloc o).alloc o') := fun o o' => ((Below.refl _ _).alloc (Nat.le_refl _) o).alloc (by simp) o'
 obtain ⟨su, rfl, hu⟩ := hu
 obtain ⟨sv, rfl, hv⟩ := hv
 have C1 := dH fun W (hb : Below w.heap.size w W) => eqEventS_ su sv m.out W (RdEventS.below hu hb) (RdEventS.below hv hb)
 obtain ⟨a, cap, rfl, -⟩ := formEventS hu
 obtain ⟨a', cap', rfl, -⟩ := formEventS hv
 generalize m.epoch = sl at *
 generalize m.off = so at *
 have X0 := (Bx.new w [.int .i64 sl, .int .i64 so, .slice a m.out.length cap] 100).below ((Below.refl _ _).alloc (Nat.le_refl _) (.cells #[.int .i64 sl, .int .i64 so, .slice a' m.out.length cap'] 100))
 have Y0 := Bx.new (w.alloc (.cells #[.int .i64 sl, .int .i64 so, .slice a m.out.length cap] 100)) [.int .i64 sl, .int .i64 so, .slice a' m.out.length cap'] 100
 have e1 : (w.alloc (.cells #[.int .i64 sl, .int .i64 so, .slice a m.out.length cap] 100)).heap.size = w.heap.size + 1 := by simp
 rw [e1] at Y0
 clear e1 hu hv
 go_enter Tryz.func89, Tryz.ntmps89
 go_wp2_with fail
 refine (dU C1 _ (hb0 _ _)).mono ?_
 rintro e w1 ⟨rfl, b1⟩
 have B1 := bT (hb0 _ _) b1
 clear X0 Y0 b1 hb0 C1
 go_wp2
 go_ret
 exact ⟨rfl, B1⟩
set_option maxHeartbeats 4000000 in
theorem toReader_ (v : Value) (m : Rr) (w : World) (hl : sizReader m ≤ 1048576) (h : RdReader v m w) :
  Calls Tryz.prog 72 #[v] w fun e w' => ∃ u, e = .returned u ∧ Sits (OwReader w.heap.size w'.heap.size u m) w.heap.size w'.heap.size w' ∧ Below w.heap.size w w' := by
 have ba : ∀ (w : World) o, Below w.heap.size w (w.alloc o) := fun w o => (Below.refl _ _).alloc (Nat.le_refl _) o
 obtain ⟨sv, rfl, h⟩ := h
 have C1 := dH fun W (hb : Below w.heap.size w W) => toEventS_own sv m.out W (by unfold sizReader sizEventS at hl; omega) (RdEventS.below h hb)
 obtain ⟨pa, pc, rfl, -⟩ := formEventS h
 have EX : Hid (∀ (W : World) (u : Value), OwEventS w.heap.size W.heap.size u m.out W → Sits (OwReader w.heap.size W.heap.size (.agg #[.int .i64 m.epoch, .int .i64 m.off, u]) m) w.heap.size W.heap.size W) := fun W u o => OwReader.sits ⟨u, rfl, o⟩ (Nat.le_refl _)
 generalize m.epoch = yl at *
 generalize m.off = yo at *
 generalize m.out = ms at *
 have X0 := (Bx.new w [.int .i64 yl, .int .i64 yo, .slice pa ms.length pc] 119).below (bT (ba _ (.cells #[.int .i64 0, .int .i64 0, .slice none 0 0] 100)) (ba _ (.cells #[.int .i64 yl, .int .i64 yo, .slice none 0 0] 100)))
 have Y0 := (BxZ.new (B := w.heap.size) (w.alloc (.cells #[.int .i64 yl, .int .i64 yo, .slice pa ms.length pc] 119)) [.int .i64 0, .int .i64 0, .slice none 0 0] 100 (by simp)).below (ba _ (.cells #[.int .i64 yl, .int .i64 yo, .slice none 0 0] 100))
 have Z0 := BxZ.new (B := w.heap.size) ((w.alloc (.cells #[.int .i64 yl, .int .i64 yo, .slice pa ms.length pc] 119)).alloc (.cells #[.int .i64 0, .int .i64 0, .slice none 0 0] 100)) [.int .i64 yl, .int .i64 yo, .slice none 0 0] 100 (by simp <;> omega)
 have B0 := bT (bT (ba w (.cells #[.int .i64 yl, .int .i64 yo, .slice pa ms.length pc] 119)) (ba _ (.cells #[.int .i64 0, .int .i64 0, .slice none 0 0] 100))) (ba _ (.cells #[.int .i64 yl, .int .i64 yo, .slice none 0 0] 100))
 have e1 : (w.alloc (.cells #[.int .i64 yl, .int .i64 yo, .slice pa ms.length pc] 119)).heap.size = w.heap.size + 1 := by simp
 have e2 : ((w.alloc (.cells #[.int .i64 yl, .int .i64 yo, .slice pa ms.length pc] 119)).alloc (.cells #[.int .i64 0, .int .i64 0, .slice none 0 0] 100)).heap.size = w.heap.size + 1 + 1 := by simp
 rw [e1] at Y0
 rw [e2] at Z0
 clear e1 e2 h hl
 go_enter Tryz.func72, Tryz.ntmps72
 go_wp2_with fail
 generalize ((w.alloc (.cells #[.int .i64 yl, .int .i64 yo, .slice pa ms.length pc] 119)).alloc (.cells #[.int .i64 0, .int .i64 0, .slice none 0 0] 100)).alloc (.cells #[.int .i64 yl, .int .i64 yo, .slice none 0 0] 100) = w0 at *
 have hlt := Z0.lt
 refine (dU C1 _ B0).mono ?_
 rintro r w1 ⟨⟨u1, rfl, O1⟩, b1⟩
 have hs1 := b1.size
 obtain ⟨a1, c1, rfl, -⟩ := formEventS (OwnRw.rw O1)
 have B1 := bT B0 b1
 have Y1 := Y0.below b1
 have Z1 := Z0.below b1
 obtain ⟨z0, f0⟩ := Z1.2 0 _ rfl
 obtain ⟨z1, f1⟩ := Z1.2 1 _ rfl
 obtain ⟨z2, f2⟩ := Z1.2 2 _ rfl
 obtain ⟨y0, p0⟩ := Y1.2 0 _ rfl
 obtain ⟨y1, p1⟩ := Y1.2 1 _ rfl
 obtain ⟨y2, p2⟩ := Y1.2 2 _ rfl
 have YY := dH ((((Y1.far (b' := w.heap.size + 1 + 1) (o := 2) (by omega) (.slice a1 ms.length c1)).put 0 (.int .i64 yl)).put 1 (.int .i64 yo)).put 2 (.slice a1 ms.length c1))
 have OO := dH ((((O1.farZ (b' := w.heap.size + 1 + 1) (o := 2) (by omega) (.slice a1 ms.length c1)).farZ (b' := w.heap.size + 1) (o := 0) (by omega) (.int .i64 yl)).farZ (b' := w.heap.size + 1) (o := 1) (by omega) (.int .i64 yo)).farZ (b' := w.heap.size + 1) (o := 2) (by omega) (.slice a1 ms.length c1))
 have BB := dH ((((B1.setCell (p := ⟨w.heap.size + 1 + 1, 2, none⟩) (by simp only; omega) (.slice a1 ms.length c1)).setCell (p := ⟨w.heap.size + 1, 0, none⟩) (by simp only; omega) (.int .i64 yl)).setCell (p := ⟨w.heap.size + 1, 1, none⟩) (by simp only; omega) (.int .i64 yo)).setCell (p := ⟨w.heap.size + 1, 2, none⟩) (by simp only; omega) (.slice a1 ms.length c1))
 have w0le : w.heap.size ≤ w0.heap.size := by omega
 clear X0 Y0 Z0 B0 C1 b1 O1 Y1 Z1 B1
 go_wp2_with fail
 generalize ((((w1.setCell ⟨w.heap.size + 1 + 1, 2, none⟩ (.slice a1 ms.length c1)).setCell ⟨w.heap.size + 1, 0, none⟩ (.int .i64 yl)).setCell ⟨w.heap.size + 1, 1, none⟩ (.int .i64 yo)).setCell ⟨w.heap.size + 1, 2, none⟩ (.slice a1 ms.length c1)) = V at *
 have q0 := ((dU YY).2 0 _ rfl).1
 have q1 := ((dU YY).2 1 _ rfl).1
 have q2 := ((dU YY).2 2 _ rfl).1
 clear z0 z1 z2 f0 f1 f2 y0 y1 y2 p0 p1 p2
 have OV := (dU OO).mono w0le
 refine bodyPost_ret (v := .agg #[.int .i64 yl, .int .i64 yo, .slice a1 ms.length c1]) (by simp [results, Tryz.results72, go_sem, q0, q1, q2]) rfl ⟨_, rfl, dU EX V _ ⟨OV, OV.ltZ Ev.cl_len (by decide)⟩, dU BB⟩
end Go.Proofs.YtkiclbbialadlaaGreat
