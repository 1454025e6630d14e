/- Several texts in one: MnF, EvP, SeS. -/
import Derived.Test.YtkiclbbialadlaaGreatGbO
import Derived.Test.YtkiclbbialadlaaGreatGaA
import Derived.Test.YtkiclbbialadlaaGreatGk10
import Derived.Laws.MakeOwn
import Derived.OwnWalk
import Derived.Test.YtkiclbbialadlaaGreatGaT
import Derived.Deep.RegionHeld3
namespace Go.Proofs.YtkiclbbialadlaaGreat
open Go.ChangeShapes Go.WideShapes Go.ChangeAt Go.RowKit
set_option linter.unusedSimpArgs false
set_option linter.unusedVariables false
set_option maxRecDepth 100000
set_option maxHeartbeats 2000000 in
theorem indexFuncL_any (v : Value) (rs : List (Nst (List Int))) (F : Nat) (caps : Array Value) (q : List Int → Bool) (w : World) (hF : ∀ args w, (callFunc F args).run Tryz.prog w = .ok (.enter F args) w) (hr : Rw 1 lsCl w v rs)
  (hq : ∀ W, Below w.heap.size w W → ∀ k (hk : k < rs.length), Calls Tryz.prog F (#[.slice rs[k].a rs[k].m.length rs[k].c] ++ caps) W fun e w' => e = .returned (.bool (q rs[k].m)) ∧ Below W.heap.size W w') :
  Calls Tryz.prog 247 #[v, .func (.func F) #[] caps] w fun e w' => e = .returned (.int .i64 (idxL q (rs.map Nst.m))) ∧ Below w.heap.size w w' := by
 have HV := dH fun W (hb : Below w.heap.size w W) => hr.below hb
 have HQ := dH hq
 have hl0 := hr.1
 obtain ⟨-, a, cap, rfl, -, -⟩ := hr
 have FN : Hid ((∀ i (h : i < rs.length), q rs[i].m = false) → idxL q (rs.map Nst.m) = -1) := fun h => idxL_none _ _ fun i hi => by rw [List.getElem_map]; exact h i (by simpa using hi)
 have FA : Hid (∀ k (hk : k < rs.length), (∀ i (h : i < rs.length), i < k → q rs[i].m = false) → q rs[k].m = true → idxL q (rs.map Nst.m) = (k : Int)) := fun k hk h1 h2 => idxL_at _ _ k (by simpa using hk) (fun i hi hik => by rw [List.getElem_map]; exact h1 i (by simpa using hi) hik) (by rw [List.getElem_map]; exact h2)
 generalize idxL q (rs.map Nst.m) = M at *
 clear hq
 go_enter Tryz.func247, Tryz.ntmps247
 go_wp2
 go_loopw [8] (fun x wr => ∃ k : Nat, x = .int .i64 (k : Int) ∧ k ≤ rs.length ∧ Hid (∀ i (h : i < rs.length), i < k → q rs[i].m = false) ∧ Below w.heap.size w wr) (fun x _ => rs.length - (intOf x).toNat)
 case atStart => exact ⟨0, rfl, Nat.zero_le _, fun i h h' => by omega, Below.refl _ _⟩
 case round =>
  obtain ⟨k, rfl, hk, hc, hb⟩ := hrel
  by_cases hlt : (k : Int) < (rs.length : Int)
  ·have hkl : k < rs.length := by omega
   obtain ⟨b, off, rfl, he⟩ := (dU HV _ hb).ls hkl
   have c0 := he k hkl
   have CE := dH (dU HQ wr hb k hkl)
   cases hcl : q rs[k].m with
   | false =>
    rw [hcl] at CE
    have H2 : Hid (∀ i (h : i < rs.length), i < k + 1 → q rs[i].m = false) := fun i h hi => by
     by_cases e : i = k
     ·subst e; exact hcl
     ·exact dU hc i h (by omega)
    generalize rs[k] = y at *
    obtain ⟨ya, yc, yn⟩ := y
    simp only at *
    clear hc he
    go_wp2_with fail
    refine (dU CE).mono ?_
    rintro e w1 ⟨rfl, b1⟩
    clear CE c0
    go_wp2
    go_roundw
    case rel => exact ⟨k + 1, by go_num, by omega, H2, bT hb b1⟩
    case measure => simp [intOf]; omega
   | true =>
    rw [hcl] at CE
    have e1 := dU FA k hkl (dU hc) hcl
    subst e1
    generalize rs[k] = y at *
    obtain ⟨ya, yc, yn⟩ := y
    simp only at *
    clear hc he FN FA
    go_wp2_with fail
    refine (dU CE).mono ?_
    rintro e w1 ⟨rfl, b1⟩
    clear CE c0
    go_wp2
    go_ret
    exact ⟨rfl, bT hb b1⟩
  ·have e1 := dU FN fun i h => dU hc i h (by omega)
   subst e1
   clear hc FN FA
   go_wp2
   go_ret
   exact ⟨rfl, hb⟩
theorem containsFuncL_any (v : Value) (rs : List (Nst (List Int))) (F : Nat) (caps : Array Value) (q : List Int → Bool) (w : World) (hF : ∀ args w, (callFunc F args).run Tryz.prog w = .ok (.enter F args) w) (hr : Rw 1 lsCl w v rs) (hl : rs.length ≤ 1048576)
  (hq : ∀ W, Below w.heap.size w W → ∀ k (hk : k < rs.length), Calls Tryz.prog F (#[.slice rs[k].a rs[k].m.length rs[k].c] ++ caps) W fun e w' => e = .returned (.bool (q rs[k].m)) ∧ Below W.heap.size W w') :
  Calls Tryz.prog 232 #[v, .func (.func F) #[] caps] w fun e w' => RetB (∃ e ∈ rs.map Nst.m, q e = true) e ∧ Below w.heap.size w w' := by
 have C1 := dH (indexFuncL_any v rs F caps q w hF hr hq)
 have hg := idxL_ge q (rs.map Nst.m)
 have R : Hid (RetB (∃ e ∈ rs.map Nst.m, q e = true) (.returned (.bool (decide (0 ≤ idxL q (rs.map Nst.m)))))) := ⟨_, rfl, by
  rw [decide_eq_true_iff]
  constructor
  ·intro h
   apply Classical.byContradiction
   intro hno
   have : idxL q (rs.map Nst.m) = -1 := idxL_neg.2 fun e he => by
    cases hqe : q e with
    | false => rfl
    | true => exact absurd ⟨e, he, hqe⟩ hno
   omega
  ·rintro ⟨e, he, hqe⟩
   apply Classical.byContradiction
   intro hno
   have h1 : idxL q (rs.map Nst.m) = -1 := by omega
   have := idxL_neg.1 h1 e he
   rw [hqe] at this
   cases this⟩
 have hl2 : (rs.map Nst.m).length ≤ 1048576 := by simpa using hl
 generalize (rs.map Nst.m).length = n at *
 generalize idxL q (rs.map Nst.m) = M at *
 clear hF hr hq
 go_enter Tryz.func232, Tryz.ntmps232
 go_wp2_with fail
 refine (dU C1).mono ?_
 rintro e w1 ⟨rfl, b1⟩
 clear C1
 go_wp2
 go_ret
 exact ⟨dU R, b1⟩
section
variable {α : Type}
def ElZ (cl : α → List Value) (w : World) (b o : Nat) (e : α) : Prop := ∀ j u, (cl e)[j]? = some u → w.cell? ⟨b, o + j, none⟩ = some u ∧ w.frozen? ⟨b, o + j, none⟩ = false
def RwZ (sz : Nat) (cl : α → List Value) (w : World) (b off n : Nat) (f : Nat → α) : Prop := ∀ i, i < n → ElZ cl w b (off + i * sz) (f i)
def putZ (f : Nat → α) (k : Nat) (e : α) : Nat → α := fun i => if i = k then e else f i
variable {sz : Nat} {cl : α → List Value} {w w' : World} {b off n k base : Nat} {f : Nat → α}
theorem putZ_same (f : Nat → α) (k : Nat) (e : α) : putZ f k e k = e := if_pos rfl
theorem putZ_twice (f : Nat → α) (k : Nat) (e e' : α) : putZ (putZ f k e) k e' = putZ f k e' := by
 funext i
 unfold putZ
 split <;> rfl
theorem RwZ.below (h : RwZ sz cl w b off n f) (hb : Below w.heap.size w w') : RwZ sz cl w' b off n f := fun i hi j u hu =>
 ⟨(hb.cell (p := ⟨b, off + i * sz + j, none⟩) (dCell_lt (h i hi j u hu).1)).trans (h i hi j u hu).1, (hb.frozen (p := ⟨b, off + i * sz + j, none⟩) (dCell_lt (h i hi j u hu).1)).trans (h i hi j u hu).2⟩
theorem idx_ne {i k j j' sz : Nat} (h : i ≠ k) (hj : j < sz) (hj' : j' < sz) : i * sz + j' ≠ k * sz + j := by
 rcases Nat.lt_or_gt_of_ne h with h | h
 ·have := Nat.mul_le_mul_right sz (show i + 1 ≤ k from h)
  rw [Nat.add_mul] at this
  omega
 ·have := Nat.mul_le_mul_right sz (show k + 1 ≤ i from h)
  rw [Nat.add_mul] at this
  omega
theorem clG_lt (hcl : ∀ a, (cl a).length = sz) {e : α} {j : Nat} {u : Value} (h : (cl e)[j]? = some u) : j < sz := by
 rcases Nat.lt_or_ge j sz with h' | h'
 ·exact h'
 ·rw [List.getElem?_eq_none (by rw [hcl]; exact h')] at h
  cases h
theorem RwZ.cell (hcl : ∀ a, (cl a).length = sz) (h : RwZ sz cl w b off n f) (hk : k < n) (j : Nat) (hj : j < sz) (u : Value) (e' : α) (he : cl e' = (cl (f k)).set j u) : RwZ sz cl (w.setCell ⟨b, off + k * sz + j, none⟩ u) b off n (putZ f k e') := fun i hi j' u' hu => by
 unfold putZ at hu
 split at hu
 ·rename_i e
  subst e
  rw [he] at hu
  by_cases e : j' = j
  ·subst e
   rw [List.getElem?_set_self (by rw [hcl]; exact hj)] at hu
   cases hu
   obtain ⟨h1, h2⟩ := h i hi j' _ (List.getElem?_eq_getElem (by rw [hcl]; exact hj))
   exact ⟨World.cell?_setCell_same _ _ _ h1, (World.frozen?_setCell _ _ _ _).trans h2⟩
  ·rw [List.getElem?_set_ne (by omega)] at hu
   obtain ⟨h1, h2⟩ := h i hi j' _ hu
   exact ⟨sO h1 (by omega), (World.frozen?_setCell _ _ _ _).trans h2⟩
 ·rename_i e
  have hj' := clG_lt hcl hu
  have := idx_ne e hj hj'
  obtain ⟨h1, h2⟩ := h i hi j' _ hu
  exact ⟨sO h1 (by omega), (World.frozen?_setCell _ _ _ _).trans h2⟩
theorem RwZ.own {cap : Nat} {es : List α} (h : RwZ sz cl w b off n f) (hn : n = es.length) (hf : ∀ i (hi : i < es.length), f i = es[i]) (hb : base ≤ b) (hl : es.length ≤ 9223372036854775807) (hc : es.length ≤ cap ∧ cap ≤ 9223372036854775807) : OwnRw sz cl w base (.slice (some ⟨b, off, none⟩) es.length cap) es := by
 refine ⟨hl, some ⟨b, off, none⟩, cap, rfl, hc, .inr ⟨b, off, rfl, hb, fun i hi j u hu => ?_⟩⟩
 subst hn
 exact h i hi j u (by rw [hf i hi]; exact hu)
theorem OwnRw.rwZ {cap : Nat} {a : Option Addr} {es : List α} (z : α) (h : OwnRw sz cl w base (.slice a n cap) es) (hp : 0 < es.length) : ∃ b off, a = some ⟨b, off, none⟩ ∧ base ≤ b ∧ RwZ sz cl w b off es.length (fun i => es.getD i z) := by
 obtain ⟨-, a', cap', e, -, h⟩ := h
 cases e
 obtain ⟨b, off, rfl, hb, hc⟩ := orR_of_lt h hp
 refine ⟨b, off, rfl, hb, fun i hi j u hu => hc i hi j u ?_⟩
 dsimp only at hu
 rw [List.getD_eq_getElem?_getD, List.getElem?_eq_getElem hi] at hu
 exact hu
theorem Rw.elG {a : Option Addr} {cap : Nat} {es : List α} (h : Rw sz cl w (.slice a n cap) es) (hk : k < es.length) : ∃ b off, a = some ⟨b, off, none⟩ ∧ ∀ i (hi : i < es.length) j u, (cl es[i])[j]? = some u → w.cell? ⟨b, off + i * sz + j, none⟩ = some u := by
 obtain ⟨-, a', cap', e, -, h⟩ := h
 cases e
 exact orR_of_lt h hk
theorem OwnRw.ltZ {v : Value} {m : List α} (hcl : ∀ a, (cl a).length = sz) (hp : 0 < sz) (h : OwnRw sz cl w base v m) : m = [] ∨ bO v < w.heap.size := by
 obtain ⟨-, a, cap, rfl, -, h⟩ := h
 rcases h with h | ⟨b, off, rfl, hb, hc⟩
 ·exact .inl h
 ·rcases Nat.eq_zero_or_pos m.length with h1 | h1
  ·exact .inl (List.length_eq_zero_iff.1 h1)
  ·exact .inr (dCell_lt (hc 0 h1 0 _ (List.getElem?_eq_getElem (by rw [hcl]; exact hp))).1)
theorem OwnRw.farZ {b' o : Nat} {v : Value} {m : List α} (h : OwnRw sz cl w base v m) (hb : b' < base) (u : Value) : OwnRw sz cl (w.setCell ⟨b', o, none⟩ u) base v m := by
 obtain ⟨h0, a, cap, rfl, hcap, h⟩ := h
 refine ⟨h0, a, cap, rfl, hcap, ?_⟩
 rcases h with h | ⟨b', off, rfl, hb', hc⟩
 ·exact .inl h
 ·exact .inr ⟨b', off, rfl, hb', fun i hi j u' hu => ⟨sO (hc i hi j u' hu).1 (.inl (by omega)), (World.frozen?_setCell _ _ _ _).trans (hc i hi j u' hu).2⟩⟩
def OwG (sz : Nat) (cl : α → List Value) (lo hi : Nat) (v : Value) (m : List α) (W : World) : Prop := OwnRw sz cl W lo v m ∧ (m = [] ∨ bO v < hi)
theorem OwG.sits {lo hi : Nat} {v : Value} {m : List α} (h : OwG sz cl lo hi v m w) (hf : hi ≤ w.heap.size) : Sits (OwG sz cl lo hi v m) lo hi w := by
 refine ⟨hf, fun W hW => ⟨?_, h.2⟩⟩
 obtain ⟨⟨h0, a, cap, rfl, hcap, h⟩, hl⟩ := h
 refine ⟨h0, a, cap, rfl, hcap, ?_⟩
 rcases hl with hl | hl
 ·exact .inl hl
 ·rcases h with h | ⟨b, off, rfl, hb, hc⟩
  ·exact .inl h
  ·have e := hW b hb hl
   exact .inr ⟨b, off, rfl, hb, fun i hi j u hu => ⟨(World.cell?_of_block (a := ⟨b, off + i * sz + j, none⟩) e).trans (hc i hi j u hu).1, (World.frozen?_of_block (a := ⟨b, off + i * sz + j, none⟩) e).trans (hc i hi j u hu).2⟩⟩
theorem OwG.wide {lo hi lo' hi' : Nat} {v : Value} {m : List α} (h : OwG sz cl lo hi v m w) (h1 : lo' ≤ lo) (h2 : hi ≤ hi') : OwG sz cl lo' hi' v m w := ⟨h.1.mono h1, h.2.elim .inl fun h => .inr (by omega)⟩
theorem RwZ.made {T : TypeId} (z : Value) (e : α) (hz : z.cells.toList = cl e) (hcl : ∀ a, (cl a).length = sz) (w : World) (n : Nat) : RwZ sz cl (w.alloc (.cells (madeCells z.cells (n * sz)) T)) w.heap.size 0 n (fun _ => e) := fun i hi j u hu => by
 have hj := clG_lt hcl hu
 have hm := MapKept.heap_alloc w (.cells (madeCells z.cells (n * sz)) T)
 have hs : z.cells.size = sz := by rw [← Array.length_toList, hz, hcl]
 have hlt : i * sz + j < n * sz := by
  have := Nat.mul_le_mul_right sz (show i + 1 ≤ n from hi)
  rw [Nat.add_mul] at this
  omega
 refine ⟨?_, ?_⟩
 ·simp only [World.cell?, hm.1]
  rw [Nat.zero_add]
  have hu' : z.cells[j]? = some u := by rw [← Array.getElem?_toList, hz]; exact hu
  have h1 : (i * sz + j) % sz = j := by rw [Nat.mul_comm, Nat.mul_add_mod, Nat.mod_eq_of_lt hj]
  simp [madeCells, hlt, hs, h1, hu', getElem!_def]
 ·simp only [World.frozen?, hm.1]
  simp
end
structure Se where
 pl : Int
 data : ByteArray
 sure : Bool
def Se.cl (e : Se) : List Value := [.int .i64 e.pl, .string e.data, .bool e.sure]
def Se.val (e : Se) : Value := .agg #[.int .i64 e.pl, .string e.data, .bool e.sure]
theorem Se.cl_len (e : Se) : e.cl.length = 3 := rfl
def zeroSe : Se := ⟨0, ⟨#[]⟩, false⟩
theorem elemSent : Elem (α := Se) 68 36 (.agg #[.int .i64 0, .string ⟨#[]⟩, .bool false]) 3 32 Se.cl where
 under := Tryz.underlying36
 info := by kernel_rfl
 zcells := by kernel_rfl
 pos := by decide
 len := fun _ => rfl
 one := fun a u hu => by
  simp only [Se.cl, List.mem_cons, List.not_mem_nil, or_false] at hu
  rcases hu with rfl | rfl | rfl <;> rfl
def SeAt (w : World) (b o : Nat) (e : Se) : Prop := w.cell? ⟨b, o, none⟩ = some (.int .i64 e.pl) ∧ w.cell? ⟨b, o + 1, none⟩ = some (.string e.data) ∧ w.cell? ⟨b, o + 2, none⟩ = some (.bool e.sure)
theorem SeAt.below {w w' : World} {b o : Nat} {e : Se} (h : SeAt w b o e) (hb : Below w.heap.size w w') : SeAt w' b o e := by
 obtain ⟨h0, h1, h2⟩ := h
 exact ⟨(hb.cell (p := ⟨b, o, none⟩) (dCell_lt h0)).trans h0, (hb.cell (p := ⟨b, o + 1, none⟩) (dCell_lt h1)).trans h1, (hb.cell (p := ⟨b, o + 2, none⟩) (dCell_lt h2)).trans h2⟩
theorem Rw.atSe {w : World} {a : Option Addr} {n cap : Nat} {es : List Se} (h : Rw 3 Se.cl w (.slice a n cap) es) {k : Nat} (hk : k < es.length) : ∃ b off, a = some ⟨b, off, none⟩ ∧ ∀ i (hi : i < es.length), SeAt w b (off + i * 3) es[i] := by
 obtain ⟨b, off, e, hc⟩ := h.elG hk
 exact ⟨b, off, e, fun i hi => ⟨hc i hi 0 _ rfl, hc i hi 1 _ rfl, hc i hi 2 _ rfl⟩⟩
theorem makeSent (n : Nat) (h : n ≤ 1073741824) (w : World) : (Instr.makeSlice 36 (.int .i64 (n : Int)) (.int .i64 (n : Int))).run Tryz.prog w = .ok (.slice (some ⟨w.heap.size, 0, none⟩) n n) (w.alloc (.cells (madeCells (Value.agg #[.int .i64 0, .string ⟨#[]⟩, .bool false]).cells (n * 3)) 68)) := by
 obtain ⟨i0, hi, hz0, hz1, hz2⟩ := info_parts (elemSent).info
 have := run_make (P := Tryz.prog) w 36 68 i0 _ Tryz.underlying36 hi hz0 .i64 .i64 (n : Int) (n : Int) (by omega) (by omega) (by rw [hz2]; omega) (by omega)
 rw [hz1] at this
 simpa using this
theorem madeSent (w : World) (n : Nat) : RwZ 3 Se.cl (w.alloc (.cells (madeCells (Value.agg #[.int .i64 0, .string ⟨#[]⟩, .bool false]).cells (n * 3)) 68)) w.heap.size 0 n (fun _ => zeroSe) := RwZ.made _ zeroSe rfl Se.cl_len w n
set_option maxHeartbeats 4000000 in
theorem toSent_any (e : Se) (w : World) :
  Calls Tryz.prog 73 #[e.val] w fun r w' => r = .returned e.val ∧ Below w.heap.size w w' := by
 obtain ⟨y0, y1, y2⟩ := e
 unfold Se.val
 go_enter Tryz.func73, Tryz.ntmps73
 go_wp2
 go_returns
 exact ⟨rfl, by go_grown⟩
theorem szSent_any (e : Se) (left : Int) (l0 : 0 ≤ left) (l1 : left ≤ 1048576) (hs : e.data.size ≤ 9223372036854775807) (w : World) :
  Calls Tryz.prog 63 #[e.val, .int .i64 left] w fun r w' => r = .returned (.int .i64 (if left < (e.data.size : Int) then -1 else left - (e.data.size : Int))) ∧ Below w.heap.size w w' := by
 obtain ⟨y0, y1, y2⟩ := e
 unfold Se.val
 simp only at *
 by_cases hd : left < (y1.size : Int)
 ·rw [if_pos hd]
  have hd' : left - (y1.size : Int) < 0 := by omega
  go_enter Tryz.func63, Tryz.ntmps63
  go_wp2
  go_returns
  exact ⟨rfl, by go_grown⟩
 ·rw [if_neg hd]
  have hd' : ¬ (left - (y1.size : Int) < 0) := by omega
  go_enter Tryz.func63, Tryz.ntmps63
  go_wp2
  go_returns
  exact ⟨rfl, by go_grown⟩
theorem eqSent_same (e : Se) (w : World) :
  Calls Tryz.prog 39 #[e.val, e.val] w fun r w' => r = .returned (.bool true) ∧ Below w.heap.size w w' := by
 obtain ⟨y0, y1, y2⟩ := e
 unfold Se.val
 go_enter Tryz.func39, Tryz.ntmps39
 go_wp2
 go_returns
 exact ⟨rfl, by go_grown⟩
def sumSe (es : List Se) : Nat := (es.map fun e => e.data.size).sum
theorem sumSe_take (es : List Se) (k : Nat) (h : k < es.length) : sumSe (es.take (k + 1)) = sumSe (es.take k) + es[k].data.size := by
 unfold sumSe
 rw [List.take_succ_eq_append_getElem h, List.map_append, List.sum_append, List.map_cons, List.map_nil, List.sum_cons, List.sum_nil, Nat.add_zero]
theorem sumSe_le (es : List Se) (k : Nat) : sumSe (es.take k) ≤ sumSe es := by
 unfold sumSe
 conv => rhs; rw [← List.take_append_drop k es, List.map_append, List.sum_append]
 exact Nat.le_add_right _ _
def txtSe (es : List Se) : Prop := ∀ e ∈ es, e.data.size ≤ 9223372036854775807
def RdSentS (v : Value) (m : List Se) (W : World) : Prop := Rw 3 Se.cl W v m
def OwSentS (lo hi : Nat) (v : Value) (m : List Se) (W : World) : Prop := OwG 3 Se.cl lo hi v m W
def sizSentS (m : List Se) : Nat := m.length + sumSe m
def cntSentS (m : List Se) : Nat := 3 * m.length
def mkSe (k : Nat) : Se := ⟨((k + 0 : Nat) : Int), markT (k + 1), ((k + 2) % 3 == 0)⟩
def mkSentS (k : Nat) (m : List Se) : List Se := (List.range m.length).map fun i => mkSe (k + 3 * i)
theorem mkSentS_len (k : Nat) (m : List Se) : (mkSentS k m).length = m.length := by simp [mkSentS]
theorem mkSentS_at (k : Nat) (m : List Se) (i : Nat) (h : i < (mkSentS k m).length) : (mkSentS k m)[i] = mkSe (k + 3 * i) := by simp [mkSentS]
theorem OwSentS.rd {lo hi : Nat} {v : Value} {m : List Se} {W : World} (h : OwSentS lo hi v m W) : RdSentS v m W := OwnRw.rw h.1
theorem RdSentS.below {v : Value} {m : List Se} {W W' : World} (h : RdSentS v m W) (b : Below W.heap.size W W') : RdSentS v m W' := Rw.below h b
theorem formSentS {v : Value} {m : List Se} {W : World} (h : RdSentS v m W) : ∃ a cap, v = .slice a m.length cap ∧ m.length ≤ 9223372036854775807 := by
 obtain ⟨h0, a, cap, rfl, -, -⟩ := h
 exact ⟨a, cap, rfl, h0⟩
theorem sitsSentS {w : World} {base : Nat} {v : Value} {m : List Se} (h : OwnRw 3 Se.cl w base v m) : Sits (OwSentS base w.heap.size v m) base w.heap.size w := OwG.sits ⟨h, h.ltZ Se.cl_len (by decide)⟩ (Nat.le_refl _)
theorem cntSentS_le {m : List Se} (h : sizSentS m ≤ 1048576) : cntSentS m ≤ 3145728 := by unfold sizSentS at h; unfold cntSentS; omega
set_option maxHeartbeats 2000000 in
theorem szSentS_ (v : Value) (es : List Se) (left : Int) (l0 : 0 ≤ left) (l1 : left ≤ 1048576) (hf : txtSe es) (w : World) (hv : RdSentS v es w) :
  Calls Tryz.prog 26 #[v, .int .i64 left] w fun r w' => r = .returned (.int .i64 (lft left (sizSentS es))) ∧ Below w.heap.size w w' := by
 have HV := dH fun W (hb : Below w.heap.size w W) => Rw.below hv hb
 have HF := dH hf
 obtain ⟨h0, a, cap, rfl, -, -⟩ := hv
 unfold sizSentS
 clear hf
 by_cases hl : left < (es.length : Int)
 ·have e1 : lft left (es.length + sumSe es) = -1 := lft_no (by omega)
  rw [e1]
  have hd : left - (es.length : Int) < 0 := by omega
  clear HV HF e1
  go_enter Tryz.func26, Tryz.ntmps26
  go_wp2
  go_ret
  exact ⟨rfl, Below.refl _ _⟩
 ·have hd : ¬ left - (es.length : Int) < 0 := by omega
  have LN : Hid (left < ((es.length + sumSe es : Nat) : Int) → lft left (es.length + sumSe es) = -1) := lft_no
  have LY : Hid (¬ left < ((es.length + sumSe es : Nat) : Int) → lft left (es.length + sumSe es) = left - ((es.length + sumSe es : Nat) : Int)) := lft_yes
  generalize lft left (es.length + sumSe es) = M at *
  go_enter Tryz.func26, Tryz.ntmps26
  go_wp2
  go_loopw [5, 1] (fun x y wr => ∃ (k : Nat) (q : Int), x = .int .i64 (k : Int) ∧ y = .int .i64 q ∧ k ≤ es.length ∧ 0 ≤ q ∧ q ≤ 1048576 ∧ Hid (q = left - (es.length : Int) - (sumSe (es.take k) : Int)) ∧ Below w.heap.size w wr) (fun x _ _ => es.length - (intOf x).toNat)
  case atStart => exact ⟨0, _, rfl, rfl, Nat.zero_le _, by omega, by omega, by simp [Hid, sumSe], Below.refl _ _⟩
  case round =>
   obtain ⟨k, q, rfl, rfl, hk, q0, q1, hq, hb⟩ := hrel
   by_cases hlt : (k : Int) < (es.length : Int)
   ·have hkl : k < es.length := by omega
    obtain ⟨b, off, rfl, hc⟩ := (dU HV wr hb).atSe hkl
    have hs := sumSe_take es k hkl
    have hs2 := sumSe_le es (k + 1)
    have CE := dH fun W => szSent_any es[k] q q0 q1 (dU HF _ (List.getElem_mem hkl)) W
    obtain ⟨c0, c1, c2⟩ := hc k hkl
    have hq' := dU hq
    generalize es[k] = y at *
    obtain ⟨y0, y1, y2⟩ := y
    unfold Se.val at CE
    simp only at *
    by_cases hn : q < (y1.size : Int)
    ·rw [if_pos hn] at CE
     have e1 := dU LN (by omega)
     subst e1
     clear hc HV HF hq' hq hs hs2 hn LN LY
     go_wp2_with fail
     refine (dU CE _).mono ?_
     rintro r w2 ⟨rfl, b2⟩
     have hb2 := bT hb b2
     clear CE b2 c0 c1 c2 hb
     go_wp2
     go_ret
     exact ⟨rfl, hb2⟩
    ·rw [if_neg hn] at CE
     have e1 : Hid (q - (y1.size : Int) = left - (es.length : Int) - (sumSe (es.take (k + 1)) : Int)) := by rw [Hid, hs]; omega
     have q0' : 0 ≤ q - (y1.size : Int) := by omega
     have q1' : q - (y1.size : Int) ≤ 1048576 := by omega
     generalize q - (y1.size : Int) = q' at *
     have hd' : ¬ q' < 0 := by omega
     clear hc hq' hq hs hs2 hn
     go_wp2_with fail
     refine (dU CE _).mono ?_
     rintro r w2 ⟨rfl, b2⟩
     have hb2 := bT hb b2
     clear CE b2 c0 c1 c2 hb
     go_wp2
     go_roundw
     case rel => exact ⟨k + 1, q', by go_num, rfl, by omega, q0', q1', e1, hb2⟩
     case measure => simp [intOf]; omega
   ·have e1 : es.take k = es := List.take_of_length_le (by omega)
    have hq' := dU hq
    rw [e1] at hq'
    have e2 := dU LY (by omega)
    have e3 : Hid (q = M) := by rw [Hid, e2, hq']; omega
    clear hq hq' e1 e2 LN LY HV HF
    go_wp2
    go_ret
    exact ⟨by rw [← dU e3]; rfl, hb⟩
set_option maxHeartbeats 4000000 in
theorem eqSentS_ (u v : Value) (es : List Se) (w : World) (hu : RdSentS u es w) (hv : RdSentS v es w) :
  Calls Tryz.prog 10 #[u, v] w fun r w' => r = .returned (.bool true) ∧ Below w.heap.size w w' := by
 have HU := dH fun W (hb : Below w.heap.size w W) => Rw.below hu hb
 have HV := dH fun W (hb : Below w.heap.size w W) => Rw.below hv hb
 obtain ⟨h0, a, cap, rfl, -, -⟩ := hu
 obtain ⟨h0', a', cap', rfl, -, -⟩ := hv
 go_enter Tryz.func10, Tryz.ntmps10
 go_wp2
 go_loopw [5] (fun i wr => ∃ k : Nat, i = .int .i64 (k : Int) ∧ k ≤ es.length ∧ Below w.heap.size w wr) (fun i _ => es.length - (intOf i).toNat)
 case atStart => exact ⟨0, rfl, Nat.zero_le _, Below.refl _ _⟩
 case round =>
  obtain ⟨k, rfl, hk, hb⟩ := hrel
  by_cases hlt : (k : Int) < (es.length : Int)
  ·have hkl : k < es.length := by omega
   obtain ⟨b, off, rfl, hc⟩ := (dU HU wr hb).atSe hkl
   obtain ⟨b', off', rfl, hc'⟩ := (dU HV wr hb).atSe hkl
   have E1 := dH (hc k hkl)
   have E2 := dH (hc' k hkl)
   obtain ⟨c0, c1, c2⟩ := hc k hkl
   obtain ⟨e0, e1, e2⟩ := hc' k hkl
   have CE := dH (eqSent_same es[k])
   generalize es[k] = y at *
   obtain ⟨y0, y1, y2⟩ := y
   unfold Se.val at CE
   simp only at *
   clear hc hc' HU HV
   have hbr : Below wr.heap.size wr wr.drew := (Below.refl _ _).drew
   go_wp2_with fail
   go_region_held3 (fun W => (W.cell? ⟨b, off + k * 3, none⟩ = some (.int .i64 y0) ∧ W.cell? ⟨b, off + k * 3 + 1, none⟩ = some (.string y1) ∧ W.cell? ⟨b, off + k * 3 + 2, none⟩ = some (.bool y2)) ∧ W.cell? ⟨b', off' + k * 3, none⟩ = some (.int .i64 y0) ∧ W.cell? ⟨b', off' + k * 3 + 1, none⟩ = some (.string y1) ∧ W.cell? ⟨b', off' + k * 3 + 2, none⟩ = some (.bool y2)) (first | exact ⟨(dU E1).below hb5, (dU E2).below hb5⟩ | go_keep)
    (first
     | (go_at_call 39; refine (dU CE _).mono ?_; rintro r w5 ⟨rfl, b5⟩; have hb5 := bT hbr b5))
   all_goals
    go_wp2
    go_roundw
    case rel => exact ⟨k + 1, by go_num, by omega, bT hb hb5⟩
    case measure => simp [intOf]; omega
  ·clear HU HV
   go_wp2
   go_ret
   exact ⟨rfl, hb⟩
theorem zallSe {w : World} {b off n k : Nat} {f : Nat → Se} (h : RwZ 3 Se.cl w b off n f) (hk : k < n) (e : Se) :
  RwZ 3 Se.cl (((w.setCell ⟨b, off + k * 3, none⟩ (.int .i64 e.pl)).setCell ⟨b, off + k * 3 + 1, none⟩ (.string e.data)).setCell ⟨b, off + k * 3 + 2, none⟩ (.bool e.sure)) b off n (putZ f k e) := by
 have h1 := h.cell Se.cl_len hk 0 (by decide) (.int .i64 e.pl) ⟨e.pl, (f k).data, (f k).sure⟩ (by rfl)
 have h2 := h1.cell Se.cl_len hk 1 (by decide) (.string e.data) ⟨e.pl, e.data, (f k).sure⟩ (by simp only [putZ_same]; rfl)
 rw [putZ_twice] at h2
 have h3 := h2.cell Se.cl_len hk 2 (by decide) (.bool e.sure) ⟨e.pl, e.data, e.sure⟩ (by simp only [putZ_same]; rfl)
 rw [putZ_twice] at h3
 exact h3
set_option maxHeartbeats 2000000 in
theorem toSentS_own (v : Value) (es : List Se) (w : World) (hl : es.length ≤ 1048576) (hv : RdSentS v es w) :
  Calls Tryz.prog 35 #[v] w fun r w' => (∃ u, r = .returned u ∧ OwnRw 3 Se.cl w' w.heap.size u es) ∧ Below w.heap.size w w' := by
 have HV := dH fun W (hb : Below w.heap.size w W) => Rw.below hv hb
 obtain ⟨h0, a, cap, rfl, -, -⟩ := hv
 have hmk := makeSent es.length (by omega)
 have MZ := dH (madeSent w es.length)
 generalize madeCells (Value.agg #[.int .i64 0, .string ⟨#[]⟩, .bool false]).cells (es.length * 3) = ZC at *
 go_enter Tryz.func35, Tryz.ntmps35
 go_wp2
 go_loopw [4] (fun x wr => ∃ (k : Nat) (f : Nat → Se), x = .int .i64 (k : Int) ∧ k ≤ es.length ∧ Hid (RwZ 3 Se.cl wr w.heap.size 0 es.length f ∧ ∀ i (h : i < es.length), i < k → f i = es[i]) ∧ Below w.heap.size w wr) (fun x _ => es.length - (intOf x).toNat)
 case atStart => exact ⟨0, _, rfl, Nat.zero_le _, ⟨dU MZ, fun i h h' => by omega⟩, (Below.refl _ _).alloc (Nat.le_refl _) _⟩
 case round =>
  obtain ⟨k, f, rfl, hk, hz, hb⟩ := hrel
  by_cases hlt : (k : Int) < (es.length : Int)
  ·have hkl : k < es.length := by omega
   obtain ⟨b, off, rfl, hc⟩ := (dU HV wr hb).atSe hkl
   obtain ⟨c0, c1, c2⟩ := hc k hkl
   have CE := dH fun W => toSent_any es[k] W
   have hst : Hid (∀ W, Below wr.heap.size wr W → RwZ 3 Se.cl W w.heap.size 0 es.length f) := fun W hB => (dU hz).1.below hB
   have hin : Hid (∀ i (h : i < es.length), i < k + 1 → putZ f k es[k] i = es[i]) := fun i h h' => by
    unfold putZ
    split
    ·rename_i e; subst e; rfl
    ·rename_i e; exact (dU hz).2 i h (by omega)
   generalize es[k] = y at *
   obtain ⟨y0, y1, y2⟩ := y
   unfold Se.val at CE
   simp only at *
   clear hc hz
   go_wp2_with fail
   refine (dU CE _).mono ?_
   rintro r w2 ⟨rfl, b2⟩
   have Z2 := dU hst w2 b2
   obtain ⟨z0, f0⟩ := Z2 k hkl 0 _ rfl
   obtain ⟨z1, f1⟩ := Z2 k hkl 1 _ rfl
   obtain ⟨z2, f2⟩ := Z2 k hkl 2 _ rfl
   have Z3 := dH (zallSe Z2 hkl ⟨y0, y1, y2⟩)
   simp only [Nat.zero_add, Nat.add_zero] at z0 z1 z2 f0 f1 f2 Z3
   have hb2 := bT hb b2
   have hb3 := dH (((hb2.setCell (p := ⟨w.heap.size, k * 3, none⟩) (Nat.le_refl _) (.int .i64 y0)).setCell (p := ⟨w.heap.size, k * 3 + 1, none⟩) (Nat.le_refl _) (.string y1)).setCell (p := ⟨w.heap.size, k * 3 + 2, none⟩) (Nat.le_refl _) (.bool y2))
   clear CE b2 c0 c1 c2 hb hst Z2 hb2
   go_wp2
   go_roundw
   case rel => exact ⟨k + 1, _, by go_num, by omega, ⟨dU Z3, dU hin⟩, dU hb3⟩
   case measure => simp [intOf]; omega
  ·have O : Hid (OwnRw 3 Se.cl wr w.heap.size (.slice (some ⟨w.heap.size, 0, none⟩) es.length es.length) es) := (dU hz).1.own rfl (fun i hi => (dU hz).2 i hi (by omega)) (Nat.le_refl _) (by omega) (by omega)
   clear hz HV
   go_wp2
   go_ret
   exact ⟨⟨_, rfl, dU O⟩, hb⟩
theorem toSentS_ (v : Value) (m : List Se) (w : World) (hl : sizSentS m ≤ 1048576) (h : RdSentS v m w) :
  Calls Tryz.prog 35 #[v] w fun e w' => ∃ u, e = .returned u ∧ Sits (OwSentS w.heap.size w'.heap.size u m) w.heap.size w'.heap.size w' ∧ Below w.heap.size w w' :=
 (toSentS_own v m w (by unfold sizSentS at hl; omega) h).mono fun e w' ⟨⟨u, h1, h2⟩, h3⟩ => ⟨u, h1, sitsSentS h2, h3⟩
theorem Wr.setSe {lo hi b o : Nat} {w wr : World} (h : Wr lo hi w wr) (h1 : lo ≤ b) (h2 : b < hi) (u : Value) : Wr lo hi w (wr.setCell ⟨b, o, none⟩ u) :=
 h.trans ⟨rfl, rfl, rfl, by simp, fun k hk hn => Below.heap_setCell _ _ _ k (fun e => by simp at e; omega)⟩
theorem mkSe_at (K : Nat) : mkSe K = ⟨(K : Int), markT (K + 1), (((K : Int) + 1 + 1) % 3 == 0)⟩ := by
 unfold mkSe
 have e0 : ((K + 0 : Nat) : Int) = (K : Int) := by omega
 have e2 : ((K + 2) % 3 == 0) = (((K : Int) + 1 + 1) % 3 == 0) := by
  by_cases h : (K + 2) % 3 = 0
  ·have h' : ((K : Int) + 1 + 1) % 3 = 0 := by omega
   rw [h, h']; rfl
  ·have h' : ¬ ((K : Int) + 1 + 1) % 3 = 0 := by omega
   rw [beq_eq_false_iff_ne.2 h, beq_eq_false_iff_ne.2 h']
 rw [e0, e2]
end Go.Proofs.YtkiclbbialadlaaGreat
