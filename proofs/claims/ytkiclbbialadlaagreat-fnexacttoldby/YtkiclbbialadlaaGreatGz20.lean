/- Several texts in one: UsA, DpP. -/
import Derived.Test.YtkiclbbialadlaaGreatGbG
import Derived.Test.YtkiclbbialadlaaGreatGaB
import Derived.Deep.RegionHeld3
import Derived.Deep.DeepCutAuto
namespace Go.Proofs.YtkiclbbialadlaaGreat
open Go.ChangeShapes Go.WideShapes Go.ChangeAt Go.RowKit
set_option linter.unusedSimpArgs false
set_option linter.unusedVariables false
set_option maxRecDepth 100000
structure Ps where
 ka : Option Addr
 kc : Nat
 la : Option Addr
 lc : Nat
 m : St
def psCl (p : Ps) : List Value := [.slice p.ka p.m.kept.length p.kc, .slice p.la p.m.late.length p.lc, .int .i64 p.m.lock]
def psVal (p : Ps) : Value := .agg #[.slice p.ka p.m.kept.length p.kc, .slice p.la p.m.late.length p.lc, .int .i64 p.m.lock]
theorem psCl_len (p : Ps) : (psCl p).length = 3 := rfl
theorem elemS : Elem (α := Ps) 125 39 (.agg #[.slice none 0 0, .slice none 0 0, .int .i64 0]) 3 56 psCl where
 under := Tryz.underlying39
 info := by kernel_rfl
 zcells := by kernel_rfl
 pos := by decide
 len := psCl_len
 one := fun a u hu => by
  simp only [psCl, List.mem_cons, List.not_mem_nil, or_false] at hu
  rcases hu with rfl | rfl | rfl <;> rfl
def PsAt (w : World) (b o : Nat) (p : Ps) : Prop := w.cell? ⟨b, o, none⟩ = some (.slice p.ka p.m.kept.length p.kc) ∧ w.cell? ⟨b, o + 1, none⟩ = some (.slice p.la p.m.late.length p.lc) ∧ w.cell? ⟨b, o + 2, none⟩ = some (.int .i64 p.m.lock)
theorem PsAt.below {w w' : World} {b o : Nat} {p : Ps} (h : PsAt w b o p) (hb : Below w.heap.size w w') : PsAt w' b o p :=
 ⟨(hb.cell (p := ⟨b, o, none⟩) (dCell_lt h.1)).trans h.1, (hb.cell (p := ⟨b, o + 1, none⟩) (dCell_lt h.2.1)).trans h.2.1, (hb.cell (p := ⟨b, o + 2, none⟩) (dCell_lt h.2.2)).trans h.2.2⟩
theorem Rw.ps {w : World} {a : Option Addr} {n cap : Nat} {rs : List Ps} (h : Rw 3 psCl w (.slice a n cap) rs) {k : Nat} (hk : k < rs.length) : ∃ b off, a = some ⟨b, off, none⟩ ∧ ∀ i (hi : i < rs.length), PsAt w b (off + i * 3) rs[i] := by
 obtain ⟨-, a', cap', e, -, h⟩ := h
 cases e
 obtain ⟨b, off, rfl, hc⟩ := orR_of_lt h hk
 exact ⟨b, off, rfl, fun i hi => ⟨hc i hi 0 _ rfl, hc i hi 1 _ rfl, hc i hi 2 _ rfl⟩⟩
def RdStoreS (v : Value) (ms : List St) (W : World) : Prop := ∃ rs : List Ps, rs.map Ps.m = ms ∧ Rw 3 psCl W v rs ∧ ∀ p ∈ rs, RdStore (psVal p) p.m W
theorem RdStoreS.below {v : Value} {ms : List St} {W W' : World} (h : RdStoreS v ms W) (b : Below W.heap.size W W') : RdStoreS v ms W' := by
 obtain ⟨rs, h1, h2, h3⟩ := h
 exact ⟨rs, h1, h2.below b, fun p hp => (h3 p hp).below b⟩
theorem formStoreS {v : Value} {ms : List St} {W : World} (h : RdStoreS v ms W) : ∃ a cap, v = .slice a ms.length cap ∧ ms.length ≤ 9223372036854775807 := by
 obtain ⟨rs, rfl, ⟨h0, a, cap, rfl, -, -⟩, -⟩ := h
 exact ⟨a, cap, by simp, by simpa using h0⟩
def Spn (s : Nat → Nat) (n lo hi : Nat) : Prop := lo ≤ s 0 ∧ (∀ i, i < n → s i ≤ s (i + 1)) ∧ s n ≤ hi
theorem Spn.mono {s : Nat → Nat} {n lo hi : Nat} (h : Spn s n lo hi) : ∀ j i, i ≤ j → j ≤ n → s i ≤ s j := by
 intro j
 induction j with
 | zero =>
  intro i hi _
  obtain rfl : i = 0 := by omega
  exact Nat.le_refl _
 | succ k ih =>
  intro i hi hj
  rcases Nat.lt_or_ge i (k + 1) with h1 | h1
  ·have := ih i (by omega) (by omega)
   have := h.2.1 k (by omega)
   omega
  ·obtain rfl : i = k + 1 := by omega
   exact Nat.le_refl _
theorem Spn.lo {s : Nat → Nat} {n lo hi : Nat} (h : Spn s n lo hi) (i : Nat) (hi' : i ≤ n) : lo ≤ s i := Nat.le_trans h.1 (h.mono i 0 (Nat.zero_le _) hi')
theorem Spn.hi {s : Nat → Nat} {n lo hi : Nat} (h : Spn s n lo hi) (i : Nat) (hi' : i ≤ n) : s i ≤ hi := Nat.le_trans (h.mono n i hi' (Nat.le_refl _)) h.2.2
def OwStoreS (lo hi : Nat) (v : Value) (ms : List St) (W : World) : Prop :=
 ∃ (rs : List Ps) (s : Nat → Nat), rs.map Ps.m = ms ∧ OwnRw 3 psCl W lo v rs ∧ (rs = [] ∨ bO v < s 0) ∧ Spn s rs.length lo hi ∧ ∀ i (h : i < rs.length), OwStore (s i) (s (i + 1)) (psVal rs[i]) rs[i].m W
theorem OwStoreS.rd {lo hi : Nat} {v : Value} {ms : List St} {W : World} (h : OwStoreS lo hi v ms W) : RdStoreS v ms W := by
 obtain ⟨rs, s, h1, h2, -, -, h3⟩ := h
 refine ⟨rs, h1, h2.rw, fun p hp => ?_⟩
 obtain ⟨i, hi, rfl⟩ := List.getElem_of_mem hp
 exact (h3 i hi).rd
theorem OwnRw.sitsS {W W' : World} {lo hi : Nat} {v : Value} {rs : List Ps} (h : OwnRw 3 psCl W lo v rs) (hl : rs = [] ∨ bO v < hi) (hW : ∀ k, lo ≤ k → k < hi → W'.heap[k]? = W.heap[k]?) : OwnRw 3 psCl W' lo v rs := by
 obtain ⟨h0, a, cap, rfl, hcap, h⟩ := h
 refine ⟨h0, a, cap, rfl, hcap, ?_⟩
 rcases hl with hl | hl
 ·exact .inl hl
 ·rcases h with h | ⟨b, off, rfl, hb, hc⟩
  ·exact .inl h
  ·have e := hW b hb hl
   exact .inr ⟨b, off, rfl, hb, fun i hi j u hu => ⟨(World.cell?_of_block (a := ⟨b, off + i * 3 + j, none⟩) e).trans (hc i hi j u hu).1, (World.frozen?_of_block (a := ⟨b, off + i * 3 + j, none⟩) e).trans (hc i hi j u hu).2⟩⟩
theorem OwStoreS.sits {lo hi : Nat} {w : World} {v : Value} {ms : List St} (h : OwStoreS lo hi v ms w) (hf : hi ≤ w.heap.size) : Sits (OwStoreS lo hi v ms) lo hi w := by
 obtain ⟨rs, s, h1, h2, h3, h4, h5⟩ := h
 refine ⟨hf, fun W hW => ⟨rs, s, h1, h2.sitsS (hi := hi) ?_ hW, h3, h4, fun i hi' => ?_⟩⟩
 ·rcases h3 with h | h
  ·exact .inl h
  ·have := h4.hi 0 (Nat.zero_le _)
   exact .inr (by omega)
 ·have a1 := h4.lo i (by omega)
  have a2 := h4.hi (i + 1) (by omega)
  exact ((h5 i hi').sits (by omega)).all W fun k k1 k2 => hW k (by omega) (by omega)
def sumS (ms : List St) : Nat := (ms.map sizStore).sum
theorem sumS_take (ms : List St) (k : Nat) (h : k < ms.length) : sumS (ms.take (k + 1)) = sumS (ms.take k) + sizStore ms[k] := by
 unfold sumS
 rw [List.take_succ_eq_append_getElem h, List.map_append, List.sum_append, List.map_cons, List.map_nil, List.sum_cons, List.sum_nil, Nat.add_zero]
theorem sumS_le (ms : List St) (k : Nat) : sumS (ms.take k) ≤ sumS ms := by
 unfold sumS
 conv => rhs; rw [← List.take_append_drop k ms, List.map_append, List.sum_append]
 exact Nat.le_add_right _ _
theorem sumS_mem {ms : List St} {k : Nat} (h : k < ms.length) : sizStore ms[k] ≤ sumS ms := by
 have h1 := sumS_take ms k h
 have h2 := sumS_le ms (k + 1)
 omega
def sizStoreS (ms : List St) : Nat := ms.length + sumS ms
def cntStoreS (ms : List St) : Nat := (ms.map fun m => cntStore m + 1).sum
theorem cntStoreS_take (ms : List St) (k : Nat) (h : k < ms.length) : cntStoreS (ms.take (k + 1)) = cntStoreS (ms.take k) + cntStore ms[k] + 1 := by
 unfold cntStoreS
 rw [List.take_succ_eq_append_getElem h, List.map_append, List.sum_append, List.map_cons, List.map_nil, List.sum_cons, List.sum_nil, Nat.add_zero, Nat.add_assoc]
theorem cntStoreS_le' (ms : List St) (k : Nat) : cntStoreS (ms.take k) ≤ cntStoreS ms := by
 unfold cntStoreS
 conv => rhs; rw [← List.take_append_drop k ms, List.map_append, List.sum_append]
 exact Nat.le_add_right _ _
theorem cntStoreS_le {ms : List St} (h : sizStoreS ms ≤ 1048576) : cntStoreS ms ≤ 8388608 := by
 have : ∀ l : List St, cntStoreS l ≤ 4 * sumS l + l.length := by
  intro l
  induction l with
  | nil => simp [cntStoreS, sumS]
  | cons m l ih =>
   have e1 : cntStoreS (m :: l) = cntStore m + 1 + cntStoreS l := by simp [cntStoreS]
   have e2 : sumS (m :: l) = sizStore m + sumS l := by simp [sumS]
   have e3 : cntStore m ≤ 4 * sizStore m := by unfold cntStore sizStore cntEntryS sizEntryS; omega
   rw [e1, e2, List.length_cons]
   omega
 have h1 := this ms
 unfold sizStoreS at h
 omega
def txtSS (ms : List St) : Prop := ∀ m ∈ ms, txtS m
set_option maxHeartbeats 2000000 in
theorem szStoreS_ (v : Value) (ms : List St) (left : Int) (l0 : 0 ≤ left) (l1 : left ≤ 1048576) (hf : txtSS ms) (w : World) (hv : RdStoreS v ms w) :
  Calls Tryz.prog 20 #[v, .int .i64 left] w fun r w' => r = .returned (.int .i64 (lft left (sizStoreS ms))) ∧ Below w.heap.size w w' := by
 obtain ⟨rs, rfl, hr, hn⟩ := hv
 have HV := dH fun W (hb : Below w.heap.size w W) => hr.below hb
 have HN := dH fun W (hb : Below w.heap.size w W) k (hk : k < rs.length) => (hn _ (List.getElem_mem hk)).below hb
 have HT : Hid (∀ k (hk : k < rs.length), txtS rs[k].m) := fun k hk => hf _ (List.mem_map.2 ⟨_, List.getElem_mem hk, rfl⟩)
 obtain ⟨h0, a, cap, rfl, -, -⟩ := hr
 have e0 : sizStoreS (rs.map Ps.m) = rs.length + sumS (rs.map Ps.m) := by unfold sizStoreS; rw [List.length_map]
 rw [e0]
 clear hn e0 hf
 by_cases hl : left < (rs.length : Int)
 ·have e1 : lft left (rs.length + sumS (rs.map Ps.m)) = -1 := lft_no (by omega)
  rw [e1]
  have hd : left - (rs.length : Int) < 0 := by omega
  clear HV HN e1 HT
  go_enter Tryz.func20, Tryz.ntmps20
  go_wp2
  go_ret
  exact ⟨rfl, Below.refl _ _⟩
 ·have hd : ¬ left - (rs.length : Int) < 0 := by omega
  have LN : Hid (left < ((rs.length + sumS (rs.map Ps.m) : Nat) : Int) → lft left (rs.length + sumS (rs.map Ps.m)) = -1) := lft_no
  have LY : Hid (¬ left < ((rs.length + sumS (rs.map Ps.m) : Nat) : Int) → lft left (rs.length + sumS (rs.map Ps.m)) = left - ((rs.length + sumS (rs.map Ps.m) : Nat) : Int)) := lft_yes
  generalize lft left (rs.length + sumS (rs.map Ps.m)) = M at *
  go_enter Tryz.func20, Tryz.ntmps20
  go_wp2
  go_loopw [5, 1] (fun x y wr => ∃ (k : Nat) (q : Int), x = .int .i64 (k : Int) ∧ y = .int .i64 q ∧ k ≤ rs.length ∧ 0 ≤ q ∧ q ≤ 1048576 ∧ Hid (q = left - (rs.length : Int) - (sumS ((rs.map Ps.m).take k) : Int)) ∧ Below w.heap.size w wr) (fun x _ _ => rs.length - (intOf x).toNat)
  case atStart => exact ⟨0, _, rfl, rfl, Nat.zero_le _, by omega, by omega, by simp [Hid, sumS], Below.refl _ _⟩
  case round =>
   obtain ⟨k, q, rfl, rfl, hk, q0, q1, hq, hb⟩ := hrel
   by_cases hlt : (k : Int) < (rs.length : Int)
   ·have hkl : k < rs.length := by omega
    obtain ⟨b, off, rfl, hc⟩ := (dU HV wr hb).ps hkl
    have hs := sumS_take (rs.map Ps.m) k (by simpa using hkl)
    have hs2 := sumS_le (rs.map Ps.m) (k + 1)
    rw [List.getElem_map] at hs
    have CE := dH fun W (hB : Below wr.heap.size wr W) => szStore_ (psVal rs[k]) rs[k].m q q0 q1 (dU HT k hkl) W (dU HN W (bT hb hB) k hkl)
    obtain ⟨c0, c1, c2⟩ := hc k hkl
    have hq' := dU hq
    unfold psVal at CE
    generalize rs[k] = y at *
    obtain ⟨ya, yc, za, zc, m⟩ := y
    simp only at *
    by_cases hn : q < (sizStore m : Int)
    ·rw [lft_no hn] at CE
     have e1 := dU LN (by omega)
     subst e1
     clear hc HV HN hq' hq hs hs2 hn LN LY HT
     go_wp2_with fail
     refine (dU CE _ (Below.refl _ _)).mono ?_
     rintro r w2 ⟨rfl, b2⟩
     have hb2 := bT hb b2
     clear CE b2 c0 c1 c2 hb
     go_wp2
     go_ret
     exact ⟨rfl, hb2⟩
    ·rw [lft_yes hn] at CE
     have e1 : Hid (q - (sizStore m : Int) = left - (rs.length : Int) - (sumS ((rs.map Ps.m).take (k + 1)) : Int)) := by rw [Hid, hs]; omega
     have q0' : 0 ≤ q - (sizStore m : Int) := by omega
     have q1' : q - (sizStore m : Int) ≤ 1048576 := by omega
     generalize q - (sizStore m : Int) = q' at *
     have hd' : ¬ q' < 0 := by omega
     clear hc hq' hq hs hs2 hn HT
     go_wp2_with fail
     refine (dU CE _ (Below.refl _ _)).mono ?_
     rintro r w2 ⟨rfl, b2⟩
     have hb2 := bT hb b2
     clear CE b2 c0 c1 c2 hb
     go_wp2
     go_roundw
     case rel => exact ⟨k + 1, q', by go_num, rfl, by omega, q0', q1', e1, hb2⟩
     case measure => simp [intOf]; omega
   ·have e1 : (rs.map Ps.m).take k = rs.map Ps.m := List.take_of_length_le (by rw [List.length_map]; omega)
    have hq' := dU hq
    rw [e1] at hq'
    have e2 := dU LY (by omega)
    have e3 : Hid (q = M) := by rw [Hid, e2, hq']; omega
    clear hq hq' e1 e2 LN LY HV HN HT
    go_wp2
    go_ret
    exact ⟨by rw [← dU e3]; rfl, hb⟩
set_option maxHeartbeats 4000000 in
theorem eqStoreS_ (u v : Value) (ms : List St) (w : World) (hu : RdStoreS u ms w) (hv : RdStoreS v ms w) :
  Calls Tryz.prog 41 #[u, v] w fun e w' => e = .returned (.bool true) ∧ Below w.heap.size w w' := by
 obtain ⟨rs, e1, hr, hn⟩ := hu
 obtain ⟨ss, e2, hs, hp⟩ := hv
 have el : rs.length = ss.length := by rw [← List.length_map (f := Ps.m), e1, ← e2, List.length_map]
 have em : Hid (∀ k (h : k < rs.length) (h' : k < ss.length), rs[k].m = ss[k].m) := fun k h h' => by
  have q1 : (rs.map Ps.m)[k]? = (ss.map Ps.m)[k]? := by rw [e1, e2]
  rw [List.getElem?_map, List.getElem?_map, List.getElem?_eq_getElem h, List.getElem?_eq_getElem h'] at q1
  simpa using q1
 have HU := dH fun W (hb : Below w.heap.size w W) => hr.below hb
 have HV := dH fun W (hb : Below w.heap.size w W) => hs.below hb
 have HN := dH fun W (hb : Below w.heap.size w W) k (hk : k < rs.length) => (hn _ (List.getElem_mem hk)).below hb
 have HP := dH fun W (hb : Below w.heap.size w W) k (hk : k < ss.length) => (hp _ (List.getElem_mem hk)).below hb
 obtain ⟨h0, a, cap, rfl, -, -⟩ := hr
 obtain ⟨h0', a', cap', rfl, -, -⟩ := hs
 rw [← el]
 have EL := dH el
 clear hn hp e1 e2 el h0'
 go_enter Tryz.func41, Tryz.ntmps41
 go_wp2
 go_loopw [5] (fun i wr => ∃ k : Nat, i = .int .i64 (k : Int) ∧ k ≤ rs.length ∧ Below w.heap.size w wr) (fun i _ => rs.length - (intOf i).toNat)
 case atStart => exact ⟨0, rfl, Nat.zero_le _, Below.refl _ _⟩
 case round =>
  obtain ⟨k, rfl, hk, hb⟩ := hrel
  by_cases hlt : (k : Int) < (rs.length : Int)
  ·have hkl : k < rs.length := by omega
   have hkl' : k < ss.length := by rw [← dU EL]; exact hkl
   obtain ⟨b, off, rfl, hc⟩ := (dU HU wr hb).ps hkl
   obtain ⟨b', off', rfl, hc'⟩ := (dU HV wr hb).ps hkl'
   have E1 := dH (hc k hkl)
   have E2 := dH (hc' k hkl')
   obtain ⟨c0, c1, c2⟩ := hc k hkl
   obtain ⟨e0, e1, e2⟩ := hc' k hkl'
   have CE := dH fun W (hB : Below wr.heap.size wr W) => eqStore_ (psVal rs[k]) (psVal ss[k]) rs[k].m W (dU HN W (bT hb hB) k hkl) (by rw [dU em k hkl hkl']; exact dU HP W (bT hb hB) k hkl')
   unfold psVal at CE
   generalize rs[k] = y at *
   generalize ss[k] = y' at *
   obtain ⟨ya, yc, yb, yd, m⟩ := y
   obtain ⟨za, zc, zb, zd, m'⟩ := y'
   unfold PsAt at E1 E2
   simp only at *
   generalize m.kept.length = n1 at *
   generalize m.late.length = n2 at *
   generalize m.lock = n3 at *
   generalize m'.kept.length = n4 at *
   generalize m'.late.length = n5 at *
   generalize m'.lock = n6 at *
   have KB : Hid (∀ W, Below wr.heap.size wr W → (W.cell? ⟨b, off + k * 3, none⟩ = some (.slice ya n1 yc) ∧ W.cell? ⟨b, off + k * 3 + 1, none⟩ = some (.slice yb n2 yd) ∧ W.cell? ⟨b, off + k * 3 + 2, none⟩ = some (.int .i64 n3)) ∧ W.cell? ⟨b', off' + k * 3, none⟩ = some (.slice za n4 zc) ∧ W.cell? ⟨b', off' + k * 3 + 1, none⟩ = some (.slice zb n5 zd) ∧ W.cell? ⟨b', off' + k * 3 + 2, none⟩ = some (.int .i64 n6)) := fun W hB => by
    have cb : ∀ {bb oo : Nat} {vv : Value}, wr.cell? ⟨bb, oo, none⟩ = some vv → W.cell? ⟨bb, oo, none⟩ = some vv := fun {bb oo vv} h => (hB.cell (p := ⟨bb, oo, none⟩) (dCell_lt h)).trans h
    exact ⟨⟨cb c0, cb c1, cb c2⟩, cb e0, cb e1, cb e2⟩
   clear hc hc' HU HV HN HP em E1 E2
   have hbr : Below wr.heap.size wr wr.drew := (Below.refl _ _).drew
   go_wp2_with fail
   go_region_held3 (fun W => (W.cell? ⟨b, off + k * 3, none⟩ = some (.slice ya n1 yc) ∧ W.cell? ⟨b, off + k * 3 + 1, none⟩ = some (.slice yb n2 yd) ∧ W.cell? ⟨b, off + k * 3 + 2, none⟩ = some (.int .i64 n3)) ∧ W.cell? ⟨b', off' + k * 3, none⟩ = some (.slice za n4 zc) ∧ W.cell? ⟨b', off' + k * 3 + 1, none⟩ = some (.slice zb n5 zd) ∧ W.cell? ⟨b', off' + k * 3 + 2, none⟩ = some (.int .i64 n6)) (first | exact dU KB _ hb5 | go_keep)
    (first
     | (go_at_call 85; refine (dU CE _ hbr).mono ?_; rintro r w5 ⟨rfl, b5⟩; have hb5 := bT hbr b5))
   all_goals
    go_wp2
    go_roundw
    case rel => exact ⟨k + 1, by go_num, by omega, bT hb hb5⟩
    case measure => simp [intOf]; omega
  ·clear HU HV HN HP em
   go_wp2
   go_ret
   exact ⟨rfl, hb⟩
structure Pd (n : Nat) (μ : Type) where
 c : List Value
 l : c.length = n
 m : μ
section
variable {n : Nat} {μ : Type} {w w' wr w2 : World} {b off k lo hi : Nat}
def Pd.val (p : Pd n μ) : Value := .agg p.c.toArray
theorem Pd.len (p : Pd n μ) : p.c.length = n := p.l
def RdD (n : Nat) (Rd : Value → μ → World → Prop) (v : Value) (ms : List μ) (W : World) : Prop := ∃ rs : List (Pd n μ), rs.map Pd.m = ms ∧ Rw n Pd.c W v rs ∧ ∀ p ∈ rs, Rd p.val p.m W
theorem RdD.below {Rd : Value → μ → World → Prop} (hR : ∀ {v : Value} {m : μ} {W W' : World}, Rd v m W → Below W.heap.size W W' → Rd v m W') {v : Value} {ms : List μ} {W W' : World} (h : RdD n Rd v ms W) (b : Below W.heap.size W W') : RdD n Rd v ms W' := by
 obtain ⟨rs, h1, h2, h3⟩ := h
 exact ⟨rs, h1, h2.below b, fun p hp => hR (h3 p hp) b⟩
theorem formD {Rd : Value → μ → World → Prop} {v : Value} {ms : List μ} {W : World} (h : RdD n Rd v ms W) : ∃ a cap, v = .slice a ms.length cap ∧ ms.length ≤ 9223372036854775807 := by
 obtain ⟨rs, rfl, ⟨h0, a, cap, rfl, -, -⟩, -⟩ := h
 exact ⟨a, cap, by simp, by simpa using h0⟩
theorem Rw.pd {a : Option Addr} {m cap : Nat} {rs : List (Pd n μ)} (h : Rw n Pd.c w (.slice a m cap) rs) (hk : k < rs.length) : ∃ b off, a = some ⟨b, off, none⟩ ∧ ∀ i (hi : i < rs.length) j u, rs[i].c[j]? = some u → w.cell? ⟨b, off + i * n + j, none⟩ = some u := by
 obtain ⟨-, a', cap', e, -, h⟩ := h
 cases e
 obtain ⟨b, off, rfl, hc⟩ := orR_of_lt h hk
 exact ⟨b, off, rfl, hc⟩
def OwD (n : Nat) (Ow : Nat → Nat → Value → μ → World → Prop) (lo hi : Nat) (v : Value) (ms : List μ) (W : World) : Prop :=
 ∃ (rs : List (Pd n μ)) (s : Nat → Nat), rs.map Pd.m = ms ∧ OwnRw n Pd.c W lo v rs ∧ (rs = [] ∨ bO v < s 0) ∧ Spn s rs.length lo hi ∧ ∀ i (h : i < rs.length), Ow (s i) (s (i + 1)) rs[i].val rs[i].m W
theorem OwD.rd {Rd : Value → μ → World → Prop} {Ow : Nat → Nat → Value → μ → World → Prop} (hR : ∀ {lo hi : Nat} {v : Value} {m : μ} {W : World}, Ow lo hi v m W → Rd v m W) {v : Value} {ms : List μ} {W : World} (h : OwD n Ow lo hi v ms W) : RdD n Rd v ms W := by
 obtain ⟨rs, s, h1, h2, -, -, h3⟩ := h
 refine ⟨rs, h1, h2.rw, fun p hp => ?_⟩
 obtain ⟨i, hi, rfl⟩ := List.getElem_of_mem hp
 exact hR (h3 i hi)
theorem OwnRw.sitsD {α : Type} {sz : Nat} {cl : α → List Value} {W W' : World} {v : Value} {rs : List α} (h : OwnRw sz cl W lo v rs) (hl : rs = [] ∨ bO v < hi) (hW : ∀ k, lo ≤ k → k < hi → W'.heap[k]? = W.heap[k]?) : OwnRw sz cl W' lo v rs := by
 obtain ⟨h0, a, cap, rfl, hcap, h⟩ := h
 refine ⟨h0, a, cap, rfl, hcap, ?_⟩
 rcases hl with hl | hl
 ·exact .inl hl
 ·rcases h with h | ⟨b, off, rfl, hb, hc⟩
  ·exact .inl h
  ·have e := hW b hb hl
   exact .inr ⟨b, off, rfl, hb, fun i hi j u hu => ⟨(World.cell?_of_block (a := ⟨b, off + i * sz + j, none⟩) e).trans (hc i hi j u hu).1, (World.frozen?_of_block (a := ⟨b, off + i * sz + j, none⟩) e).trans (hc i hi j u hu).2⟩⟩
def SitsOf (Ow : Nat → Nat → Value → μ → World → Prop) : Prop := ∀ {lo hi : Nat} {v : Value} {m : μ} {w : World}, Ow lo hi v m w → hi ≤ w.heap.size → Sits (Ow lo hi v m) lo hi w
theorem OwD.sits {Ow : Nat → Nat → Value → μ → World → Prop} (hS : SitsOf Ow) {v : Value} {ms : List μ} (h : OwD n Ow lo hi v ms w) (hf : hi ≤ w.heap.size) : Sits (OwD n Ow lo hi v ms) lo hi w := by
 obtain ⟨rs, s, h1, h2, h3, h4, h5⟩ := h
 refine ⟨hf, fun W hW => ⟨rs, s, h1, h2.sitsD (hi := hi) ?_ hW, h3, h4, fun i hi' => ?_⟩⟩
 ·rcases h3 with h | h
  ·exact .inl h
  ·have := h4.hi 0 (Nat.zero_le _)
   exact .inr (by omega)
 ·have a1 := h4.lo i (by omega)
  have a2 := h4.hi (i + 1) (by omega)
  exact (hS (h5 i hi') (by omega)).all W fun k k1 k2 => hW k (by omega) (by omega)
theorem OwD.up {Ow : Nat → Nat → Value → μ → World → Prop} {hi' : Nat} {v : Value} {ms : List μ} (h : OwD n Ow lo hi v ms w) (hh : hi ≤ hi') : OwD n Ow lo hi' v ms w := by
 obtain ⟨rs, s, h1, h2, h3, h4, h5⟩ := h
 exact ⟨rs, s, h1, h2, h3, ⟨h4.1, h4.2.1, Nat.le_trans h4.2.2 hh⟩, h5⟩
theorem OwStoreS.up {hi' : Nat} {v : Value} {ms : List St} (h : OwStoreS lo hi v ms w) (hh : hi ≤ hi') : OwStoreS lo hi' v ms w := by
 obtain ⟨rs, s, h1, h2, h3, h4, h5⟩ := h
 exact ⟨rs, s, h1, h2, h3, ⟨h4.1, h4.2.1, Nat.le_trans h4.2.2 hh⟩, h5⟩
def sumPd (f : μ → Nat) (ms : List μ) : Nat := (ms.map f).sum
theorem sumPd_take (f : μ → Nat) (ms : List μ) (k : Nat) (h : k < ms.length) : sumPd f (ms.take (k + 1)) = sumPd f (ms.take k) + f ms[k] := by
 unfold sumPd
 rw [List.take_succ_eq_append_getElem h, List.map_append, List.sum_append, List.map_cons, List.map_nil, List.sum_cons, List.sum_nil, Nat.add_zero]
theorem sumPd_le (f : μ → Nat) (ms : List μ) (k : Nat) : sumPd f (ms.take k) ≤ sumPd f ms := by
 unfold sumPd
 conv => rhs; rw [← List.take_append_drop k ms, List.map_append, List.sum_append]
 exact Nat.le_add_right _ _
theorem sumPd_mem (f : μ → Nat) {ms : List μ} {k : Nat} (h : k < ms.length) : f ms[k] ≤ sumPd f ms := by
 have h1 := sumPd_take f ms k h
 have h2 := sumPd_le f ms (k + 1)
 omega
def sizD (f : μ → Nat) (ms : List μ) : Nat := ms.length + sumPd f ms
def setAll (b o : Nat) : Nat → List Value → World → World
 | _, [], w => w
 | j, u :: us, w => setAll b o (j + 1) us (w.setCell ⟨b, o + j, none⟩ u)
theorem setAll_size (b o : Nat) : ∀ (us : List Value) (j : Nat) (w : World), (setAll b o j us w).heap.size = w.heap.size
 | [], _, _ => rfl
 | u :: us, j, w => by rw [setAll, setAll_size b o us]; simp
theorem setAll_block (b o : Nat) {x : Nat} (h : x ≠ b) : ∀ (us : List Value) (j : Nat) (w : World), (setAll b o j us w).heap[x]? = w.heap[x]?
 | [], _, _ => rfl
 | u :: us, j, w => by rw [setAll, setAll_block b o h us]; exact Below.heap_setCell _ _ _ x (by simp only; omega)
theorem RowG.like {f g : Nat → Pd n μ} {N : Nat} (h : RowG n Pd.c w b off N f) (hf : ∀ i, i < N → (g i).c = (f i).c) : RowG n Pd.c w b off N g := fun i hi j u hu => h i hi j u (by rw [← hf i hi]; exact hu)
theorem set_take {α : Type} (l : List α) (j : Nat) (u : α) (h : j < l.length) : (l.set j u).take (j + 1) = l.take j ++ [u] := by
 rw [List.take_succ_eq_append_getElem (by simpa using h), List.getElem_set_self, List.take_set_of_le (Nat.le_refl _)]
theorem RowG.putAll {N : Nat} (hk : k < N) (e : Pd n μ) : ∀ (us : List Value) (j : Nat) (w : World) (f : Nat → Pd n μ), RowG n Pd.c w b off N f → j + us.length = n → (f k).c.take j ++ us = e.c → RowG n Pd.c (setAll b (off + k * n) j us w) b off N (putG f k e)
 | [], j, w, f, h, hj, he => by
  refine h.like fun i hi => ?_
  by_cases e1 : i = k
  ·subst e1
   rw [putG_same, ← he, List.append_nil, List.take_of_length_le (by rw [(f i).l]; simp at hj; omega)]
  ·rw [putG_ne _ _ e1]
 | u :: us, j, w, f, h, hj, he => by
  have hjn : j < n := by simp at hj; omega
  have q := h.put Pd.len hk j hjn u ⟨(f k).c.set j u, by rw [List.length_set]; exact (f k).l, e.m⟩ rfl
  have r := RowG.putAll hk e us (j + 1) _ _ q (by simp at hj; omega) (by rw [putG_same]; show ((f k).c.set j u).take (j + 1) ++ us = e.c; rw [set_take _ _ _ (by rw [(f k).l]; exact hjn), List.append_assoc]; exact he)
  rw [putG_twice] at r
  exact r
def CopD (Ow : Nat → Nat → Value → μ → World → Prop) (wr : World) (b : Nat) (rs : List (Pd n μ)) (k : Nat) (f : Nat → Pd n μ) (s : Nat → Nat) : Prop :=
 RowG n Pd.c wr b 0 rs.length f ∧ Spn s k (b + 1) wr.heap.size ∧ ∀ i (h : i < rs.length), i < k → (f i).m = rs[i].m ∧ Ow (s i) (s (i + 1)) (f i).val (f i).m wr
theorem CopD.step {Ow : Nat → Nat → Value → μ → World → Prop} (hS : SitsOf Ow) (hwd : ∀ {lo lo' hi : Nat} {v : Value} {m : μ} {w : World}, Ow lo hi v m w → lo' ≤ lo → Ow lo' hi v m w) {rs : List (Pd n μ)} {f : Nat → Pd n μ} {s : Nat → Nat} (h : CopD Ow wr b rs k f s) (hk : k < rs.length) (hb2 : Below wr.heap.size wr w2) (hbw : b < wr.heap.size) (e : Pd n μ) (he : e.m = rs[k].m) (ho : Ow wr.heap.size w2.heap.size e.val e.m w2) :
  CopD Ow (setAll b (0 + k * n) 0 e.c w2) b rs (k + 1) (putG f k e) (fun i => if i ≤ k then s i else w2.heap.size) := by
 obtain ⟨h1, h2, h3⟩ := h
 have hsz := hb2.size
 have far : ∀ {lo hi : Nat} {v : Value} {m : μ}, Ow lo hi v m w2 → hi ≤ w2.heap.size → b < lo → Ow lo hi v m (setAll b (0 + k * n) 0 e.c w2) := fun {lo hi v m} q hf hb => (hS q hf).all _ fun x h1 h2 => setAll_block b _ (by omega) _ _ _
 have hsk : s k ≤ wr.heap.size := h2.2.2
 refine ⟨RowG.putAll hk e e.c 0 w2 f (h1.below hb2) (by rw [Nat.zero_add]; exact e.l) (by simp), ⟨?_, fun i hi => ?_, ?_⟩, fun i hi hik => ?_⟩
 ·simpa using h2.1
 ·show (if i ≤ k then s i else w2.heap.size) ≤ (if i + 1 ≤ k then s (i + 1) else w2.heap.size)
  rcases Nat.lt_or_ge i k with h | h
  ·have := h2.2.1 i h
   rw [if_pos (by omega), if_pos (by omega)]
   exact this
  ·obtain rfl : i = k := by omega
   rw [if_pos (Nat.le_refl _), if_neg (by omega)]
   omega
 ·show (if k + 1 ≤ k then s (k + 1) else w2.heap.size) ≤ _
  rw [if_neg (by omega), setAll_size]
  exact Nat.le_refl _
 ·show _ ∧ Ow (if i ≤ k then s i else w2.heap.size) (if i + 1 ≤ k then s (i + 1) else w2.heap.size) _ _ _
  by_cases e1 : i = k
  ·subst e1
   rw [putG_same, if_pos (Nat.le_refl _), if_neg (by omega)]
   have hlo := h2.lo i (Nat.le_refl _)
   exact ⟨he, far (hwd ho hsk) (Nat.le_refl _) (by omega)⟩
  ·rw [putG_ne _ _ e1, if_pos (by omega), if_pos (by omega)]
   have q := h3 i hi (by omega)
   have a1 := h2.lo i (by omega)
   have a2 := h2.hi (i + 1) (by omega)
   exact ⟨q.1, far ((hS q.2 a2).below hb2).now (by omega) (by omega)⟩
theorem CopD.start {Ow : Nat → Nat → Value → μ → World → Prop} (w : World) (zc : Array Value) (rs : List (Pd n μ)) (T : TypeId) (z : Pd n μ) (hz : zc.size = n) (hc : z.c = zc.toList) : CopD Ow (w.alloc (.cells (madeCells zc (rs.length * n)) T)) w.heap.size rs 0 (fun _ => z) (fun _ => w.heap.size + 1) :=
 ⟨RowG.made w zc rs.length T z hz (fun j u hu => by rw [hc] at hu; simpa using hu), ⟨Nat.le_refl _, fun i h => Nat.le_refl _, by simp⟩, fun i h h' => by omega⟩
theorem CopD.done {Ow : Nat → Nat → Value → μ → World → Prop} (hS : SitsOf Ow) {rs : List (Pd n μ)} {f : Nat → Pd n μ} {s : Nat → Nat} (h : CopD Ow wr b rs rs.length f s) (hl : rs.length ≤ 9223372036854775807) : Sits (OwD n Ow b wr.heap.size (.slice (some ⟨b, 0, none⟩) rs.length rs.length) (rs.map Pd.m)) b wr.heap.size wr := by
 obtain ⟨h1, h2, h3⟩ := h
 have hl' : ((List.range rs.length).map f).length = rs.length := by simp
 have hq := h1.own (es := (List.range rs.length).map f) (base := b) (cap := rs.length) hl'.symm (fun i hi => by simp) (Nat.le_refl _) (by omega) (by omega)
 rw [hl'] at hq
 refine OwD.sits hS ⟨(List.range rs.length).map f, s, ?_, hq, .inr ?_, ?_, fun i hi => ?_⟩ (Nat.le_refl _)
 ·apply List.ext_getElem
  ·simp
  ·intro i q1 q2
   have q3 : i < rs.length := by simpa using q1
   simp [(h3 i q3 q3).1]
 ·exact h2.1
 ·rw [hl']
  exact ⟨by have := h2.1; omega, h2.2.1, h2.2.2⟩
 ·have q3 : i < rs.length := by simpa using hi
  have e1 : ((List.range rs.length).map f)[i] = f i := by simp
  rw [e1]
  exact (h3 i q3 q3).2
theorem Pd.eq {p : Pd n μ} {cs : Array Value} (h : p.val = .agg cs) : p.c = cs.toList := by
 unfold Pd.val at h
 simp only [Value.agg.injEq] at h
 rw [← h]
end
end Go.Proofs.YtkiclbbialadlaaGreat
