/- Several texts in one: ImpDa, ImpDb, ImpDd, DedP. -/
import Derived.Test.YtodfgehicpejgaaGreatDoorGk186
namespace Go.Proofs.YtodfgehicpejgaaGreatDoor
open Go.ChangeShapes Go.WideShapes Go.ChangeAt Go.RowKit
set_option linter.unusedSimpArgs false
set_option linter.unusedVariables false
set_option maxRecDepth 100000
def dedL (xs : List Int) : List Int := xs.foldl addD []
theorem dedL_take (xs : List Int) (k : Nat) (h : k < xs.length) : dedL (xs.take (k + 1)) = addD (dedL (xs.take k)) xs[k] := by
 rw [dedL, List.take_succ_eq_append_getElem h, List.foldl_append]
 rfl
theorem dedL_len (xs : List Int) (k : Nat) (h : k ≤ xs.length) : (dedL (xs.take k)).length ≤ k := by
 induction k with
 | zero => simp [dedL]
 | succ n ih =>
  rw [dedL_take xs n (by omega)]
  have := addD_len (dedL (xs.take n)) xs[n]
  have := ih (by omega)
  omega
theorem foldl_addD_new (xs : List Int) : ∀ acc : List Int, xs.Nodup → (∀ x ∈ xs, x ∉ acc) → xs.foldl addD acc = acc ++ xs := by
 induction xs with
 | nil => intro acc _ _; simp
 | cons a l ih =>
  intro acc hn hd
  have ha : addD acc a = acc ++ [a] := by
   unfold addD
   rw [if_neg (by simpa using hd a (by simp))]
  rw [List.foldl_cons, ha, ih _ (List.nodup_cons.1 hn).2 (fun x hx => by
   have h1 := hd x (by simp [hx])
   have h2 : x ≠ a := fun e => (List.nodup_cons.1 hn).1 (e ▸ hx)
   simp [h1, h2])]
  simp
theorem dedL_nodup {xs : List Int} (h : xs.Nodup) : dedL xs = xs := by
 have := foldl_addD_new xs [] h (fun x _ => by simp)
 simpa [dedL] using this
set_option maxHeartbeats 2000000 in
theorem setOf_any (v : Value) (xs : List Int) (w : World) (hv : Ns w v xs) (ha : allInt xs) (hl : xs.length ≤ 1048576) :
  Calls Tryz.prog 231 #[v] w fun e w' => e = .returned (.map (some w.heap.size)) ∧ SetN w' w.heap.size (dedL xs) ∧ Below w.heap.size w w' := by
 obtain ⟨h0, a, cap, rfl, -, hv⟩ := hv
 have HV := dH hv
 have HA := dH ha
 clear hv ha
 have hmm := @run_makeMap Tryz.prog
 go_enter Tryz.func231, Tryz.ntmps231
 go_wp2
 go_loopw [9] (fun x wr => ∃ k : Nat, x = .int .i64 (k : Int) ∧ k ≤ xs.length ∧ SetN wr w.heap.size (dedL (xs.take k)) ∧ Below w.heap.size w wr) (fun x _ => xs.length - (intOf x).toNat)
 case atStart => exact ⟨0, rfl, Nat.zero_le _, SetN.made w, (Below.refl _ _).alloc (Nat.le_refl _) _⟩
 case round =>
  obtain ⟨k, rfl, hk, hset, hb⟩ := hrel
  by_cases hlt : (k : Int) < (xs.length : Int)
  ·obtain ⟨b, off, rfl, hc⟩ : ∃ b off, a = some ⟨b, off, none⟩ ∧ ∀ i (h : i < xs.length), w.cell? ⟨b, off + i, none⟩ = some (.int .i64 xs[i]) := orN_of_lt (dU HV) (k := k) (by omega)
   have hkl : k < xs.length := by omega
   have c1 : wr.cell? ⟨b, off + k, none⟩ = some (.int .i64 xs[k]) := (hb.cell (p := ⟨b, off + k, none⟩) (dCell_lt (hc k hkl))).trans (hc k hkl)
   have hz := dH (dU HA xs[k] (List.getElem_mem hkl))
   have e1 := dH (dedL_take xs k hkl)
   have hlen := dedL_len xs k hk
   generalize xs[k] = x at *
   generalize dedL (xs.take k) = L at *
   clear hc HV HA
   go_wp2_with (first
    | (at_mapUpdate; refine wp_setPut _ rfl _ _ _ rfl w.heap.size L x rfl hset rfl (dU hz) rfl (by omega) ?_; intro w1 hset1 hg1)
    | go_in)
   have hb1 : Below w.heap.size w w1 := hb.grown hg1 hb.size (fun j hj => by cases hj; exact Nat.le_refl _)
   clear hset hg1 c1 hb
   go_wp2
   go_roundw
   case rel => exact ⟨k + 1, by go_num, by omega, by rw [dU e1]; exact hset1, hb1⟩
   case measure => simp [intOf]; omega
  ·have e1 : xs.take k = xs := List.take_of_length_le (by omega)
   rw [e1] at hset
   clear e1 HV HA
   go_wp2
   go_ret
   exact ⟨rfl, hset, hb⟩
theorem domsOf_snoc (ds ms : List Int) (x : Int) : domsOf ds (ms ++ [x]) = addD (domsOf ds ms) (domAt ds x) := by
 rw [domsOf, List.map_append, List.foldl_append]
 rfl
theorem domsOf_perm {ds ms xs : List Int} (h : ms.Perm xs) : (domsOf ds ms).Perm (domsOf ds xs) :=
 (List.perm_ext_iff_of_nodup (domsOf_nodup _ _) (domsOf_nodup _ _)).2 fun d => by simp only [mem_domsOf, h.mem_iff]
theorem domsOf_le (ds xs : List Int) : (domsOf ds xs).length ≤ xs.length := by
 have := domsOf_len ds xs xs.length (Nat.le_refl _)
 rwa [List.take_length] at this
set_option maxHeartbeats 2000000 in
theorem domainsOf_any (sv : Value) (b : Nat) (ds xs : List Int) (cop : Int) (w : World) (hd : Ns w sv ds) (hx : SetN w b xs) (hn : nodesP ds cop xs) (hl : xs.length ≤ 1048576) :
  Calls Tryz.prog 230 #[.agg #[sv, .int .i64 cop], .map (some b)] w fun e w' => e = .returned (.map (some (w.heap.size + 1))) ∧ SetN w' (w.heap.size + 1) (domsOf ds xs) ∧ Below w.heap.size w w' := by
 obtain ⟨h0, a, cap, rfl, -, hd⟩ := hd
 have HD := dH hd
 have HN := dH hn
 have hbl := dH hx.lt
 have hh := dH ((hx.alloc (.cells #[.slice a ds.length cap, .int .i64 cop] 26)).alloc (.map #[] 0))
 have hmade := dH (SetN.made (w.alloc (.cells #[.slice a ds.length cap, .int .i64 cop] 26)))
 have hmm := @run_makeMap Tryz.prog
 have e1 : ((w.alloc (.cells #[.slice a ds.length cap, .int .i64 cop] 26)).alloc (.map #[] 0)).heap.size = w.heap.size + 2 := by simp
 have e2 : (w.alloc (.cells #[.slice a ds.length cap, .int .i64 cop] 26)).heap.size = w.heap.size + 1 := by simp
 have E1 := dH e1
 have E2 := dH e2
 have hb00 : Below w.heap.size w ((w.alloc (.cells #[.slice a ds.length cap, .int .i64 cop] 26)).alloc (.map #[] 0)) := ((Below.refl _ _).alloc (Nat.le_refl _) _).alloc (by simp) _
 have HB0 := dH hb00
 have hcc : ((w.alloc (.cells #[.slice a ds.length cap, .int .i64 cop] 26)).alloc (.map #[] 0)).cell? ⟨w.heap.size, 0, none⟩ = some (.slice a ds.length cap) := by simp
 have HCC := dH hcc
 clear hx e1 e2 hd hn hb00 hcc
 go_enter Tryz.func230, Tryz.ntmps230
 go_wp2_with (first
  | (at_range; refine wp_setRange _ rfl _ rfl b xs rfl (dU hh) ?_; intro w0 hrg0 hg0 hs0)
  | go_in)
 go_frame
 rw [dU E1] at hrg0 hs0 ⊢
 have hb0 : Below w.heap.size w w0 := (dU HB0).grown hg0 (by simp; omega) (fun j hj => by cases hj)
 have hset0 := (dU hmade).kept hg0 (by simp)
 rw [dU E2] at hset0
 have hc0 : w0.cell? ⟨w.heap.size, 0, none⟩ = some (.slice a ds.length cap) := (World.cell?_of_block (w' := w0) (a := ⟨w.heap.size, 0, none⟩) (hg0.block w.heap.size (by simp; omega) (by simp))).trans (dU HCC)
 clear hh hmade HB0 HCC
 go_loopw [6] (fun _ wr => ∃ ms, RangeN wr b (w.heap.size + 2) xs ms ∧ SetN wr (w.heap.size + 1) (domsOf ds ms) ∧ wr.cell? ⟨w.heap.size, 0, none⟩ = some (.slice a ds.length cap) ∧ Below w.heap.size w wr) (fun _ wr => wr.rangeLeft b (w.heap.size + 2))
 case atStart => exact ⟨[], hrg0, hset0, hc0, hb0⟩
 case round =>
  obtain ⟨ms, hrg, hset, hbx, hb⟩ := hrel
  clear hrg0 hg0 hs0 hb0 hset0 hc0
  have hml := dH hrg
  go_wp2_with (first
   | (at_next; refine wp_setNext _ rfl _ rfl b (w.heap.size + 2) xs ms rfl hrg ?_ ?_)
   | go_in)
  ·intro hp
   have hset' := dH (hset.perm (domsOf_perm hp))
   clear hp hset hml
   go_wp2
   go_ret
   exact ⟨rfl, dU hset', hb⟩
  ·intro x w1 hx hxm hrg1 hlt hg1 hen
   have hb1 : Below w.heap.size w w1 := hb.grown hg1 hb.size (fun j hj => by cases hj; omega)
   have hset1 := hset.kept hg1 (by simp)
   have hbx1 : w1.cell? ⟨w.heap.size, 0, none⟩ = some (.slice a ds.length cap) := (World.cell?_of_block (w' := w1) (a := ⟨w.heap.size, 0, none⟩) (hg1.block w.heap.size (dCell_lt hbx) (by simp))).trans hbx
   have HL := dH hlt
   have HR := dH hrg1
   have hlen := len_le_of_sub (dU hml).2.2.1 xs (dU hml).2.2.2.1
   have hlen2 := domsOf_le ds ms
   have hlen3 : (domsOf ds ms).length ≤ 1048576 := Nat.le_trans hlen2 (Nat.le_trans hlen hl)
   have HS := dH (domsOf_snoc ds ms x)
   obtain ⟨k, hkl, hk⟩ := List.getElem_of_mem hx
   obtain ⟨i, d, e1, hil, e2, hd8, e3⟩ := domAt_in (dU HN) k hkl
   obtain ⟨b', off, rfl, hc⟩ : ∃ b off, a = some ⟨b, off, none⟩ ∧ ∀ i (h : i < ds.length), w.cell? ⟨b, off + i, none⟩ = some (.int .i64 ds[i]) := orN_of_lt (dU HD) (k := i) hil
   have c2 : w1.cell? ⟨b', off + i, none⟩ = some (.int .i64 (d : Int)) := by rw [← e2]; exact (hb1.cell (p := ⟨b', off + i, none⟩) (dCell_lt (hc i hil))).trans (hc i hil)
   obtain rfl : x = (i : Int) := by rw [← hk, e1]
   rw [hk] at e3
   rw [e3] at HS
   have i1 : (0 : Int) ≤ (i : Int) := by omega
   have i2 : (i : Int) < (ds.length : Int) := by omega
   generalize domsOf ds ms = L at *
   clear hx hxm hrg hg1 hb hlt hrg1 hset hml hlen hlen2 hk e1 e2 e3 hc HD HN hbx
   go_wp2_with (first
    | (at_mapUpdate; refine wp_setPut _ rfl _ _ _ rfl (w.heap.size + 1) L (d : Int) rfl hset1 rfl (by omega) rfl (by omega) ?_; intro w3 hset3 hg3; go_frame)
    | go_in)
   have hne1 : some b ≠ some (w.heap.size + 1) := fun e => by have := Option.some.inj e; have := dU hbl; omega
   have hne2 : some (w.heap.size + 2) ≠ some (w.heap.size + 1) := fun e => by have := Option.some.inj e; omega
   have hrg3 := (dU HR).kept hg3 hne1 hne2
   have HL3 := (dU HR).left_kept hg3 hne1 hne2
   have hbx3 := (World.cell?_of_block (w' := w3) (a := ⟨w.heap.size, 0, none⟩) (hg3.block w.heap.size (dCell_lt hbx1) (by simp))).trans hbx1
   have hb3 : Below w.heap.size w w3 := hb1.grown hg3 hb1.size (fun j hj => by cases hj; omega)
   go_roundw
   case rel => exact ⟨_, hrg3, by rw [dU HS]; exact hset3, hbx3, hb3⟩
   case measure => rw [HL3]; exact dU HL
set_option maxHeartbeats 2000000 in
theorem ascBelow_any (v : Value) (xs : List Int) (n : Int) (w : World) (hv : Ns w v xs) :
  Calls Tryz.prog 140 #[v, .int .i64 n] w fun e w' => RetB (ascP xs 0 (n - 1)) e ∧ w' = w := by
 obtain ⟨h0, a, cap, rfl, -, hv⟩ := hv
 have HV := dH hv
 clear hv
 go_enter Tryz.func140, Tryz.ntmps140
 go_wp2
 go_loop [5, 10] (fun l x => ∃ (k : Nat) (p : Int), l = .int .i64 p ∧ x = .int .i64 (k : Int) ∧ k ≤ xs.length ∧ -1 ≤ p ∧ Hid ((k = 0 → p = -1) ∧ ∀ (h : k - 1 < xs.length), 0 < k → p = xs[k - 1]) ∧ Hid (∀ i (h : i < xs.length), i < k → 0 ≤ xs[i] ∧ xs[i] ≤ n - 1 ∧ ∀ (h' : 0 < i), xs[i - 1]'(by omega) < xs[i])) (fun _ x => xs.length - (intOf x).toNat)
 case atStart => exact ⟨0, -1, rfl, rfl, Nat.zero_le _, by omega, ⟨fun _ => rfl, fun h h' => by omega⟩, fun i h h' => by omega⟩
 case round =>
  obtain ⟨k, p, rfl, rfl, hk, hp1, hp, hinv⟩ := hrel
  by_cases hlt : (k : Int) < (xs.length : Int)
  ·obtain ⟨b, off, rfl, hc⟩ : ∃ b off, a = some ⟨b, off, none⟩ ∧ ∀ i (h : i < xs.length), w.cell? ⟨b, off + i, none⟩ = some (.int .i64 xs[i]) := orN_of_lt (dU HV) (k := k) (by omega)
   have hkl : k < xs.length := by omega
   have c1 := hc k hkl
   obtain ⟨x, hx⟩ : ∃ x, xs[k] = x := ⟨_, rfl⟩
   have HX := dH hx
   rw [hx] at c1
   clear hx hc HV
   by_cases hle : x ≤ p
   ·have hno : Hid (¬ ascP xs 0 (n - 1)) := fun h => by
     have h1 := h k hkl
     rw [dU HX] at h1
     rcases Nat.eq_zero_or_pos k with hk0 | hk0
     ·have := (dU hp).1 hk0
      omega
     ·have h2 := h1.2.2 hk0
      have h3 := (dU hp).2 (by omega) hk0
      omega
    have hd : decide (x ≤ p) = true := decide_eq_true hle
    clear hinv hp HX hp1
    go_wp2
    go_ret
    exact ⟨RetB.no (dU hno), rfl⟩
   ·have hd : decide (x ≤ p) = false := decide_eq_false hle
    by_cases hge : n ≤ x
    ·have hno : Hid (¬ ascP xs 0 (n - 1)) := fun h => by
      have h1 := h k hkl
      rw [dU HX] at h1
      omega
     have hd2 : decide (n ≤ x) = true := decide_eq_true hge
     clear hinv hp HX hp1
     go_wp2
     go_ret
     exact ⟨RetB.no (dU hno), rfl⟩
    ·have hd2 : decide (n ≤ x) = false := decide_eq_false hge
     have hst : Hid (∀ i (h : i < xs.length), i < k + 1 → 0 ≤ xs[i] ∧ xs[i] ≤ n - 1 ∧ ∀ (h' : 0 < i), xs[i - 1]'(by omega) < xs[i]) := fun i h h' => by
      rcases Nat.lt_or_ge i k with hlt' | hge'
      ·exact dU hinv i h hlt'
      ·obtain rfl : i = k := by omega
       have h1 := dU HX
       refine ⟨by omega, by omega, fun h' => ?_⟩
       have h3 := (dU hp).2 (by omega) h'
       omega
     have hpx : Hid (((k + 1 : Nat) = 0 → x = -1) ∧ ∀ (h : k + 1 - 1 < xs.length), 0 < k + 1 → x = xs[k + 1 - 1]) := ⟨fun h => by omega, fun h h' => by simp only [Nat.add_sub_cancel]; exact (dU HX).symm⟩
     have hx1 : -1 ≤ x := by omega
     clear hinv hp HX hp1
     go_wp2
     go_round
     case rel => exact ⟨k + 1, x, rfl, by go_num, by omega, hx1, hpx, hst⟩
     case measure => simp [intOf]; omega
  ·have hyes : Hid (ascP xs 0 (n - 1)) := fun i h => dU hinv i h (by omega)
   clear hinv HV hp
   go_wp2
   go_ret
   exact ⟨RetB.yes (dU hyes), rfl⟩
set_option maxHeartbeats 2000000 in
theorem implCfg_any (sv : Value) (ds : List Int) (cop : Int) (w : World) (hv : Ns w sv ds) (ha : allInt ds) (hl : ds.length ≤ 1048576) (c0 : -9223372036854775808 ≤ cop) (c1 : cop ≤ 9223372036854775807) :
  Calls Tryz.prog 8 #[.agg #[sv, .int .i64 cop]] w fun e w' => RetB (cfgP ds cop) e ∧ Below w.heap.size w w' := by
 obtain ⟨h0, a, cap, rfl, -, hv⟩ := hv
 have HV := dH hv
 clear hv ha
 have hb0 : ∀ o, Below w.heap.size w (w.alloc o) := fun o => (Below.refl _ _).alloc (Nat.le_refl _) o
 by_cases h1 : (ds.length : Int) < 1
 ·have hno : Hid (¬ cfgP ds cop) := fun h => by have := h.1; omega
  have hd : decide ((ds.length : Int) < 1) = true := decide_eq_true h1
  clear h1 HV
  go_enter Tryz.func8, Tryz.ntmps8
  go_wp2
  go_ret
  exact ⟨RetB.no (dU hno), hb0 _⟩
 ·have hd : decide ((ds.length : Int) < 1) = false := decide_eq_false h1
  by_cases h2 : (8 : Int) < (ds.length : Int)
  ·have hno : Hid (¬ cfgP ds cop) := fun h => by have := h.1; omega
   have hd2 : decide ((8 : Int) < (ds.length : Int)) = true := decide_eq_true h2
   clear h1 HV
   go_enter Tryz.func8, Tryz.ntmps8
   go_wp2
   go_ret
   exact ⟨RetB.no (dU hno), hb0 _⟩
  ·have hd2 : decide ((8 : Int) < (ds.length : Int)) = false := decide_eq_false h2
   go_enter Tryz.func8, Tryz.ntmps8
   go_wp2
   go_loopw [18] (fun x wr => ∃ k : Nat, x = .int .i64 (k : Int) ∧ k ≤ ds.length ∧ Hid (∀ i (h : i < ds.length), i < k → 0 ≤ ds[i] ∧ ds[i] ≤ 7) ∧ wr.cell? ⟨w.heap.size, 1, none⟩ = some (.int .i64 cop) ∧ Below w.heap.size w wr) (fun x _ => ds.length - (intOf x).toNat)
   case atStart => exact ⟨0, rfl, Nat.zero_le _, (fun i h h' => by omega), by simp, hb0 _⟩
   case round =>
    obtain ⟨k, rfl, hk, hinv, hbx, hb⟩ := hrel
    by_cases hlt : (k : Int) < (ds.length : Int)
    ·obtain ⟨b, off, rfl, hc⟩ : ∃ b off, a = some ⟨b, off, none⟩ ∧ ∀ i (h : i < ds.length), w.cell? ⟨b, off + i, none⟩ = some (.int .i64 ds[i]) := orN_of_lt (dU HV) (k := k) (by omega)
     have hkl : k < ds.length := by omega
     have e1 : wr.cell? ⟨b, off + k, none⟩ = some (.int .i64 ds[k]) := (hb.cell (p := ⟨b, off + k, none⟩) (dCell_lt (hc k hkl))).trans (hc k hkl)
     obtain ⟨x, hx⟩ : ∃ x, ds[k] = x := ⟨_, rfl⟩
     have HX := dH hx
     rw [hx] at e1
     clear hx hc
     by_cases hin : x < 0
     ·have hno : Hid (¬ cfgP ds cop) := fun h => by
       have := h.2.2 k hkl
       rw [dU HX] at this
       omega
      have hd3 : decide (x < 0) = true := decide_eq_true hin
      clear hin hinv HX HV h1 h2
      go_wp2
      go_ret
      exact ⟨RetB.no (dU hno), hb⟩
     ·have hd3 : decide (x < 0) = false := decide_eq_false hin
      by_cases hin2 : 7 < x
      ·have hno : Hid (¬ cfgP ds cop) := fun h => by
        have := h.2.2 k hkl
        rw [dU HX] at this
        omega
       have hd4 : decide (7 < x) = true := decide_eq_true hin2
       clear hin hin2 hinv HX HV h1 h2
       go_wp2
       go_ret
       exact ⟨RetB.no (dU hno), hb⟩
      ·have hd4 : decide (7 < x) = false := decide_eq_false hin2
       have hst : Hid (∀ i (h : i < ds.length), i < k + 1 → 0 ≤ ds[i] ∧ ds[i] ≤ 7) := fun i h h' => by
        rcases Nat.lt_or_ge i k with hlt' | hge
        ·exact dU hinv i h hlt'
        ·obtain rfl : i = k := by omega
         rw [dU HX]
         omega
       clear hin hin2 hinv HX HV h1 h2
       go_wp2
       go_roundw
       case rel => exact ⟨k + 1, by go_num, by omega, hst, hbx, hb⟩
       case measure => simp [intOf]; omega
    ·have hall : Hid (∀ i (h : i < ds.length), 0 ≤ ds[i] ∧ ds[i] ≤ 7) := fun i h => dU hinv i h (by omega)
     by_cases h3 : 1 ≤ cop
     ·have hd3 : decide (1 ≤ cop) = true := decide_eq_true h3
      have R : RetB (cfgP ds cop) (.returned (.bool (decide (cop ≤ 4)))) := ⟨_, rfl, fun h => ⟨by omega, ⟨h3, of_decide_eq_true h⟩, dU hall⟩, fun h => decide_eq_true h.2.1.2⟩
      clear hinv HV hall h1 h2
      go_wp2
      go_ret
      exact ⟨R, hb⟩
     ·have hd3 : decide (1 ≤ cop) = false := decide_eq_false h3
      have R : RetB (cfgP ds cop) (.returned (.bool false)) := RetB.no fun h => h3 h.2.1.1
      clear hinv HV hall h1 h2
      go_wp2
      go_ret
      exact ⟨R, hb⟩
end Go.Proofs.YtodfgehicpejgaaGreatDoor
