/- Several texts in one: JgO, JgT, JgV, JgW, JgE, JgX, JgY. -/
import Derived.Test.YtodfgehicpejgaaGreatDoorGk180
import Derived.Deep.RegionHeld3
import Derived.Deep.DeepCutAuto
import Derived.Test.YtodfgehicpejgaaGreatDoorGk172
import Derived.Deep.QuietTactic
import Derived.Test.YtodfgehicpejgaaGreatDoorGk176
import Derived.Test.YtodfgehicpejgaaGreatDoorGk185
namespace Go.Proofs.YtodfgehicpejgaaGreatDoor
open Go.ChangeShapes Go.WideShapes Go.ChangeAt Go.RowKit
set_option linter.unusedSimpArgs false
set_option linter.unusedVariables false
set_option maxRecDepth 100000
def ascV (l : List Ev) : Prop := ∀ i (h : i + 1 < l.length), l[i].pl < l[i + 1].pl
def ordR (r : Rr) : Prop := ascV (evK [1, 2, 3] r.out)
set_option maxHeartbeats 4000000 in
theorem rInOrder_any (v : Value) (m : Rr) (w : World) (hv : RdReader v m w) (hl : m.out.length ≤ 1048576) :
  Calls Tryz.prog 163 #[v] w fun e w' => RetB (ordR m) e ∧ Below w.heap.size w w' := by
 have ba : ∀ (w : World) o, Below w.heap.size w (w.alloc o) := fun w o => (Below.refl _ _).alloc (Nat.le_refl _) o
 have C := dH fun W (hb : Below w.heap.size w W) kv (hk : Ns W kv [1, 2, 3]) => events_any v kv m [1, 2, 3] W (hv.below hb) hk hl
 have PQ : Hid (ordR m ↔ ascV (evK [1, 2, 3] m.out)) := Iff.rfl
 generalize ordR m = Q at *
 obtain ⟨sv, rfl, hs⟩ := hv
 obtain ⟨sa, sc, rfl, -⟩ := formEventS hs
 have B0 := bT (ba w (.cells #[.int .i64 m.epoch, .int .i64 m.off, .slice sa m.out.length sc] 54)) (ba _ (.cells #[.int .i64 1, .int .i64 2, .int .i64 3] 3))
 have X0 := Bx.new (w.alloc (.cells #[.int .i64 m.epoch, .int .i64 m.off, .slice sa m.out.length sc] 54)) [.int .i64 1, .int .i64 2, .int .i64 3] 3
 rw [show (w.alloc (.cells #[.int .i64 m.epoch, .int .i64 m.off, .slice sa m.out.length sc] 54)).heap.size = w.heap.size + 1 from by simp] at X0
 have N0 : Hid (Ns ((w.alloc (.cells #[.int .i64 m.epoch, .int .i64 m.off, .slice sa m.out.length sc] 54)).alloc (.cells #[.int .i64 1, .int .i64 2, .int .i64 3] 3)) (.slice (some ⟨w.heap.size + 1, 0, none⟩) 3 3) [1, 2, 3]) := ⟨by simp, _, 3, rfl, ⟨by simp, by omega⟩, .inr ⟨w.heap.size + 1, 0, rfl, fun i hi => by
  match i, hi with
  | 0, _ => exact X0 0 _ rfl
  | 1, _ => exact X0 1 _ rfl
  | 2, _ => exact X0 2 _ rfl⟩⟩
 clear hs X0
 go_enter Tryz.func163, Tryz.ntmps163
 go_wp2_with fail
 refine (dU C _ B0 _ (dU N0)).mono ?_
 rintro e w1 ⟨⟨u, rfl, hu⟩, b1⟩
 have B1 := bT B0 b1
 have HU := dH fun W (hb : Below w1.heap.size w1 W) => hu.below hb
 obtain ⟨ua, uc, rfl, hul⟩ := formEventS hu
 clear hu b1 B0 C N0
 generalize evK [1, 2, 3] m.out = es at *
 go_wp2
 go_loopw [3, 10] (fun x y wr => ∃ (k : Nat) (last : Int), x = .int .i64 last ∧ y = .int .i64 (k : Int) ∧ k ≤ es.length ∧ Hid (∀ i (h : i + 1 < es.length), i + 1 < k → es[i].pl < es[i + 1].pl) ∧ Hid (∀ (h : k - 1 < es.length), 0 < k → last = es[k - 1].pl) ∧ Below w1.heap.size w1 wr) (fun _ y _ => es.length - (intOf y).toNat)
 case atStart => exact ⟨0, 0, rfl, rfl, Nat.zero_le _, fun i h h' => by omega, fun h h' => by omega, Below.refl _ _⟩
 case round =>
  obtain ⟨k, last, rfl, rfl, hk, hinv, hlast, hb⟩ := hrel
  by_cases hlt : (k : Int) < (es.length : Int)
  ·have hkl : k < es.length := by omega
   obtain ⟨b, off, rfl, he⟩ := (dU HU wr hb).atEv hkl
   obtain ⟨c0, c1, c2⟩ := he k hkl
   have bA : ∀ o, Below w1.heap.size w1 (wr.alloc o) := fun o => bT hb ((Below.refl _ _).alloc (Nat.le_refl _) o)
   by_cases h0 : (0 : Int) < (k : Int)
   ·have hl0 := dU hlast (by omega) (by omega)
    by_cases hle : es[k].pl ≤ last
    ·have R := dH (show RetB Q (.returned (.bool false)) from RetB.no fun q => by
      have := (dU PQ).1 q (k - 1) (by omega)
      simp only [show k - 1 + 1 = k by omega] at this
      omega)
     have B2 := fun o => bT B1 (bA o)
     clear hinv hlast hl0 he PQ HU
     generalize es[k] = y at *
     obtain ⟨y0, y1, y2⟩ := y
     simp only at *
     go_wp2
     go_ret
     exact ⟨dU R, B2 _⟩
    ·have H2 : Hid (∀ i (h : i + 1 < es.length), i + 1 < k + 1 → es[i].pl < es[i + 1].pl) := fun i h hi => by
      by_cases e : i + 1 = k
      ·have : i = k - 1 := by omega
       subst this
       simp only [show k - 1 + 1 = k by omega]
       omega
      ·exact dU hinv i h (by omega)
     obtain ⟨y, hy⟩ : ∃ y, es[k] = y := ⟨_, rfl⟩
     have H3 : Hid (∀ (h : k + 1 - 1 < es.length), 0 < k + 1 → y.pl = es[k + 1 - 1].pl) := fun _ _ => by simp only [Nat.add_sub_cancel, hy]
     rw [hy] at c0 c1 c2 hle
     clear hinv hlast hl0 he hy
     obtain ⟨y0, y1, y2⟩ := y
     simp only at *
     go_wp2
     go_roundw
     case rel => exact ⟨k + 1, y1, by first | trivial | rfl, by go_num, by omega, H2, H3, bA _⟩
     case measure => simp [intOf]; omega
   ·have hk0 : k = 0 := by omega
    have H2 : Hid (∀ i (h : i + 1 < es.length), i + 1 < k + 1 → es[i].pl < es[i + 1].pl) := fun i h hi => by omega
    obtain ⟨y, hy⟩ : ∃ y, es[k] = y := ⟨_, rfl⟩
    have H3 : Hid (∀ (h : k + 1 - 1 < es.length), 0 < k + 1 → y.pl = es[k + 1 - 1].pl) := fun _ _ => by simp only [Nat.add_sub_cancel, hy]
    rw [hy] at c0 c1 c2
    clear hinv hlast he hk0 hy
    obtain ⟨y0, y1, y2⟩ := y
    simp only at *
    go_wp2
    go_roundw
    case rel => exact ⟨k + 1, y1, by first | trivial | rfl, by go_num, by omega, H2, H3, bA _⟩
    case measure => simp [intOf]; omega
  ·have R := dH (show RetB Q (.returned (.bool true)) from RetB.yes ((dU PQ).2 fun i h => dU hinv i h (by omega)))
   have B2 := bT B1 hb
   clear hinv hlast PQ HU
   go_wp2
   go_ret
   exact ⟨dU R, B2⟩
theorem evK_yes (ks : List Int) (l : List Ev) (k : Nat) (h : k < l.length) (hx : l[k].kind ∈ ks) : evK ks (l.take (k + 1)) = evK ks (l.take k) ++ [l[k]] := by
 unfold evK
 rw [List.take_succ_eq_append_getElem h, List.filter_append]
 simp [hx]
theorem evK_no (ks : List Int) (l : List Ev) (k : Nat) (h : k < l.length) (hx : ¬ l[k].kind ∈ ks) : evK ks (l.take (k + 1)) = evK ks (l.take k) := by
 unfold evK
 rw [List.take_succ_eq_append_getElem h, List.filter_append]
 simp [hx]
def LastV (ks : List Int) (l : List Ev) (k : Nat) (last : Int) : Prop := (last = -1 ∧ evK ks (l.take k) = []) ∨ ∃ j : Nat, last = (j : Int) ∧ ∃ h : j < l.length, j < k ∧ ∃ F, evK ks (l.take k) = F ++ [l[j]]
theorem LastV.no {ks : List Int} {l : List Ev} {k : Nat} {last : Int} (h : LastV ks l k last) (hk : k < l.length) (hx : ¬ l[k].kind ∈ ks) : LastV ks l (k + 1) last := by
 rcases h with ⟨h1, h2⟩ | ⟨j, h1, h2, h3, F, h4⟩
 ·exact .inl ⟨h1, by rw [evK_no ks l k hk hx]; exact h2⟩
 ·exact .inr ⟨j, h1, h2, by omega, F, by rw [evK_no ks l k hk hx]; exact h4⟩
theorem LastV.yes {ks : List Int} {l : List Ev} {k : Nat} (hk : k < l.length) (hx : l[k].kind ∈ ks) : LastV ks l (k + 1) (k : Int) := .inr ⟨k, rfl, hk, by omega, _, evK_yes ks l k hk hx⟩
def taleM (l : List Ev) (p : Int) : Option ByteArray := (l.find? fun e => decide (e.kind = 1) && decide (e.pl = p)).map Ev.data
theorem tale_evK (l : List Ev) (p : Int) : taleM l p = ((evK [1] l).find? fun e => decide (e.pl = p)).map Ev.data := by
 unfold taleM evK
 rw [List.find?_filter]
 congr 1
 congr 1
 funext e
 simp
def plN (r : Rr) : Int := 4294967296 * r.epoch + r.off
theorem numberN_any (a b : Int) (h1 : 0 ≤ a) (h2 : a ≤ 1000) (h3 : 0 ≤ b) (h4 : b ≤ 1000) (w : World) :
  Calls Tryz.prog 187 #[.agg #[.int .i64 a, .int .i64 b]] w fun e w' => e = .returned (.int .i64 (4294967296 * a + b)) ∧ Below w.heap.size w w' := by
 have e1 : wrap64 (a * 4294967296) = a * 4294967296 := by unfold wrap64; omega
 have e2 : wrap64 (a * 4294967296 + b) = a * 4294967296 + b := by unfold wrap64; omega
 have e3 : 4294967296 * a + b = a * 4294967296 + b := by omega
 rw [e3]
 clear e3
 go_enter Tryz.func187, Tryz.ntmps187
 go_wp2
 go_ret
 exact ⟨rfl, (Below.refl _ _).alloc (Nat.le_refl _) _⟩
def smallR (r : Rr) : Prop := (0 ≤ r.epoch ∧ r.epoch ≤ 1000) ∧ 0 ≤ r.off ∧ r.off ≤ 1000
theorem implPassed_any (v : Value) (m : Rr) (p : Int) (w : World) (hv : RdReader v m w) (hr : smallR m) :
  Calls Tryz.prog 248 #[v, .int .i64 p] w fun e w' => RetB (p < plN m) e ∧ Below w.heap.size w w' := by
 obtain ⟨sv, rfl, hs⟩ := hv
 obtain ⟨sa, sc, rfl, hul⟩ := formEventS hs
 have B0 : Below w.heap.size w (w.alloc (.cells #[.int .i64 m.epoch, .int .i64 m.off, .slice sa m.out.length sc] 54)) := (Below.refl _ _).alloc (Nat.le_refl _) _
 have C := dH fun W => numberN_any m.epoch m.off hr.1.1 hr.1.2 hr.2.1 hr.2.2 W
 have e0 : plN m = 4294967296 * m.epoch + m.off := rfl
 rw [← e0] at C
 generalize plN m = N at *
 clear hs hr e0
 by_cases h : p < N
 ·have R := dH (RetB.yes h)
  go_enter Tryz.func248, Tryz.ntmps248
  go_wp2_with fail
  refine (dU C _).mono ?_
  rintro e w1 ⟨rfl, b1⟩
  have B1 := bT B0 b1
  clear C b1
  go_wp2
  go_ret
  exact ⟨dU R, B1⟩
 ·have R := dH (RetB.no h)
  have hd : decide (p < N) = false := decide_eq_false h
  go_enter Tryz.func248, Tryz.ntmps248
  go_wp2_with fail
  refine (dU C _).mono ?_
  rintro e w1 ⟨rfl, b1⟩
  have B1 := bT B0 b1
  clear C b1
  go_wp2
  go_ret
  exact ⟨dU R, B1⟩
def addT (acc : List Ev) (e : Ev) : List Ev := if (evAt acc e.pl).isSome then acc else acc ++ [e]
def talesL (es : List Ev) : List Ev := es.foldl addT []
theorem evAt_addT (acc : List Ev) (e : Ev) (z : Int) : evAt (addT acc e) z = (evAt acc z).or (if e.pl = z then some e else none) := by
 unfold addT
 by_cases h : (evAt acc e.pl).isSome = true
 ·rw [if_pos h]
  by_cases hz : e.pl = z
  ·subst hz
   obtain ⟨x, hx⟩ := Option.isSome_iff_exists.1 h
   rw [hx]; rfl
  ·rw [if_neg hz]; simp
 ·rw [if_neg h, evAt_snoc]
theorem evAt_foldl (es : List Ev) : ∀ (acc : List Ev) (z : Int), evAt (es.foldl addT acc) z = (evAt acc z).or (evAt es z) := by
 induction es with
 | nil => intro acc z; simp [evAt]
 | cons a l ih =>
  intro acc z
  rw [List.foldl_cons, ih, evAt_addT, Option.or_assoc]
  congr 1
  unfold evAt
  rw [List.find?_cons]
  by_cases h : a.pl = z <;> simp [h]
theorem talesL_at (es : List Ev) (z : Int) : evAt (talesL es) z = evAt es z := by rw [talesL, evAt_foldl]; rfl
theorem talesL_take (es : List Ev) (k : Nat) (h : k < es.length) : talesL (es.take (k + 1)) = addT (talesL (es.take k)) es[k] := by
 rw [talesL, List.take_succ_eq_append_getElem h, List.foldl_append]
 rfl
theorem talesL_len (es : List Ev) (k : Nat) (h : k ≤ es.length) : (talesL (es.take k)).length ≤ k := by
 induction k with
 | zero => simp [talesL]
 | succ n ih =>
  rw [talesL_take es n (by omega)]
  have := ih (by omega)
  unfold addT
  split
  ·omega
  ·simp; omega
theorem nodup_addT {acc : List Ev} (h : (acc.map Ev.pl).Nodup) (e : Ev) : ((addT acc e).map Ev.pl).Nodup := by
 unfold addT
 split
 ·exact h
 ·rename_i hn
  rw [List.map_append]
  refine List.nodup_append.2 ⟨h, by simp, fun p hp q hq => ?_⟩
  obtain rfl : q = e.pl := by simpa using hq
  intro ee
  subst ee
  obtain ⟨y, hy, ey⟩ := List.mem_map.1 hp
  refine hn ?_
  cases hq : evAt acc e.pl with
  | none => have := List.find?_eq_none.1 hq y hy; simp [ey] at this
  | some _ => rfl
theorem nodup_foldl (es : List Ev) : ∀ acc : List Ev, (acc.map Ev.pl).Nodup → ((es.foldl addT acc).map Ev.pl).Nodup := by
 induction es with
 | nil => intro acc h; exact h
 | cons a l ih => intro acc h; exact ih _ (nodup_addT h a)
theorem evAt_self {l : List Ev} (h : (l.map Ev.pl).Nodup) {x : Ev} (hx : x ∈ l) : evAt l x.pl = some x := by
 cases hq : evAt l x.pl with
 | none => have := List.find?_eq_none.1 hq x hx; simp at this
 | some y =>
  obtain ⟨hy, ey⟩ := evAt_mem hq
  rw [pl_inj h hy hx ey]
theorem talesL_mem {es : List Ev} {e : Ev} : e ∈ talesL es ↔ evAt es e.pl = some e := by
 constructor
 ·intro h
  rw [← talesL_at]
  exact evAt_self (nodup_foldl es [] List.nodup_nil) h
 ·intro h
  rw [← talesL_at] at h
  exact (evAt_mem h).1
def plsR (r : Rr) : Prop := ∀ e ∈ r.out, -9223372036854775808 ≤ e.pl ∧ e.pl ≤ 9223372036854775807
def talesR (r : Rr) : List Ev := talesL (evK [1] r.out)
theorem talesR_at (r : Rr) (z : Int) : evAt (talesR r) z = evAt (evK [1] r.out) z := talesL_at _ _
theorem tale_talesR (r : Rr) (z : Int) : taleM r.out z = (evAt (talesR r) z).map Ev.data := by rw [talesR_at, tale_evK]; rfl
theorem not_map {W : World} {b eb eo c : Nat} {es : Array MapEntry} {v : Value} (hm : W.heap[b]? = some (.map es c)) (hc : W.cell? ⟨eb, eo, none⟩ = some v) : eb ≠ b := by
 rintro rfl
 simp [World.cell?, hm] at hc
theorem TaleN.isMap {W : World} {b : Nat} {l : List Ev} (h : TaleN W b l) : ∃ es c, W.heap[b]? = some (.map es c) := by
 obtain ⟨-, -, D, ⟨es, c, h, -⟩, -⟩ := h
 exact ⟨es, c, h⟩
theorem grown_cell {W W' : World} {b eb eo : Nat} {v : Value} (g : W.grownBy W' (some b)) (hn : eb ≠ b) (h : W.cell? ⟨eb, eo, none⟩ = some v) : W'.cell? ⟨eb, eo, none⟩ = some v :=
 (World.cell?_of_block (a := ⟨eb, eo, none⟩) (g.block eb (dCell_lt h) (by simpa using hn))).trans h
theorem grown_trans {W W' W'' : World} {b : Nat} (g : W.grownBy W' (some b)) (g' : W'.grownBy W'' (some b)) : W.grownBy W'' (some b) where
 os := g'.os.trans g.os
 tape := g'.tape.trans g.tape
 output := g'.output.trans g.output
 size := Nat.le_trans g.size g'.size
 block := fun k hk hn => (g'.block k (Nat.lt_of_lt_of_le hk g.size) hn).trans (g.block k hk hn)
theorem grown_refl (W : World) (row : Option Nat) : W.grownBy W row where
 os := rfl
 tape := rfl
 output := rfl
 size := Nat.le_refl _
 block := fun _ _ _ => rfl
section
variable (w : World) {ops : Array Oper} {rest : List Oper} {o : Oper} {a : Act} {Q : Exit → Act → World → Prop}
theorem wp_taleNo (hg : o.guard = none) (m x : Operand) (hop : o.op = Op.lookup 264 m x true) (b : Nat) (l : List Ev) (z : Int) (hm : a.eval m = .map (some b)) (h : TaleN w b l)
  (hx : a.eval x = .int .i64 z) (hz : -9223372036854775808 ≤ z ∧ z ≤ 9223372036854775807) (hn : evAt l z = none)
  (hK : wpList Tryz.prog ops Q rest (a.put o.dst (.tuple #[.agg #[.int .i64 0, .int .i64 0, .string ⟨#[]⟩], .bool false])) w) : wpList Tryz.prog ops Q (o :: rest) a w :=
 wp_taleHas w hg m x hop b l z hm h hx hz (by rw [hn]; exact hK)
theorem wp_taleYes (hg : o.guard = none) (m x : Operand) (hop : o.op = Op.lookup 264 m x true) (b : Nat) (l : List Ev) (z : Int) (hm : a.eval m = .map (some b)) (h : TaleN w b l)
  (hx : a.eval x = .int .i64 z) (hz : -9223372036854775808 ≤ z ∧ z ≤ 9223372036854775807) (q0 q1 : Int) (q2 : ByteArray) (hn : evAt l z = some ⟨q0, q1, q2⟩)
  (hK : wpList Tryz.prog ops Q rest (a.put o.dst (.tuple #[.agg #[.int .i64 q0, .int .i64 q1, .string q2], .bool true])) w) : wpList Tryz.prog ops Q (o :: rest) a w :=
 wp_taleHas w hg m x hop b l z hm h hx hz (by rw [hn]; exact hK)
end
set_option maxHeartbeats 8000000 in
theorem tales_any (v : Value) (m : Rr) (w : World) (hv : RdReader v m w) (hl : m.out.length ≤ 1048576) (hp : plsR m) :
  Calls Tryz.prog 246 #[v] w fun e w' => (∃ b, e = .returned (.map (some b)) ∧ TaleN w' b (talesR m)) ∧ Below w.heap.size w w' := by
 have ba : ∀ (w : World) o, Below w.heap.size w (w.alloc o) := fun w o => (Below.refl _ _).alloc (Nat.le_refl _) o
 have C := dH fun W (hb : Below w.heap.size w W) kv (hk : Ns W kv [1]) => events_any v kv m [1] W (hv.below hb) hk hl
 have HP : Hid (∀ e ∈ evK [1] m.out, -9223372036854775808 ≤ e.pl ∧ e.pl ≤ 9223372036854775807) := fun e he => hp e (List.mem_filter.1 he).1
 have HLn : (evK [1] m.out).length ≤ 1048576 := Nat.le_trans (List.length_filter_le _ _) hl
 have TR : Hid (talesR m = talesL (evK [1] m.out)) := rfl
 generalize talesR m = TM at *
 obtain ⟨sv, rfl, hs⟩ := hv
 obtain ⟨sa, sc, rfl, -⟩ := formEventS hs
 have hmm := @run_makeMap Tryz.prog
 have b1 := ba w (.cells #[.int .i64 m.epoch, .int .i64 m.off, .slice sa m.out.length sc] 54)
 have b2 := ba (w.alloc (.cells #[.int .i64 m.epoch, .int .i64 m.off, .slice sa m.out.length sc] 54)) (.map #[] 0)
 have b3 := ba ((w.alloc (.cells #[.int .i64 m.epoch, .int .i64 m.off, .slice sa m.out.length sc] 54)).alloc (.map #[] 0)) (.cells #[.int .i64 1] 3)
 have B0 := bT (bT b1 b2) b3
 have T0 := (TaleN.made (w.alloc (.cells #[.int .i64 m.epoch, .int .i64 m.off, .slice sa m.out.length sc] 54))).below b3
 have X0 := Bx.new ((w.alloc (.cells #[.int .i64 m.epoch, .int .i64 m.off, .slice sa m.out.length sc] 54)).alloc (.map #[] 0)) [.int .i64 1] 3
 rw [show (w.alloc (.cells #[.int .i64 m.epoch, .int .i64 m.off, .slice sa m.out.length sc] 54)).heap.size = w.heap.size + 1 from by simp] at T0
 rw [show ((w.alloc (.cells #[.int .i64 m.epoch, .int .i64 m.off, .slice sa m.out.length sc] 54)).alloc (.map #[] 0)).heap.size = w.heap.size + 1 + 1 from by simp] at X0
 have N0 : Hid (Ns (((w.alloc (.cells #[.int .i64 m.epoch, .int .i64 m.off, .slice sa m.out.length sc] 54)).alloc (.map #[] 0)).alloc (.cells #[.int .i64 1] 3)) (.slice (some ⟨w.heap.size + 1 + 1, 0, none⟩) 1 1) [1]) := ⟨by simp, _, 1, rfl, ⟨by simp, by omega⟩, .inr ⟨w.heap.size + 1 + 1, 0, rfl, fun i hi => by
  have : i = 0 := by simpa using hi
  subst this
  exact X0 0 _ rfl⟩⟩
 clear hs X0 b1 b2 b3 hp hl
 go_enter Tryz.func246, Tryz.ntmps246
 go_wp2_with fail
 refine (dU C _ B0 _ (dU N0)).mono ?_
 rintro e w1 ⟨⟨u, rfl, hu⟩, b1⟩
 have B1 := dH (bT B0 b1)
 replace T0 := T0.below b1
 have HU := dH hu
 obtain ⟨ua, uc, rfl, hul⟩ := formEventS hu
 clear hu b1 B0 C N0
 generalize evK [1] m.out = es at *
 have NM : Hid (∀ eb eo v, w1.cell? ⟨eb, eo, none⟩ = some v → eb ≠ w.heap.size + 1) := fun eb eo v hc => by
  obtain ⟨es', c, hm⟩ := T0.isMap
  exact not_map hm hc
 go_wp2
 go_loopw [13] (fun y wr => ∃ k : Nat, y = .int .i64 (k : Int) ∧ k ≤ es.length ∧ Hid (TaleN wr (w.heap.size + 1) (talesL (es.take k))) ∧ Hid (w1.grownBy wr (some (w.heap.size + 1)))) (fun y _ => es.length - (intOf y).toNat)
 case atStart => exact ⟨0, rfl, Nat.zero_le _, T0, grown_refl _ _⟩
 case round =>
  obtain ⟨k, rfl, hk, hT, hG⟩ := hrel
  by_cases hlt : (k : Int) < (es.length : Int)
  ·have hkl : k < es.length := by omega
   obtain ⟨b, off, rfl, he⟩ := (dU HU).atEv hkl
   obtain ⟨d0, d1, d2⟩ := he k hkl
   have nb := dU NM _ _ _ d0
   have c0 := grown_cell (dU hG) nb d0
   have c1 := grown_cell (dU hG) nb d1
   have c2 := grown_cell (dU hG) nb d2
   have hz := dH (dU HP es[k] (List.getElem_mem hkl))
   have e1 := dH (talesL_take es k hkl)
   have hlen := talesL_len es k hk
   clear he d0 d1 d2 nb NM HU HP T0
   generalize es[k] = y at *
   obtain ⟨y0, y1, y2⟩ := y
   simp only at c0 c1 c2
   generalize talesL (es.take k) = L at *
   have bx := ba wr (.cells #[.int .i64 y0, .int .i64 y1, .string y2] 143)
   have XE := Bx.new wr [.int .i64 y0, .int .i64 y1, .string y2] 143
   have hT1 := (dU hT).below bx
   have gx := dH (grown_trans (dU hG) (World.grownBy_alloc wr (.cells #[.int .i64 y0, .int .i64 y1, .string y2] 143) (some (w.heap.size + 1))))
   clear hT hG bx
   have x1 := XE 1 _ rfl
   cases hq : evAt L y1 with
   | none =>
    have HQ := dH hq
    have by1 := ba (wr.alloc (.cells #[.int .i64 y0, .int .i64 y1, .string y2] 143)) (.cells #[.int .i64 0, .int .i64 0, .string ⟨#[]⟩] 143)
    have XE2 := XE.below by1
    have hT2 := dH (hT1.below by1)
    have gy := dH (grown_trans (dU gx) (World.grownBy_alloc _ (.cells #[.int .i64 0, .int .i64 0, .string ⟨#[]⟩] 143) (some (w.heap.size + 1))))
    have z0 := XE2 0 _ rfl
    have z1 := XE2 1 _ rfl
    have z2 := XE2 2 _ rfl
    have E1 : Hid (addT L ⟨y0, y1, y2⟩ = L ++ [⟨y0, y1, y2⟩]) := by unfold Hid addT; simp [hq]
    clear hq by1 XE XE2 gx
    go_wp2_with (first
     | (at_lookup; refine wp_taleNo _ rfl _ _ rfl (w.heap.size + 1) L y1 rfl hT1 rfl (dU hz) (dU HQ) ?_)
     | (at_mapUpdate; refine wp_talePut _ rfl _ _ _ rfl (w.heap.size + 1) L ⟨y0, y1, y2⟩ rfl (dU hT2) rfl (dU hz) rfl (by omega) (dU HQ) ?_; intro w2 hT3 g3)
     | go_in)
    have G3 := dH (grown_trans (dU gy) g3)
    have T3 := dH hT3
    clear hT1 hT2 gy g3 hT3 x1 z0 z1 z2 c0 c1 c2
    go_wp2
    go_roundw
    case rel => exact ⟨k + 1, by go_num, by omega, by rw [dU e1, dU E1]; exact T3, G3⟩
    case measure => simp [intOf]; omega
   | some q =>
    obtain ⟨q0, q1, q2⟩ := q
    have HQ := dH hq
    have by1 := ba (wr.alloc (.cells #[.int .i64 y0, .int .i64 y1, .string y2] 143)) (.cells #[.int .i64 q0, .int .i64 q1, .string q2] 143)
    have T3 := dH (hT1.below by1)
    have gy := dH (grown_trans (dU gx) (World.grownBy_alloc _ (.cells #[.int .i64 q0, .int .i64 q1, .string q2] 143) (some (w.heap.size + 1))))
    have E1 : Hid (addT L ⟨y0, y1, y2⟩ = L) := by unfold Hid addT; simp [hq]
    clear hq by1 XE gx
    go_wp2_with (first
     | (at_lookup; refine wp_taleYes _ rfl _ _ rfl (w.heap.size + 1) L y1 rfl hT1 rfl (dU hz) q0 q1 q2 (dU HQ) ?_)
     | go_in)
    go_roundw
    case rel => exact ⟨k + 1, by go_num, by omega, by rw [dU e1, dU E1]; exact T3, gy⟩
    case measure => simp [intOf]; omega
  ·have e1 : es.take k = es := List.take_of_length_le (by omega)
   rw [e1] at hT
   have BF : Below w.heap.size w wr := (dU B1).grown (dU hG) (dU B1).size (fun j hj => by cases hj; omega)
   clear e1 HU HP NM T0
   rw [← dU TR] at hT
   go_wp2
   go_ret
   exact ⟨⟨_, rfl, dU hT⟩, BF⟩
def askE (a b : Rr) (tr : Int) (e : Ev) : Prop := isPl e.pl ∧ tr < e.pl ∧ e.pl < plN a ∧ e.pl < plN b
def sameE (a b : Rr) (e : Ev) : Prop := (taleM b.out e.pl).isSome = true ∧ (taleM a.out e.pl).getD ⟨#[]⟩ = (taleM b.out e.pl).getD ⟨#[]⟩
def agreeE (a b : Rr) (tr : Int) (e : Ev) : Prop := askE a b tr e → sameE a b e
def agreeP (a b : Rr) (tr : Int) : Prop := ∀ e ∈ evK [1] a.out, agreeE a b tr e
def agreeM (a b : Rr) (tr : Int) : Prop := ∀ x ∈ talesR a, askE a b tr x → (evAt (talesR b) x.pl).getD zeroEv = x
theorem evK_kind {l : List Ev} {e : Ev} (h : e ∈ evK [1] l) : e.kind = 1 := by simpa using (List.mem_filter.1 h).2
theorem talesR_kind {r : Rr} {e : Ev} (h : e ∈ talesR r) : e.kind = 1 := evK_kind (evAt_mem (talesL_mem.1 h)).1
theorem evAt_kind {r : Rr} {z : Int} {e : Ev} (h : evAt (talesR r) z = some e) : e.kind = 1 ∧ e.pl = z := ⟨talesR_kind (evAt_mem h).1, (evAt_mem h).2⟩
theorem agreeP_iff (a b : Rr) (tr : Int) : agreeP a b tr ↔ agreeM a b tr := by
 constructor
 ·intro h x hx ask
  have hx' := talesL_mem.1 hx
  have ha : evAt (talesR a) x.pl = some x := by rw [talesR_at]; exact hx'
  obtain ⟨h1, h2⟩ := h x (evAt_mem hx').1 ask
  rw [tale_talesR] at h1 h2
  rw [tale_talesR] at h2
  rw [ha] at h2
  cases hq : evAt (talesR b) x.pl with
  | none => rw [hq] at h1; cases h1
  | some y =>
   rw [hq] at h2
   obtain ⟨k1, k2⟩ := evAt_kind hq
   have k3 := talesR_kind hx
   obtain ⟨x0, x1, x2⟩ := x
   obtain ⟨y0, y1, y2⟩ := y
   simp only [Option.map_some, Option.getD_some] at h2 k1 k2 k3 ⊢
   rw [k1, k2, k3, h2]
 ·intro h e he ask
  have hs : (evAt (evK [1] a.out) e.pl).isSome = true := by
   cases hq : evAt (evK [1] a.out) e.pl with
   | none => have := List.find?_eq_none.1 hq e he; simp at this
   | some _ => rfl
  obtain ⟨x, hx⟩ := Option.isSome_iff_exists.1 hs
  obtain ⟨m1, m2⟩ := evAt_mem hx
  have hxm : x ∈ talesR a := talesL_mem.2 (by rw [m2]; exact hx)
  have hh := h x hxm (by unfold askE at ask ⊢; rw [m2]; exact ask)
  rw [m2] at hh
  have ha : evAt (talesR a) e.pl = some x := by rw [talesR_at]; exact hx
  unfold sameE
  rw [tale_talesR, tale_talesR, ha]
  cases hq : evAt (talesR b) e.pl with
  | none =>
   rw [hq] at hh
   have := talesR_kind hxm
   rw [← hh] at this
   cases this
  | some y =>
   rw [hq] at hh
   simp only [Option.getD_some] at hh
   subst hh
   exact ⟨rfl, rfl⟩
theorem placeOk_iff (x : Int) (l : -9223372036854775808 ≤ x) (u : x ≤ 9223372036854775807) (w : World) : Calls Tryz.prog 225 #[.int .i64 x] w fun e w' => RetB (isPl x) e ∧ Below w.heap.size w w' := by
 by_cases h : isPl x
 ·exact (implOk_yes x h w).mono fun e w' h' => ⟨h'.1 ▸ RetB.yes h, h'.2⟩
 ·exact (implOk_no x l u h w).mono fun e w' h' => ⟨h'.1 ▸ RetB.no h, h'.2⟩
set_option maxHeartbeats 16000000 in
theorem agrees_any (va vb : Value) (a b : Rr) (tr : Int) (w : World) (hva : RdReader va a w) (hvb : RdReader vb b w) (ha : smallR a) (hb : smallR b) (la : a.out.length ≤ 1048576) (lb : b.out.length ≤ 1048576) (hpa : plsR a) (hpb : plsR b) :
  Calls Tryz.prog 174 #[va, vb, .int .i64 tr] w fun e w' => RetB (agreeP a b tr) e ∧ Below w.heap.size w w' := by
 have ba' : ∀ (w : World) o, Below w.heap.size w (w.alloc o) := fun w o => (Below.refl _ _).alloc (Nat.le_refl _) o
 have CA0 := dH fun p W (hW : Below w.heap.size w W) => implPassed_any va a p W (hva.below hW) ha
 have CB0 := dH fun p W (hW : Below w.heap.size w W) => implPassed_any vb b p W (hvb.below hW) hb
 have TA0 := dH fun W (hW : Below w.heap.size w W) => tales_any va a W (hva.below hW) la hpa
 have TB0 := dH fun W (hW : Below w.heap.size w W) => tales_any vb b W (hvb.below hW) lb hpb
 have HP : Hid (∀ x ∈ talesR a, x.kind = 1 ∧ (-9223372036854775808 ≤ x.pl ∧ x.pl ≤ 9223372036854775807)) := fun x hx => ⟨talesR_kind hx, hpa x (List.mem_filter.1 (evAt_mem (talesL_mem.1 hx)).1).1⟩
 have HK : Hid (∀ z e, evAt (talesR b) z = some e → e.kind = 1 ∧ e.pl = z) := fun z e h => evAt_kind h
 have YES : Hid ((∀ x ∈ talesR a, askE a b tr x → (evAt (talesR b) x.pl).getD zeroEv = x) → RetB (agreeP a b tr) (.returned (.bool true))) := fun h => RetB.yes ((agreeP_iff a b tr).2 h)
 have NO : Hid (∀ x ∈ talesR a, askE a b tr x → ¬ (evAt (talesR b) x.pl).getD zeroEv = x → RetB (agreeP a b tr) (.returned (.bool false))) := fun x hx h1 h2 => RetB.no fun q => h2 ((agreeP_iff a b tr).1 q x hx h1)
 have ASK : Hid (∀ x : Ev, askE a b tr x ↔ isPl x.pl ∧ tr < x.pl ∧ x.pl < plN a ∧ x.pl < plN b) := fun x => Iff.rfl
 obtain ⟨sv, rfl, hs⟩ := hva
 obtain ⟨aa, ac, rfl, -⟩ := formEventS hs
 obtain ⟨sv, rfl, hs'⟩ := hvb
 obtain ⟨ba, bc, rfl, -⟩ := formEventS hs'
 clear hs hs' ha hb la lb hpa hpb
 generalize agreeP a b tr = Q at *
 generalize hLA : talesR a = LA at *
 generalize hLB : talesR b = LB at *
 generalize hAE : askE a b tr = AE at *
 generalize plN a = NA at *
 generalize plN b = NB at *
 clear hLA hLB hAE
 generalize a.epoch = aep at *
 generalize a.off = aof at *
 generalize a.out.length = al at *
 generalize b.epoch = bep at *
 generalize b.off = bof at *
 generalize b.out.length = bl at *
 have b1 := ba' w (.cells #[.int .i64 aep, .int .i64 aof, .slice aa al ac] 54)
 have b2 := ba' (w.alloc (.cells #[.int .i64 aep, .int .i64 aof, .slice aa al ac] 54)) (.cells #[.int .i64 bep, .int .i64 bof, .slice ba bl bc] 54)
 have e1 : (w.alloc (.cells #[.int .i64 aep, .int .i64 aof, .slice aa al ac] 54)).heap.size = w.heap.size + 1 := by simp
 have XA := (Bx.new w [.int .i64 aep, .int .i64 aof, .slice aa al ac] 54).below b2
 have XB := Bx.new (w.alloc (.cells #[.int .i64 aep, .int .i64 aof, .slice aa al ac] 54)) [.int .i64 bep, .int .i64 bof, .slice ba bl bc] 54
 rw [e1] at XB
 have B0 := bT b1 b2
 clear b1 b2 e1
 go_enter Tryz.func174, Tryz.ntmps174
 go_wp2_with fail
 generalize (w.alloc (.cells #[.int .i64 aep, .int .i64 aof, .slice aa al ac] 54)).alloc (.cells #[.int .i64 bep, .int .i64 bof, .slice ba bl bc] 54) = w0 at *
 refine (dU TB0 _ B0).mono ?_
 rintro e w1 ⟨⟨mb, rfl, TB⟩, b1⟩
 replace XA := XA.below b1
 replace XB := XB.below b1
 replace B0 := bT B0 b1
 clear b1 TB0
 have a0 := XA 0 _ rfl
 have a1 := XA 1 _ rfl
 have a2 := XA 2 _ rfl
 go_wp2_with fail
 refine (dU TA0 _ B0).mono ?_
 rintro e w2 ⟨⟨ma, rfl, TA⟩, b1⟩
 replace XA := XA.below b1
 replace XB := XB.below b1
 replace TB := dH (TB.below b1)
 replace B0 := bT B0 b1
 clear b1 TA0 a0 a1 a2
 have hh := dH TA
 clear TA
 go_wp2_with (first
  | (at_range; refine wp_taleRange _ rfl _ rfl ma LA rfl (dU hh) ?_; intro w3 hrg0 hg0 hs0)
  | go_in)
 go_frame
 go_loopw [8, 9, 10] (fun _ _ _ wr => ∃ ms, RangeT wr ma w2.heap.size LA ms ∧ Hid (∀ x ∈ ms, AE x → (evAt LB x.pl).getD zeroEv = x) ∧ Below w2.heap.size w2 wr) (fun _ _ _ wr => wr.rangeLeft ma w2.heap.size)
 case atStart => exact ⟨[], hrg0, (fun x h => by cases h), (Below.refl _ _).grown hg0 (Nat.le_refl _) (fun j hj => by cases hj)⟩
 case round =>
  obtain ⟨ms, hrg, hin, hb⟩ := hrel
  clear hrg0 hg0 hs0 hh
  go_wp2_with (first
   | (at_next; refine wp_taleNext _ rfl _ rfl ma w2.heap.size LA ms rfl hrg ?_ ?_)
   | go_in)
  ·intro hp
   have R := dH (dU YES fun x hx => dU hin x (hp x hx))
   have BF := bT B0 hb
   clear hp hin YES NO ASK HP HK CA0 CB0 TB XA XB
   go_wp2
   go_ret
   exact ⟨dU R, BF⟩
  ·intro x w4 hx hrg1 hlt hg1 hen
   obtain ⟨k1, hpl⟩ := dU HP x hx
   have hb1 : Below w2.heap.size w2 w4 := hb.grown hg1 hb.size (fun j hj => by cases hj; exact Nat.le_refl _)
   have NEXT : Hid (∀ W, Below w4.heap.size w4 W → (AE x → (evAt LB x.pl).getD zeroEv = x) → ∃ ms, RangeT W ma w2.heap.size LA ms ∧ Hid (∀ x ∈ ms, AE x → (evAt LB x.pl).getD zeroEv = x) ∧ Below w2.heap.size w2 W) := fun W hW hh => ⟨_, hrg1.below hW, fun y hy => by
    rcases List.mem_append.1 hy with hy | hy
    ·exact dU hin y hy
    ·obtain rfl : y = x := by simpa using hy
     exact hh, bT hb1 hW⟩
   have MEAS : Hid (∀ W, Below w4.heap.size w4 W → W.rangeLeft ma w2.heap.size < wr.rangeLeft ma w2.heap.size) := fun W hW => by
    rw [hrg1.left_below hW]
    exact hlt
   have NOX := dH (dU NO x hx)
   have AX := dH (dU ASK x)
   have LOOK : Hid (∀ W, Below w4.heap.size w4 W → (Instr.lookup 264 (.map (some mb)) (.int .i64 x.pl) false).run Tryz.prog W = .ok ((evAt LB x.pl).getD zeroEv).val W) := fun W hW => lookT W mb LB x.pl (((dU TB).below hb1).below hW) hpl
   have KX := dH (dU HK x.pl)
   have BW : Hid (∀ W, Below w4.heap.size w4 W → Below w.heap.size w W) := fun W hW => bT (bT B0 hb1) hW
   clear hin hlt hg1 hb hrg hrg1 HP HK NO ASK YES TB hx
   replace XA := (XA.below hb1)
   replace XB := (XB.below hb1)
   have CP := dH fun W => placeOk_iff x.pl hpl.1 hpl.2 W
   have CA := dH fun W hW => dU CA0 x.pl W hW
   have CB := dH fun W hW => dU CB0 x.pl W hW
   clear CA0 CB0 hpl hb1
   obtain ⟨y0, y1, y2⟩ := x
   simp only at k1
   subst k1
   dsimp only [Ev.val] at hen ⊢
   simp only at AX NOX LOOK CP CA CB NEXT KX
   have XZ := Bx.new w4 [.int .i64 1, .int .i64 y1, .string y2] 143
   have bz := ba' w4 (.cells #[.int .i64 1, .int .i64 y1, .string y2] 143)
   replace XA := XA.below bz
   replace XB := XB.below bz
   have B4 := bz
   clear bz
   go_wp2_with fail
   generalize w4.alloc (.cells #[.int .i64 1, .int .i64 y1, .string y2] 143) = w5 at *
   refine (dU CP _).mono ?_
   rintro e w6 ⟨⟨q1, rfl, h1⟩, b1⟩
   clear CP hen
   replace XZ := XZ.below b1
   replace XA := XA.below b1
   replace XB := XB.below b1
   replace B4 := bT B4 b1
   clear b1
   cases q1
   case false =>
    have N1 := dH (dU NEXT w6 B4 fun ask => by have := h1.2 ((dU AX).1 ask).1; cases this)
    have M1 := dH (dU MEAS w6 B4)
    clear NEXT MEAS NOX AX LOOK KX CA CB XA XB XZ h1 BW B4 B0
    go_wp2
    go_roundw
    case rel => exact dU N1
    case measure => exact dU M1
   by_cases htr : tr < y1
   case neg =>
    have N1 := dH (dU NEXT w6 B4 fun ask => by have := ((dU AX).1 ask).2.1; omega)
    have M1 := dH (dU MEAS w6 B4)
    have hd : decide (tr < y1) = false := decide_eq_false htr
    clear NEXT MEAS NOX AX LOOK KX CA CB XA XB XZ h1 BW B4 B0
    go_wp2
    go_roundw
    case rel => exact dU N1
    case measure => exact dU M1
   have hd : decide (tr < y1) = true := decide_eq_true htr
   have a0 := XA 0 _ rfl
   have a1 := XA 1 _ rfl
   have a2 := XA 2 _ rfl
   go_wp2_with fail
   refine (dU CA _ (dU BW _ B4)).mono ?_
   rintro e w7 ⟨⟨q2, rfl, h2⟩, b1⟩
   clear CA a0 a1 a2
   replace XZ := XZ.below b1
   replace XB := XB.below b1
   replace B4 := bT B4 b1
   clear b1 XA
   cases q2
   case false =>
    have N1 := dH (dU NEXT w7 B4 fun ask => by have := h2.2 ((dU AX).1 ask).2.2.1; cases this)
    have M1 := dH (dU MEAS w7 B4)
    clear NEXT MEAS NOX AX LOOK KX CB XB XZ h1 h2 BW B4 B0
    go_wp2
    go_roundw
    case rel => exact dU N1
    case measure => exact dU M1
   have a0 := XB 0 _ rfl
   have a1 := XB 1 _ rfl
   have a2 := XB 2 _ rfl
   go_wp2_with fail
   refine (dU CB _ (dU BW _ B4)).mono ?_
   rintro e w8 ⟨⟨q3, rfl, h3⟩, b1⟩
   clear CB a0 a1 a2
   replace XZ := XZ.below b1
   replace B4 := bT B4 b1
   clear b1 XB
   cases q3
   case false =>
    have N1 := dH (dU NEXT w8 B4 fun ask => by have := h3.2 ((dU AX).1 ask).2.2.2; cases this)
    have M1 := dH (dU MEAS w8 B4)
    clear NEXT MEAS NOX AX LOOK KX XZ h1 h2 h3 BW B4 B0
    go_wp2
    go_roundw
    case rel => exact dU N1
    case measure => exact dU M1
   have HX := dH ((dU AX).2 ⟨h1.1 (by first | trivial | rfl), htr, h2.1 (by first | trivial | rfl), h3.1 (by first | trivial | rfl)⟩)
   have NX := dH (dU NOX (dU HX))
   have z0 := XZ 0 _ rfl
   have z1 := XZ 1 _ rfl
   have z2 := XZ 2 _ rfl
   have LK := dU LOOK w8 B4
   have BF := dH (dU BW w8 B4)
   clear LOOK BW AX NOX h1 h2 h3 HX B0 XZ
   cases hq : evAt LB y1 with
   | none =>
    rw [hq] at NX LK
    have hn : ¬ zeroEv = (⟨1, y1, y2⟩ : Ev) := fun e => by have := congrArg Ev.kind e; cases this
    have R := dH (dU NX hn)
    have LK' : (Instr.lookup 264 (.map (some mb)) (.int .i64 y1) false).run Tryz.prog w8 = .ok (.agg #[.int .i64 0, .int .i64 0, .string ⟨#[]⟩]) w8 := LK
    have hb0 : ((0 : Int) == 1) = false := rfl
    clear NX LK hq hn NEXT MEAS KX B4
    go_wp2
    go_ret
    exact ⟨dU R, dU BF⟩
   | some q =>
    rw [hq] at NX LK
    obtain ⟨m1, m2⟩ := dU KX q hq
    have NE : Hid (q = ⟨1, y1, y2⟩ → ∃ ms, RangeT w8 ma w2.heap.size LA ms ∧ Hid (∀ x ∈ ms, AE x → (evAt LB x.pl).getD zeroEv = x) ∧ Below w2.heap.size w2 w8) := fun h => dU NEXT w8 B4 fun _ => by rw [hq]; exact h
    have M1 := dH (dU MEAS w8 B4)
    obtain ⟨q0, q1, q2⟩ := q
    simp only at m1 m2
    subst m1 m2
    have LK' : (Instr.lookup 264 (.map (some mb)) (.int .i64 q1) false).run Tryz.prog w8 = .ok (.agg #[.int .i64 1, .int .i64 q1, .string q2]) w8 := LK
    clear LK hq KX NEXT MEAS B4
    by_cases hd2 : q2 = y2
    ·subst hd2
     have N1 := dH (dU NE rfl)
     clear NE NX
     go_wp2
     go_roundw
     case rel => exact dU N1
     case measure => exact dU M1
    ·have R := dH (dU NX fun e => hd2 (congrArg Ev.data e))
     have hbq := txt_ne hd2
     clear NE NX hd2 M1
     go_wp2
     go_ret
     exact ⟨dU R, dU BF⟩
end Go.Proofs.YtodfgehicpejgaaGreatDoor
