/- Several texts in one: StJ, SitE, PutA, EntB, StB, StC, StD, SitF, SitG. -/
import Derived.Test.YtjkjmapibcfcdaaGreatGbE
import Derived.Deep.RegionHeld3
import Derived.Test.YtjkjmapibcfcdaaGreatGaA
import Derived.Test.YtjkjmapibcfcdaaGreatGaT
import Derived.Deep.DeepCutAuto
namespace Go.Proofs.YtjkjmapibcfcdaaGreat
open Go.ChangeShapes Go.WideShapes Go.ChangeAt Go.RowKit
set_option linter.unusedSimpArgs false
set_option linter.unusedVariables false
set_option maxRecDepth 100000
def sumD (es : List Ent) : Nat := (es.map fun e => e.data.size).sum
def RdEntryS (v : Value) (m : List Ent) (W : World) : Prop := Rw 4 Ent.cl W v m
def OwEntryS (lo hi : Nat) (v : Value) (m : List Ent) (W : World) : Prop := OwnRw 4 Ent.cl W lo v m ∧ (m = [] ∨ bO v < hi)
def sizEntryS (m : List Ent) : Nat := m.length + sumD m
theorem OwEntryS.rd {lo hi : Nat} {v : Value} {m : List Ent} {W : World} (h : OwEntryS lo hi v m W) : RdEntryS v m W := OwnRw.rw h.1
theorem RdEntryS.below {v : Value} {m : List Ent} {W W' : World} (h : RdEntryS v m W) (b : Below W.heap.size W W') : RdEntryS v m W' := Rw.below h b
theorem formEntryS {v : Value} {m : List Ent} {W : World} (h : RdEntryS v m W) : ∃ a cap, v = .slice a m.length cap ∧ m.length ≤ 9223372036854775807 := by
 obtain ⟨h0, a, cap, rfl, -, -⟩ := h
 exact ⟨a, cap, rfl, h0⟩
theorem OwEntryS.sits {lo hi : Nat} {w : World} {v : Value} {m : List Ent} (h : OwEntryS lo hi v m w) (hf : hi ≤ w.heap.size) : Sits (OwEntryS lo hi v m) lo hi w := by
 refine ⟨hf, fun W hW => ⟨?_, h.2⟩⟩
 obtain ⟨⟨h0, a, cap, rfl, hcap, h⟩, hl⟩ := h
 refine ⟨h0, a, cap, rfl, hcap, ?_⟩
 rcases hl with hl | hl
 ·exact .inl hl
 ·rcases h with h | ⟨b, off, rfl, hb, hc⟩
  ·exact .inl h
  ·have e := hW b hb hl
   exact .inr ⟨b, off, rfl, hb, fun i hi j u hu => ⟨(World.cell?_of_block (a := ⟨b, off + i * 4 + j, none⟩) e).trans (hc i hi j u hu).1, (World.frozen?_of_block (a := ⟨b, off + i * 4 + j, none⟩) e).trans (hc i hi j u hu).2⟩⟩
theorem OwnRw.lt {w : World} {base : Nat} {v : Value} {m : List Ent} (h : OwnRw 4 Ent.cl w base v m) : m = [] ∨ bO v < w.heap.size := by
 obtain ⟨-, a, cap, rfl, -, h⟩ := h
 rcases h with h | ⟨b, off, rfl, hb, hc⟩
 ·exact .inl h
 ·rcases Nat.eq_zero_or_pos m.length with h1 | h1
  ·exact .inl (List.length_eq_zero_iff.1 h1)
  ·exact .inr (dCell_lt (hc 0 h1 0 _ rfl).1)
theorem OwnRw.ge {w : World} {base : Nat} {v : Value} {m : List Ent} (h : OwnRw 4 Ent.cl w base v m) : m = [] ∨ base ≤ bO v := by
 obtain ⟨-, a, cap, rfl, -, h⟩ := h
 rcases h with h | ⟨b, off, rfl, hb, hc⟩
 ·exact .inl h
 ·exact .inr hb
theorem OwnRw.sits {w : World} {base : Nat} {v : Value} {m : List Ent} (h : OwnRw 4 Ent.cl w base v m) : Sits (OwEntryS base w.heap.size v m) base w.heap.size w := OwEntryS.sits ⟨h, h.lt⟩ (Nat.le_refl _)
theorem Wr.set {lo hi b o : Nat} {w wr : World} (h : Wr lo hi w wr) (h1 : lo ≤ b) (h2 : b < hi) (u : Value) : Wr lo hi w (wr.setCell ⟨b, o, none⟩ u) :=
 h.trans ⟨rfl, rfl, rfl, by simp, fun k hk hn => Below.heap_setCell _ _ _ k (fun e => by simp at e; omega)⟩
theorem bytes_loop_len (b : ByteArray) (i : Nat) (r : List UInt8) : (ByteArray.toList.loop b i r).length = (b.size - i) + r.length := by
 induction h : b.size - i generalizing i r with
 | zero =>
  rw [ByteArray.toList.loop]
  have : ¬ i < b.size := by omega
  simp [this]
 | succ n ih =>
  rw [ByteArray.toList.loop]
  have : i < b.size := by omega
  simp [this]
  rw [ih (i+1) _ (by omega)]
  simp
  omega
theorem bytes_ne (d : ByteArray) (h : d.size ≠ 0) : d.toList.isEmpty = false := by
 have e : d.toList.length = d.size := by rw [ByteArray.toList, bytes_loop_len]; simp
 cases hd : d.toList with
 | nil => rw [hd] at e; simp at e; omega
 | cons a l => rfl
theorem bytes_nil (d : ByteArray) (h : d.size = 0) : d = ⟨#[]⟩ := by
 obtain ⟨a⟩ := d
 have : a.size = 0 := h
 congr 1
 exact Array.eq_empty_of_size_eq_zero this
theorem specEntOk_yes (e : Ent) (h : entP e) (w : World) :
  Calls Tryz.prog 81 #[e.val] w fun r w' => r = .returned (.bool true) ∧ Below w.heap.size w w' := by
 obtain ⟨x, v, h0, d⟩ := e
 obtain ⟨hp, v0, v1, hv, hd, hh⟩ := h
 simp only at hp v0 v1 hv hd hh
 rcases Int.lt_or_le 0 v with hv0 | hv0
 ·have hv' := hv hv0
  cases h0 with
  | false => exact specEntOk_w1 x v d hp hv0 v1 hv' (by omega) w
  | true =>
   obtain rfl := bytes_nil d (hh rfl).2
   exact specEntOk_w2 x v hp hv0 v1 hv' w
 ·obtain rfl : v = 0 := by omega
  cases h0 with
  | false => exact specEntOk_w0f x d hp (by omega) w
  | true => exact absurd (hh rfl).1 (by omega)
theorem specEntOk_no (e : Ent) (hf : e.fits) (h : ¬ entP e) (w : World) :
  Calls Tryz.prog 81 #[e.val] w fun r w' => r = .returned (.bool false) ∧ Below w.heap.size w w' := by
 obtain ⟨x, v, h0, d⟩ := e
 obtain ⟨f1, f2, f3, f4, f5⟩ := hf
 simp only at f1 f2 f3 f4 f5
 unfold entP at h
 simp only at h
 by_cases hp : isPl x
 ·by_cases hr : v < 0 ∨ 30 < v
  ·exact specEntOk_no2 x v h0 d hp hr w
  ·have r0 : 0 ≤ v := by omega
   have r1 : v ≤ 30 := by omega
   by_cases hd : (40 : Int) < (d.size : Int)
   ·rcases Int.lt_or_le 0 v with hv0 | hv0
    ·by_cases hv : v ≤ x / 4294967296
     ·exact specEntOk_no3 x v h0 d hp hv0 r1 hv w
     ·exact specEntOk_no5 x v h0 d hp hv0 r1 (by omega) hd w
    ·obtain rfl : v = 0 := by omega
     exact specEntOk_no4 x h0 d hp hd w
   ·rcases Int.lt_or_le 0 v with hv0 | hv0
    ·by_cases hv : v ≤ x / 4294967296
     ·exact specEntOk_no3 x v h0 d hp hv0 r1 hv w
     ·cases h0 with
      | false => exact absurd ⟨hp, r0, r1, fun _ => by omega, by omega, fun h => by cases h⟩ h
      | true =>
       refine specEntOk_w3 x v d hp hv0 r1 (by omega) (by omega) (bytes_ne d fun h1 => ?_) w
       exact h ⟨hp, r0, r1, fun _ => by omega, by omega, fun _ => ⟨hv0, h1⟩⟩
    ·obtain rfl : v = 0 := by omega
     cases h0 with
     | false => exact absurd ⟨hp, r0, r1, fun h => by omega, by omega, fun h => by cases h⟩ h
     | true => exact specEntOk_w0t x d hp (by omega) w
 ·exact specEntOk_no1 x v h0 d f2 hp w
theorem Below.row {w w' : World} (h : Below w.heap.size w w') (row : Option Nat) : w.grownBy w' row := ⟨h.os, h.tape, h.output, h.size, fun k hk _ => h.block k hk⟩
theorem specEntOk_any (e : Ent) (hf : e.fits) (w : World) : Calls Tryz.prog 81 #[e.val] w fun r w' => RetB (entP e) r ∧ Below w.heap.size w w' := by
 by_cases h : entP e
 ·exact (specEntOk_yes e h w).mono fun r w' ⟨h1, h2⟩ => ⟨h1 ▸ RetB.yes h, h2⟩
 ·exact (specEntOk_no e hf h w).mono fun r w' ⟨h1, h2⟩ => ⟨h1 ▸ RetB.no h, h2⟩
set_option maxHeartbeats 2000000 in
theorem l6List_any (v : Value) (es : List Ent) (n : Nat) (w : World) (hv : Rw 4 Ent.cl w v es) (hf : fitE es) :
  Calls Tryz.prog 179 #[v, .int .i64 (n : Int)] w fun e w' => RetB (listP es n) e ∧ Below w.heap.size w w' := by
 have HV := dH fun W (hb : Below w.heap.size w W) => hv.below hb
 have HF := dH hf
 obtain ⟨h0, a, cap, rfl, -, -⟩ := hv
 clear hf
 by_cases hn : (n : Int) < (es.length : Int)
 ·have hno : Hid (¬ listP es n) := fun h => by have := h.1; omega
  clear HV HF
  go_enter Tryz.func179, Tryz.ntmps179
  go_wp2
  go_ret
  exact ⟨RetB.no (dU hno), Below.refl _ _⟩
 ·go_enter Tryz.func179, Tryz.ntmps179
  go_wp2
  go_loopw [5] (fun x wr => ∃ k : Nat, x = .int .i64 (k : Int) ∧ k ≤ es.length ∧ Hid (∀ i (h : i < es.length), i < k → entP es[i]) ∧ Below w.heap.size w wr) (fun x _ => es.length - (intOf x).toNat)
  case atStart => exact ⟨0, rfl, Nat.zero_le _, (fun i h h' => by omega), Below.refl _ _⟩
  case round =>
   obtain ⟨k, rfl, hk, hinv, hb⟩ := hrel
   by_cases hlt : (k : Int) < (es.length : Int)
   ·have hkl : k < es.length := by omega
    obtain ⟨b, off, rfl, hc⟩ := (dU HV wr hb).ent hkl
    obtain ⟨k0, k1, k2, k3⟩ := hc k hkl
    have CE := dH (specEntOk_any es[k] (dU HF _ (List.getElem_mem hkl)) wr)
    have hst : Hid (entP es[k] → ∀ i (h : i < es.length), i < k + 1 → entP es[i]) := fun he i h h' => by
     rcases Nat.lt_or_ge i k with hlt' | hge
     ·exact dU hinv i h hlt'
     ·obtain rfl : i = k := by omega
      exact he
    have hno : Hid (¬ entP es[k] → ¬ listP es n) := fun he h => he (h.2 _ (List.getElem_mem hkl))
    generalize es[k] = e at *
    obtain ⟨x, wv, ho, d⟩ := e
    unfold Ent.val at CE
    simp only at *
    clear hc hinv
    go_wp2_with fail
    refine (dU CE).mono ?_
    rintro r w1 ⟨⟨bb, rfl, hbb⟩, b1⟩
    have hb1 := bT hb b1
    clear b1 CE k0 k1 k2 k3 hb
    cases bb
    ·have R := dH (dU hno fun h => by have := hbb.2 h; cases this)
     clear hbb
     go_wp2
     go_ret
     exact ⟨RetB.no (dU R), hb1⟩
    ·have R := dH (dU hst (hbb.1 rfl))
     clear hbb
     go_wp2
     go_roundw
     case rel => exact ⟨k + 1, by go_num, by omega, R, hb1⟩
     case measure => simp [intOf]; omega
   ·have hyes : Hid (listP es n) := ⟨by omega, fun e he => by
     obtain ⟨i, hi, rfl⟩ := List.getElem_of_mem he
     exact dU hinv i hi (by omega)⟩
    clear hinv HV HF
    go_wp2
    go_ret
    exact ⟨RetB.yes (dU hyes), hb⟩
set_option maxHeartbeats 2000000 in
theorem l6Asc_any (v : Value) (es : List Ent) (w : World) (hv : Rw 4 Ent.cl w v es) :
  Calls Tryz.prog 80 #[v] w fun e w' => RetB (ascE es) e ∧ Drew w w' := by
 have HV := dH hv
 obtain ⟨h0, a, cap, rfl, -, -⟩ := hv
 go_enter Tryz.func80, Tryz.ntmps80
 go_wp2
 go_loopw [3] (fun x wr => ∃ k : Nat, x = .int .i64 ((k + 1 : Nat) : Int) ∧ (k ≤ es.length) ∧ Hid (∀ i (h : i + 1 < es.length), i < k → es[i].pl < es[i + 1].pl) ∧ Drew w wr) (fun x _ => es.length + 1 - (intOf x).toNat)
 case atStart => exact ⟨0, rfl, Nat.zero_le _, (fun i h h' => by omega), Drew.refl _⟩
 case round =>
  obtain ⟨k, rfl, hk, hinv, hdr⟩ := hrel
  by_cases hlt : ((k + 1 : Nat) : Int) < (es.length : Int)
  ·have hkl : k + 1 < es.length := by omega
   obtain ⟨b, off, rfl, hc⟩ := (dU HV).ent hkl
   have k0 : wr.cell? ⟨b, off + k * 4, none⟩ = some (.int .i64 es[k].pl) := (hdr.cell _).trans (hc k (by omega)).1
   have k1 : wr.cell? ⟨b, off + (k + 1) * 4, none⟩ = some (.int .i64 es[k + 1].pl) := (hdr.cell _).trans (hc (k + 1) hkl).1
   have hst : Hid (es[k].pl < es[k + 1].pl → ∀ i (h : i + 1 < es.length), i < k + 1 → es[i].pl < es[i + 1].pl) := fun he i h h' => by
    rcases Nat.lt_or_ge i k with hlt' | hge
    ·exact dU hinv i h hlt'
    ·obtain rfl : i = k := by omega
     exact he
   have hno : Hid (¬ es[k].pl < es[k + 1].pl → ¬ ascE es) := fun he h => he (h k hkl)
   generalize es[k].pl = x at *
   generalize es[k + 1].pl = y at *
   have t1 : (0 : Int) ≤ (k : Int) := by omega
   have t2 : (k : Int) < (es.length : Int) := by omega
   have t3 : IntKind.i64.wrap (((k + 1 : Nat) : Int) - 1) = (k : Int) := by rw [IntKind.wrap_i64]; omega
   have t4 : IntKind.i64.wrap ((k : Int) + 1 - 1) = (k : Int) := by rw [IntKind.wrap_i64]; omega
   clear hc hinv HV
   by_cases hxy : y ≤ x
   ·have hd : decide (y ≤ x) = true := decide_eq_true hxy
    have R := dH (dU hno (by omega))
    go_wp2
    go_quiet (fail)
    go_wp2
    go_ret
    exact ⟨RetB.no (dU R), hdr.drewN _⟩
   ·have hd : decide (y ≤ x) = false := decide_eq_false hxy
    have R := dH (dU hst (by omega))
    go_wp2
    go_quiet (fail)
    go_wp2
    go_roundw
    case rel => exact ⟨k + 1, by go_num, by omega, R, hdr.drewN _⟩
    case measure => simp [intOf]; omega
  ·have hyes : Hid (ascE es) := fun i h => dU hinv i h (by omega)
   clear hinv HV
   go_wp2
   go_ret
   exact ⟨RetB.yes (dU hyes), hdr⟩
def fitS (s : St) : Prop := fitE s.kept ∧ fitE s.late ∧ -9223372036854775808 ≤ s.lock ∧ s.lock ≤ 9223372036854775807
def Rs (w : World) (v : Value) (s : St) : Prop := ∃ kv lv, v = .agg #[kv, lv, .int .i64 s.lock] ∧ Rw 4 Ent.cl w kv s.kept ∧ Rw 4 Ent.cl w lv s.late
theorem Rs.below {w w' : World} {v : Value} {s : St} (h : Rs w v s) (hb : Below w.heap.size w w') : Rs w' v s := by
 obtain ⟨kv, lv, h1, h2, h3⟩ := h
 exact ⟨kv, lv, h1, h2.below hb, h3.below hb⟩
set_option maxHeartbeats 2000000 in
theorem specStoreOk_any (v : Value) (s : St) (w : World) (hv : Rs w v s) (hf : fitS s) :
  Calls Tryz.prog 162 #[v] w fun e w' => RetB (stP s) e ∧ Below w.heap.size w w' := by
 obtain ⟨kv, lv, rfl, hk, hl⟩ := hv
 obtain ⟨f1, f2, f3, f4⟩ := hf
 have C1 := dH fun W (hb : Below w.heap.size w W) => l6List_any kv s.kept 200 W (hk.below hb) f1
 have C2 := dH fun W (hb : Below w.heap.size w W) => l6List_any lv s.late 20 W (hl.below hb) f2
 have C3 := dH fun W (hb : Below w.heap.size w W) => l6Asc_any kv s.kept W (hk.below hb)
 obtain ⟨-, ka, kc, rfl, -, -⟩ := hk
 obtain ⟨-, la, lc, rfl, -, -⟩ := hl
 have SD : Hid (stP s ↔ listP s.kept 200 ∧ listP s.late 20 ∧ ascE s.kept ∧ 0 ≤ s.lock ∧ s.lock ≤ 30) := Iff.rfl
 generalize stP s = P at *
 generalize s.lock = sl at *
 have X0 := Bx.new w [.slice ka s.kept.length kc, .slice la s.late.length lc, .int .i64 sl] 174
 have B0 : Below w.heap.size w (w.alloc (.cells #[.slice ka s.kept.length kc, .slice la s.late.length lc, .int .i64 sl] 174)) := (Below.refl _ _).alloc (Nat.le_refl _) _
 have HX0 := dH X0
 clear X0
 go_enter Tryz.func162, Tryz.ntmps162
 go_wp2_with fail
 refine (dU C1 _ B0).mono ?_
 rintro e w1 ⟨⟨b1, rfl, h1⟩, bl1⟩
 have B1 := bT B0 bl1
 have HX1 := dH ((dU HX0).below bl1)
 have k0 := dU HX1 0 _ rfl
 have k1 := dU HX1 1 _ rfl
 have k2 := dU HX1 2 _ rfl
 clear B0 bl1 HX0 C1
 cases b1
 ·have R : RetB P (.returned (.bool false)) := RetB.no fun h => by have := h1.2 ((dU SD).1 h).1; cases this
  clear h1
  go_wp2
  go_ret
  exact ⟨R, B1⟩
 have H1 := dH (h1.1 rfl)
 clear h1
 go_wp2_with fail
 refine (dU C2 _ B1).mono ?_
 rintro e w2 ⟨⟨b2, rfl, h2⟩, bl2⟩
 have B2 := bT B1 bl2
 have HX2 := dH ((dU HX1).below bl2)
 clear k0 k1 k2
 have k0 := dU HX2 0 _ rfl
 have k1 := dU HX2 1 _ rfl
 have k2 := dU HX2 2 _ rfl
 clear B1 bl2 HX1 C2
 cases b2
 ·have R : RetB P (.returned (.bool false)) := RetB.no fun h => by have := h2.2 ((dU SD).1 h).2.1; cases this
  clear h2
  go_wp2
  go_ret
  exact ⟨R, B2⟩
 have H2 := dH (h2.1 rfl)
 clear h2
 go_wp2_with fail
 refine (dU C3 _ B2).mono ?_
 rintro e w3 ⟨⟨b3, rfl, h3⟩, dr3⟩
 have B3 := bT B2 dr3.below
 have HX3 := dH ((dU HX2).below dr3.below)
 clear k0 k1 k2
 have k0 := dU HX3 0 _ rfl
 have k1 := dU HX3 1 _ rfl
 have k2 := dU HX3 2 _ rfl
 clear B2 dr3 HX2 C3
 cases b3
 ·have R : RetB P (.returned (.bool false)) := RetB.no fun h => by have := h3.2 ((dU SD).1 h).2.2.1; cases this
  clear h3
  go_wp2
  go_ret
  exact ⟨R, B3⟩
 have H3 := dH (h3.1 rfl)
 clear h3
 by_cases hs : 0 ≤ sl ∧ sl ≤ 30
 ·have C4 := dH fun W => l1In_yes sl 0 30 hs.1 hs.2 W
  have R : RetB P (.returned (.bool true)) := RetB.yes ((dU SD).2 ⟨dU H1, dU H2, dU H3, hs⟩)
  clear hs
  go_wp2_with fail
  refine (dU C4 _).mono ?_
  rintro e w4 ⟨rfl, rfl⟩
  go_wp2
  go_ret
  exact ⟨R, B3⟩
 ·have C4 := dH fun W => l1In_no sl 0 30 (by omega) W
  have R : RetB P (.returned (.bool false)) := RetB.no fun h => hs ((dU SD).1 h).2.2.2
  clear hs
  go_wp2_with fail
  refine (dU C4 _).mono ?_
  rintro e w4 ⟨rfl, rfl⟩
  go_wp2
  go_ret
  exact ⟨R, B3⟩
abbrev ApE (w : World) (base : Nat) (v : Value) (es : List Ent) : Prop := ApR 36 4 Ent.cl w base v es
def OwS (w : World) (base : Nat) (v : Value) (s : St) : Prop := ∃ kv lv, v = .agg #[kv, lv, .int .i64 s.lock] ∧ ApE w base kv s.kept ∧ ApE w base lv s.late ∧ (touch kv = none ∨ touch kv ≠ touch lv)
theorem OwS.rs {w : World} {base : Nat} {v : Value} {s : St} (h : OwS w base v s) : Rs w v s := by
  obtain ⟨kv, lv, h1, h2, h3, -⟩ := h
  exact ⟨kv, lv, h1, (ApR.own elemE h2).rw, (ApR.own elemE h3).rw⟩
theorem OwS.below {w w' : World} {base : Nat} {v : Value} {s : St} (h : OwS w base v s) (hb : Below w.heap.size w w') : OwS w' base v s := by
  obtain ⟨kv, lv, h1, h2, h3, h4⟩ := h
  exact ⟨kv, lv, h1, h2.below hb, h3.below hb, h4⟩
theorem OwS.mono {w : World} {base base' : Nat} {v : Value} {s : St} (h : OwS w base v s) (hb : base' ≤ base) : OwS w base' v s := by
  obtain ⟨kv, lv, h1, h2, h3, h4⟩ := h
  exact ⟨kv, lv, h1, h2.mono hb, h3.mono hb, h4⟩
set_option maxHeartbeats 4000000 in
theorem l6Copy_any (v : Value) (s : St) (w : World) (hv : Rs w v s) (hk : s.kept.length ≤ 1048576) (hl : s.late.length ≤ 1048576) :
    Calls Tryz.prog 180 #[v] w fun e w' => (∃ u, e = .returned u ∧ OwS w' w.heap.size u s) ∧ Below w.heap.size w w' := by
  obtain ⟨kv, lv, rfl, rk, rl⟩ := hv
  have HK := dH fun W (hb : Below w.heap.size w W) => rk.below hb
  have HL := dH fun W (hb : Below w.heap.size w W) => rl.below hb
  obtain ⟨-, ka, kc, rfl, -, -⟩ := rk
  obtain ⟨-, la, lc, rfl, -, -⟩ := rl
  have EX : Hid (∀ (W : World) a b, ApE W w.heap.size a s.kept → ApE W w.heap.size b s.late → (touch a = none ∨ touch a ≠ touch b) → OwS W w.heap.size (.agg #[a, b, .int .i64 s.lock]) s) := fun W a b h1 h2 h3 => ⟨a, b, rfl, h1, h2, h3⟩
  generalize s.lock = sl at *
  have ba : ∀ (w : World) o, Below w.heap.size w (w.alloc o) := fun w o => (Below.refl _ _).alloc (Nat.le_refl _) o
  go_enter Tryz.func180, Tryz.ntmps180
  go_wp2_with fail
  have X0 := BxZ.new w [.slice ka s.kept.length kc, .slice la s.late.length lc, .int .i64 sl] 174 (Nat.le_refl _)
  have X1 := X0.below (ba _ (.cells #[.slice none 0 0, .slice none 0 0, .int .i64 0] 174))
  have Z1 := BxZ.new (B := w.heap.size) (w.alloc (.cells #[.slice ka s.kept.length kc, .slice la s.late.length lc, .int .i64 sl] 174)) [.slice none 0 0, .slice none 0 0, .int .i64 0] 174 (by simp)
  have B1 := bT (ba w (.cells #[.slice ka s.kept.length kc, .slice la s.late.length lc, .int .i64 sl] 174)) (ba _ (.cells #[.slice none 0 0, .slice none 0 0, .int .i64 0] 174))
  have e1 : (w.alloc (.cells #[.slice ka s.kept.length kc, .slice la s.late.length lc, .int .i64 sl] 174)).heap.size = w.heap.size + 1 := by simp
  rw [e1] at Z1
  clear X0 e1
  generalize hW : (w.alloc (.cells #[.slice ka s.kept.length kc, .slice la s.late.length lc, .int .i64 sl] 174)).alloc (.cells #[.slice none 0 0, .slice none 0 0, .int .i64 0] 174) = w0 at *
  clear hW
  have HX := dH X1
  have HZ := dH Z1
  have k0 := (X1.2 0 _ rfl).1
  have k1 := (X1.2 1 _ rfl).1
  have k2 := (X1.2 2 _ rfl).1
  have hlt := Z1.lt
  clear X1 Z1
  have HK0 := dH fun W (hb : Below w0.heap.size w0 W) => dU HK W (bT B1 hb)
  have HL0 := dH fun W (hb : Below w0.heap.size w0 W) => dU HL W (bT B1 hb)
  have hb1 : Below w0.heap.size w0 (w0.drew.alloc (.cells #[] 36)) := bT (Below.refl _ _).drew (ba _ _)
  have hb2 : Below w0.heap.size w0 ((w0.drew.alloc (.cells #[] 36)).alloc (.cells #[] 36)) := bT hb1 (ba _ _)
  clear HK HL
  go_region_held3 (fun W => W.cell? ⟨w.heap.size, 0, none⟩ = some (.slice ka s.kept.length kc) ∧ W.cell? ⟨w.heap.size, 1, none⟩ = some (.slice la s.late.length lc) ∧ W.cell? ⟨w.heap.size, 2, none⟩ = some (.int .i64 sl)) (first | exact ⟨sO (sO (sO q0 (.inl (by omega))) (.inl (by omega))) (.inl (by omega)), sO (sO (sO q1 (.inl (by omega))) (.inl (by omega))) (.inl (by omega)), sO (sO (sO q2 (.inl (by omega))) (.inl (by omega))) (.inl (by omega))⟩ | exact ⟨q0, q1, q2⟩ | exact ⟨p0, p1, p2⟩ | go_keep)
    (first
      | (refine step_cpR elemE rfl _ _ rfl _ rfl _ s.late rfl (dU HL0 _ (by first | exact hb5 | exact bT hb5 (ba _ _))) (by omega) ?_; intro v6 w6 P6 b6; have hb56 : Below w5.heap.size w5 w6 := by first | exact b6 | exact bT (ba _ _) b6
         have hb6 := bT hb5 hb56; have HT6 := dH (touch_ne elemE P5 P6 (by simp <;> omega)); have HP5 := dH ((P5.below hb56).mono (base' := w0.heap.size) (by have := hb1.size; have := hb2.size; simp <;> omega)); have q0 := ((dU HX).below hb6 |>.2 0 _ rfl).1; have q1 := ((dU HX).below hb6 |>.2 1 _ rfl).1; have q2 := ((dU HX).below hb6 |>.2 2 _ rfl).1; obtain ⟨z0, f0⟩ := ((dU HZ).below hb6).2 0 _ rfl; obtain ⟨z1, f1⟩ := ((dU HZ).below hb6).2 1 _ rfl; obtain ⟨z2, f2⟩ := ((dU HZ).below hb6).2 2 _ rfl; have HP6 := dH (P6.mono (base' := w0.heap.size) (by have := hb5.size; simp <;> omega)); obtain ⟨a6, c6, rfl⟩ := ApR.slice elemE P6; clear P6 b6 hb56 P5)
      | (refine step_cpR elemE rfl _ _ rfl _ rfl _ s.kept rfl (dU HK0 _ (by first | exact hb1 | exact hb2)) (by omega) ?_; intro v5 w5 P5 b5; have hb5 : Below w0.heap.size w0 w5 := by first | exact bT hb1 b5 | exact bT hb2 b5
         have p0 := ((dU HX).below hb5 |>.2 0 _ rfl).1; have p1 := ((dU HX).below hb5 |>.2 1 _ rfl).1; have p2 := ((dU HX).below hb5 |>.2 2 _ rfl).1; obtain ⟨a5, c5, rfl⟩ := ApR.slice elemE P5; clear b5))
  all_goals
    have BB := (((bT B1 hb6).setCell (p := ⟨w.heap.size + 1, 0, none⟩) (Nat.le_succ _) (.slice a5 s.kept.length c5)).setCell (p := ⟨w.heap.size + 1, 1, none⟩) (Nat.le_succ _) (.slice a6 s.late.length c6)).setCell (p := ⟨w.heap.size + 1, 2, none⟩) (Nat.le_succ _) (.int .i64 sl)
    have ZZ := ((((dU HZ).below hb6).put 0 (.slice a5 s.kept.length c5)).put 1 (.slice a6 s.late.length c6)).put 2 (.int .i64 sl)
    have e0 := (ZZ.2 0 _ rfl).1
    have e1 := (ZZ.2 1 _ rfl).1
    have e2 := (ZZ.2 2 _ rfl).1
    have OO := dH (dU EX _ _ _ (((ApR.far elemE (ApR.far elemE (ApR.far elemE (dU HP5) (b := w.heap.size + 1) (o' := 0) (by omega) (.slice a5 s.kept.length c5)) (b := w.heap.size + 1) (o' := 1) (by omega) (.slice a6 s.late.length c6)) (b := w.heap.size + 1) (o' := 2) (by omega) (.int .i64 sl))).mono B1.size) (((ApR.far elemE (ApR.far elemE (ApR.far elemE (dU HP6) (b := w.heap.size + 1) (o' := 0) (by omega) (.slice a5 s.kept.length c5)) (b := w.heap.size + 1) (o' := 1) (by omega) (.slice a6 s.late.length c6)) (b := w.heap.size + 1) (o' := 2) (by omega) (.int .i64 sl))).mono B1.size) (dU HT6))
    clear ZZ HP5 HP6 HT6 z0 z1 z2 f0 f1 f2 q0 q1 q2 p0 p1 p2 k0 k1 k2 EX HZ HX HK0 HL0 hb1 hb2
    generalize (((w6.setCell ⟨w.heap.size + 1, 0, none⟩ (.slice a5 s.kept.length c5)).setCell ⟨w.heap.size + 1, 1, none⟩ (.slice a6 s.late.length c6)).setCell ⟨w.heap.size + 1, 2, none⟩ (.int .i64 sl)) = V at *
    go_wp2
    refine bodyPost_ret (v := .agg #[.slice a5 s.kept.length c5, .slice a6 s.late.length c6, .int .i64 sl]) (by simp [results, Tryz.results180, go_sem, e0, e1, e2]) rfl ⟨⟨_, rfl, dU OO⟩, BB⟩
def RdStore (v : Value) (m : St) (W : World) : Prop := Rs W v m
def OwStore (lo hi : Nat) (v : Value) (m : St) (W : World) : Prop := ∃ kv lv, v = .agg #[kv, lv, .int .i64 m.lock] ∧ OwEntryS lo hi kv m.kept W ∧ OwEntryS lo hi lv m.late W ∧ (m.kept = [] ∨ m.late = [] ∨ bO kv ≠ bO lv)
theorem OwStore.rd {lo hi : Nat} {v : Value} {m : St} {W : World} (h : OwStore lo hi v m W) : RdStore v m W := by
 obtain ⟨kv, lv, h1, h2, h3, -⟩ := h
 exact ⟨kv, lv, h1, h2.rd, h3.rd⟩
theorem RdStore.below {v : Value} {m : St} {W W' : World} (h : RdStore v m W) (b : Below W.heap.size W W') : RdStore v m W' := Rs.below h b
theorem OwStore.sits {lo hi : Nat} {w : World} {v : Value} {m : St} (h : OwStore lo hi v m w) (hf : hi ≤ w.heap.size) : Sits (OwStore lo hi v m) lo hi w := by
 obtain ⟨kv, lv, h1, h2, h3, h4⟩ := h
 have s2 := h2.sits hf
 have s3 := h3.sits hf
 exact ⟨hf, fun W hW => ⟨kv, lv, h1, s2.all W hW, s3.all W hW, h4⟩⟩
theorem OwS.sits {w : World} {base : Nat} {v : Value} {s : St} (h : OwS w base v s) : Sits (OwStore base w.heap.size v s) base w.heap.size w := by
 obtain ⟨kv, lv, h1, h2, h3, h4⟩ := h
 have o2 := ApR.own elemE h2
 have o3 := ApR.own elemE h3
 refine OwStore.sits ⟨kv, lv, h1, ⟨o2, o2.lt⟩, ⟨o3, o3.lt⟩, ?_⟩ (Nat.le_refl _)
 by_cases hk : s.kept = []
 ·exact .inl hk
 ·by_cases hl : s.late = []
  ·exact .inr (.inl hl)
  ·right; right
   have tb : ∀ {u : Value} {ms : List Ent}, ApE w base u ms → ms ≠ [] → touch u = some (bO u) := fun {u ms} hu hm => by
    rcases hu with ⟨h, -⟩ | hu
    ·exact absurd h hm
    ·rcases hu.2 with ⟨-, h0⟩ | ⟨g, cap, cur, rfl, -, -, hnc, -⟩
     ·exact absurd (List.length_eq_zero_iff.1 h0) hm
     ·have : ms.length ≠ 0 := fun e => hm (List.length_eq_zero_iff.1 e)
      have hc : cap ≠ 0 := by omega
      simp [touch, hc, bO]
   have t1 := tb h2 hk
   have t2 := tb h3 hl
   intro e
   rcases h4 with h4 | h4
   ·rw [t1] at h4; cases h4
   ·exact h4 (by rw [t1, t2, e])
theorem OwnRw.farE {w : World} {base b o : Nat} {v : Value} {m : List Ent} (h : OwnRw 4 Ent.cl w base v m) (hb : b < base) (u : Value) : OwnRw 4 Ent.cl (w.setCell ⟨b, o, none⟩ u) base v m := by
 obtain ⟨h0, a, cap, rfl, hcap, h⟩ := h
 refine ⟨h0, a, cap, rfl, hcap, ?_⟩
 rcases h with h | ⟨b', off, rfl, hb', hc⟩
 ·exact .inl h
 ·exact .inr ⟨b', off, rfl, hb', fun i hi j u' hu => ⟨sO (hc i hi j u' hu).1 (.inl (by omega)), (World.frozen?_setCell _ _ _ _).trans (hc i hi j u' hu).2⟩⟩
theorem OwEntryS.wr {lo hi lo' hi' : Nat} {v : Value} {m : List Ent} {w w' : World} (h : OwEntryS lo hi v m w) (hw : Wr lo' hi' w w') (hne : m = [] ∨ bO v < lo' ∨ hi' ≤ bO v) : OwEntryS lo hi v m w' := by
 have hlt := h.1.lt
 obtain ⟨⟨h0, a, cap, rfl, hcap, h⟩, hl⟩ := h
 refine ⟨⟨h0, a, cap, rfl, hcap, ?_⟩, hl⟩
 rcases hne with hne | hne
 ·exact .inl hne
 ·rcases h with h | ⟨b', off, rfl, hb, hc⟩
  ·exact .inl h
  ·rcases hlt with hlt | hlt
   ·exact .inl hlt
   ·have e := hw.block b' hlt hne
    exact .inr ⟨b', off, rfl, hb, fun i hi j u hu => ⟨(World.cell?_of_block (a := ⟨b', off + i * 4 + j, none⟩) e).trans (hc i hi j u hu).1, (World.frozen?_of_block (a := ⟨b', off + i * 4 + j, none⟩) e).trans (hc i hi j u hu).2⟩⟩
theorem OwEntryS.narrow {lo hi : Nat} {v : Value} {m : List Ent} {w : World} (h : OwEntryS lo hi v m w) (hm : m ≠ []) : OwEntryS (bO v) (bO v + 1) v m w ∧ lo ≤ bO v ∧ bO v < hi := by
 have h1 := h.1.ge.resolve_left hm
 have h2 := h.2.resolve_left hm
 refine ⟨⟨?_, .inr (by omega)⟩, h1, h2⟩
 obtain ⟨⟨h0, a, cap, rfl, hcap, h⟩, -⟩ := h
 refine ⟨h0, a, cap, rfl, hcap, ?_⟩
 rcases h with h | ⟨b', off, rfl, hb, hc⟩
 ·exact .inl h
 ·exact .inr ⟨b', off, rfl, Nat.le_refl _, hc⟩
theorem OwEntryS.wide {lo hi lo' hi' : Nat} {v : Value} {m : List Ent} {w : World} (h : OwEntryS lo hi v m w) (h1 : lo' ≤ lo) (h2 : hi ≤ hi') : OwEntryS lo' hi' v m w := ⟨h.1.mono h1, by rcases h.2 with h | h; exact .inl h; exact .inr (by omega)⟩
end Go.Proofs.YtjkjmapibcfcdaaGreat
