/- Several texts in one: IdxP, WrSb. -/
import Derived.Test.YtkiclbbialadlaaGreatGaA
import Derived.Test.YtkiclbbialadlaaGreatGw2
import Derived.Test.YtkiclbbialadlaaGreatGaB
namespace Go.Proofs.YtkiclbbialadlaaGreat
open Go.ChangeShapes Go.WideShapes Go.ChangeAt Go.RowKit
set_option linter.unusedSimpArgs false
set_option linter.unusedVariables false
set_option maxRecDepth 100000
def idxL {α : Type} (q : α → Bool) : List α → Int
 | [] => -1
 | e :: l => if q e then 0 else (if idxL q l = -1 then -1 else idxL q l + 1)
theorem idxL_ge {α : Type} (q : α → Bool) : ∀ l : List α, -1 ≤ idxL q l ∧ idxL q l < l.length
 | [] => by simp [idxL]
 | e :: l => by
  have := idxL_ge q l
  unfold idxL
  split
  ·simp <;> omega
  ·split <;> simp <;> omega
theorem idxL_none {α : Type} (q : α → Bool) : ∀ l : List α, (∀ i (h : i < l.length), q l[i] = false) → idxL q l = -1
 | [], _ => rfl
 | e :: l, h => by
  have h0 : q e = false := h 0 (by simp)
  have h1 := idxL_none q l fun i hi => h (i + 1) (by simpa using hi)
  unfold idxL
  rw [h0, h1]
  rfl
theorem idxL_at {α : Type} (q : α → Bool) : ∀ (l : List α) (k : Nat) (hk : k < l.length), (∀ i (h : i < l.length), i < k → q l[i] = false) → q l[k] = true → idxL q l = (k : Int)
 | [], k, hk, _, _ => by simp at hk
 | e :: l, 0, hk, _, ho => by
  have h0 : q e = true := ho
  unfold idxL
  rw [h0]
  rfl
 | e :: l, k + 1, hk, h, ho => by
  have h0 : q e = false := h 0 (by simp) (by omega)
  have h1 := idxL_at q l k (by simpa using hk) (fun i hi hik => h (i + 1) (by simpa using hi) (by omega)) (by simpa using ho)
  unfold idxL
  rw [h0, h1, if_neg (by simp), if_neg (by omega)]
  omega
theorem idxL_neg {α : Type} {q : α → Bool} {l : List α} : idxL q l = -1 ↔ ∀ e ∈ l, q e = false := by
 induction l with
 | nil => simp [idxL]
 | cons e l ih =>
  have hg := idxL_ge q l
  unfold idxL
  cases hq : q e with
  | true => simp [hq]
  | false =>
   rw [if_neg (by simp)]
   by_cases h : idxL q l = -1
   ·rw [if_pos h]
    simp only [List.mem_cons, true_iff]
    rintro x (rfl | hx)
    ·exact hq
    ·exact ih.1 h x hx
   ·rw [if_neg h]
    constructor
    ·intro h'; omega
    ·intro h'
     exact absurd (ih.2 fun x hx => h' x (List.mem_cons_of_mem _ hx)) h
theorem list2_of {α : Type} {l : List α} (h : l.length = 2) : ∃ a b, l = [a, b] := match l, h with | [a, b], _ => ⟨a, b, rfl⟩
theorem list3_of {α : Type} {l : List α} (h : l.length = 3) : ∃ a b c, l = [a, b, c] := match l, h with | [a, b, c], _ => ⟨a, b, c, rfl⟩
theorem list6_of {α : Type} {l : List α} (h : l.length = 6) : ∃ a b c d e f, l = [a, b, c, d, e, f] := match l, h with | [a, b, c, d, e, f], _ => ⟨a, b, c, d, e, f, rfl⟩
theorem idxL_some {α : Type} (q : α → Bool) (l : List α) : RetB (∃ e ∈ l, q e = true) (.returned (.bool (decide (0 ≤ idxL q l)))) := ⟨_, rfl, by
 have hg := idxL_ge q l
 rw [decide_eq_true_iff]
 constructor
 ·intro h
  apply Classical.byContradiction
  intro hno
  have : idxL q l = -1 := idxL_neg.2 fun e he => by
   cases hqe : q e with
   | false => rfl
   | true => exact absurd ⟨e, he, hqe⟩ hno
  omega
 ·rintro ⟨e, he, hqe⟩
  apply Classical.byContradiction
  intro hno
  have h1 : idxL q l = -1 := by omega
  have := idxL_neg.1 h1 e he
  rw [hqe] at this
  cases this⟩
theorem all_not {α : Type} {q : α → Bool} {l : List α} {b : Bool} (h : b = true ↔ ∃ x ∈ l, (!(q x)) = true) : RetB (∀ x ∈ l, q x = true) (.returned (.bool (!b))) := ⟨_, rfl, by
 cases b with
 | true =>
  obtain ⟨x, hx, hq⟩ := h.1 rfl
  constructor
  ·intro h; cases h
  ·intro h'; rw [h' x hx] at hq; cases hq
 | false =>
  constructor
  ·intro _ x hx
   cases hq : q x with
   | true => rfl
   | false => exact absurd (h.2 ⟨x, hx, by rw [hq]; rfl⟩) (by simp)
  ·intro _; rfl⟩
noncomputable def bq (p : Prop) : Bool := @decide p (Classical.propDecidable p)
theorem bq_iff (p : Prop) : bq p = true ↔ p := @decide_eq_true_iff p (Classical.propDecidable p)
theorem RetB.bq {p : Prop} {e : Ending} (h : RetB p e) : e = .returned (.bool (bq p)) := by
 obtain ⟨b, rfl, h⟩ := h
 have : b = Go.Proofs.YtkiclbbialadlaaGreat.bq p := by
  cases b with
  | true => exact ((bq_iff p).2 (h.1 rfl)).symm
  | false =>
   cases e : Go.Proofs.YtkiclbbialadlaaGreat.bq p with
   | false => rfl
   | true => exact absurd (h.2 ((bq_iff p).1 e)) (by simp)
 rw [this]
theorem RetB.to {α : Type} {l : List α} {q : α → Bool} {Q : α → Prop} {e : Ending} (h : RetB (∀ x ∈ l, q x = true) e) (hq : ∀ x, q x = true ↔ Q x) : RetB (∀ x ∈ l, Q x) e := by
 obtain ⟨b, rfl, h⟩ := h
 exact ⟨b, rfl, h.trans ⟨fun h x hx => (hq x).1 (h x hx), fun h x hx => (hq x).2 (h x hx)⟩⟩
set_option maxHeartbeats 4000000 in
theorem toWord_any (p : Nst Wd) (w : World) (hl : p.m.acks.length ≤ 1048576) (h : Ns w (Sv Wd.acks p) p.m.acks) :
  Calls Tryz.prog 164 #[.agg #[.string p.m.data, .slice p.a p.m.acks.length p.c, .bool p.m.done]] w fun r w' => (∃ qa qc, r = .returned (.agg #[.string p.m.data, .slice qa p.m.acks.length qc, .bool p.m.done]) ∧ OwnN w' w.heap.size (.slice qa p.m.acks.length qc) p.m.acks) ∧ Below w.heap.size w w' := by
 have ba : ∀ (w : World) o, Below w.heap.size w (w.alloc o) := fun w o => (Below.refl _ _).alloc (Nat.le_refl _) o
 have C1 := dH fun W (hb : Below w.heap.size w W) => toIntS_any _ p.m.acks W (by omega) (h.below hb)
 obtain ⟨pa, pc, yd, yn, yb⟩ := p
 unfold Sv at C1
 simp only at *
 clear h
 have X0 := (Bx.new w [.string yd, .slice pa yn.length pc, .bool yb] 214).below (bT (ba _ (.cells #[.string ⟨#[]⟩, .slice none 0 0, .bool false] 209)) (ba _ (.cells #[.string yd, .slice none 0 0, .bool false] 209)))
 have Y0 := (BxZ.new (B := w.heap.size) (w.alloc (.cells #[.string yd, .slice pa yn.length pc, .bool yb] 214)) [.string ⟨#[]⟩, .slice none 0 0, .bool false] 209 (by simp)).below (ba _ (.cells #[.string yd, .slice none 0 0, .bool false] 209))
 have Z0 := BxZ.new (B := w.heap.size) ((w.alloc (.cells #[.string yd, .slice pa yn.length pc, .bool yb] 214)).alloc (.cells #[.string ⟨#[]⟩, .slice none 0 0, .bool false] 209)) [.string yd, .slice none 0 0, .bool false] 209 (by simp <;> omega)
 have B0 := bT (bT (ba w (.cells #[.string yd, .slice pa yn.length pc, .bool yb] 214)) (ba _ (.cells #[.string ⟨#[]⟩, .slice none 0 0, .bool false] 209))) (ba _ (.cells #[.string yd, .slice none 0 0, .bool false] 209))
 have e1 : (w.alloc (.cells #[.string yd, .slice pa yn.length pc, .bool yb] 214)).heap.size = w.heap.size + 1 := by simp
 have e2 : ((w.alloc (.cells #[.string yd, .slice pa yn.length pc, .bool yb] 214)).alloc (.cells #[.string ⟨#[]⟩, .slice none 0 0, .bool false] 209)).heap.size = w.heap.size + 1 + 1 := by simp
 rw [e1] at Y0
 rw [e2] at Z0
 clear e1 e2 hl
 go_enter Tryz.func164, Tryz.ntmps164
 go_wp2_with fail
 generalize ((w.alloc (.cells #[.string yd, .slice pa yn.length pc, .bool yb] 214)).alloc (.cells #[.string ⟨#[]⟩, .slice none 0 0, .bool false] 209)).alloc (.cells #[.string yd, .slice none 0 0, .bool false] 209) = w0 at *
 have hlt := Z0.lt
 refine (dU C1 _ B0).mono ?_
 rintro r w1 ⟨⟨u1, rfl, O1⟩, b1⟩
 have hs1 := b1.size
 obtain ⟨-, a1, c1, rfl, -, -⟩ := O1.bs
 have B1 := bT B0 b1
 have X1 := X0.below b1
 have Y1 := Y0.below b1
 have Z1 := Z0.below b1
 have k2 := X1 2 _ rfl
 obtain ⟨z0, f0⟩ := Z1.2 0 _ rfl
 obtain ⟨z1, f1⟩ := Z1.2 1 _ rfl
 obtain ⟨z2, f2⟩ := Z1.2 2 _ rfl
 obtain ⟨y0, p0⟩ := Y1.2 0 _ rfl
 obtain ⟨y1, p1⟩ := Y1.2 1 _ rfl
 obtain ⟨y2, p2⟩ := Y1.2 2 _ rfl
 have YY := dH (((((Y1.far (b' := w.heap.size + 1 + 1) (o := 1) (by omega) (.slice a1 yn.length c1)).far (b' := w.heap.size + 1 + 1) (o := 2) (by omega) (.bool yb)).put 0 (.string yd)).put 1 (.slice a1 yn.length c1)).put 2 (.bool yb))
 have OO := dH (((((O1.far (b := w.heap.size + 1 + 1) (o := 1) (by omega) (.slice a1 yn.length c1)).far (b := w.heap.size + 1 + 1) (o := 2) (by omega) (.bool yb)).far (b := w.heap.size + 1) (o := 0) (by omega) (.string yd)).far (b := w.heap.size + 1) (o := 1) (by omega) (.slice a1 yn.length c1)).far (b := w.heap.size + 1) (o := 2) (by omega) (.bool yb))
 have BB := dH (((((B1.setCell (p := ⟨w.heap.size + 1 + 1, 1, none⟩) (by simp only; omega) (.slice a1 yn.length c1)).setCell (p := ⟨w.heap.size + 1 + 1, 2, none⟩) (by simp only; omega) (.bool yb)).setCell (p := ⟨w.heap.size + 1, 0, none⟩) (by simp only; omega) (.string yd)).setCell (p := ⟨w.heap.size + 1, 1, none⟩) (by simp only; omega) (.slice a1 yn.length c1)).setCell (p := ⟨w.heap.size + 1, 2, none⟩) (by simp only; omega) (.bool yb))
 have w0le : w.heap.size ≤ w0.heap.size := by omega
 clear X0 Y0 Z0 B0 C1 b1 O1 X1 Y1 Z1 B1
 go_wp2_with fail
 generalize (((((w1.setCell ⟨w.heap.size + 1 + 1, 1, none⟩ (.slice a1 yn.length c1)).setCell ⟨w.heap.size + 1 + 1, 2, none⟩ (.bool yb)).setCell ⟨w.heap.size + 1, 0, none⟩ (.string yd)).setCell ⟨w.heap.size + 1, 1, none⟩ (.slice a1 yn.length c1)).setCell ⟨w.heap.size + 1, 2, none⟩ (.bool yb)) = V at *
 have q0 := ((dU YY).2 0 _ rfl).1
 have q1 := ((dU YY).2 1 _ rfl).1
 have q2 := ((dU YY).2 2 _ rfl).1
 clear z0 z1 z2 f0 f1 f2 y0 y1 y2 p0 p1 p2 k2
 refine bodyPost_ret (v := .agg #[.string yd, .slice a1 yn.length c1, .bool yb]) (by simp [results, Tryz.results164, go_sem, q0, q1, q2]) rfl ⟨⟨_, _, rfl, (dU OO).mono w0le⟩, dU BB⟩
theorem makeW (n : Nat) (h : n ≤ 1073741824) (w : World) : (Instr.makeSlice 128 (.int .i64 (n : Int)) (.int .i64 (n : Int))).run Tryz.prog w = .ok (.slice (some ⟨w.heap.size, 0, none⟩) n n) (w.alloc (.cells (madeCells (Value.agg #[.string ⟨#[]⟩, .slice none 0 0, .bool false]).cells (n * 3)) 209)) := by
 obtain ⟨i0, hi, hz0, hz1, hz2⟩ := info_parts (elemW).info
 have := run_make (P := Tryz.prog) w 128 209 i0 _ Tryz.underlying128 hi hz0 .i64 .i64 (n : Int) (n : Int) (by omega) (by omega) (by rw [hz2]; omega) (by omega)
 rw [hz1] at this
 simpa using this
def zeroWd : Nst Wd := ⟨none, 0, ⟨#[]⟩, [], false⟩
theorem zeroWd_cells : ∀ (j : Nat) (u : Value), (wdCl zeroWd)[j]? = some u → (Value.agg #[.string ⟨#[]⟩, .slice none 0 0, .bool false]).cells[j]? = some u := by
 have e : (Value.agg #[.string ⟨#[]⟩, .slice none 0 0, .bool false]).cells = #[.string ⟨#[]⟩, .slice none 0 0, .bool false] := by kernel_rfl
 intro j u hu
 rw [e]
 have : (wdCl zeroWd) = [.string ⟨#[]⟩, .slice none 0 0, .bool false] := rfl
 rw [this] at hu
 simpa using hu
def CopW (wr : World) (b : Nat) (rs : List (Nst Wd)) (k : Nat) (f : Nat → Nst Wd) : Prop :=
 RowG 3 wdCl wr b 0 rs.length f ∧ (∀ i (h : i < rs.length), i < k → (f i).m = rs[i].m ∧ OwnN wr (b + 1) (Sv Wd.acks (f i)) (f i).m.acks) ∧ ∀ i j, i < k → j < k → i < j → (f i).m.acks = [] ∨ (f j).m.acks = [] ∨ bO (Sv Wd.acks (f i)) ≠ bO (Sv Wd.acks (f j))
theorem CopW.step {wr w2 : World} {b k : Nat} {rs : List (Nst Wd)} {f : Nat → Nst Wd} (h : CopW wr b rs k f) (hk : k < rs.length) (hb2 : Below wr.heap.size wr w2) (hbw : b < wr.heap.size) {qa : Option Addr} {qc : Nat} (ho : OwnN w2 wr.heap.size (.slice qa rs[k].m.acks.length qc) rs[k].m.acks) :
  CopW (((w2.setCell ⟨b, k * 3, none⟩ (.string rs[k].m.data)).setCell ⟨b, k * 3 + 1, none⟩ (.slice qa rs[k].m.acks.length qc)).setCell ⟨b, k * 3 + 2, none⟩ (.bool rs[k].m.done)) b rs (k + 1) (putG f k ⟨qa, qc, rs[k].m⟩) := by
 obtain ⟨h1, h2, h3⟩ := h
 have far : ∀ {base : Nat} {v : Value} {xs : List Int}, OwnN w2 base v xs → b < base → OwnN (((w2.setCell ⟨b, k * 3, none⟩ (.string rs[k].m.data)).setCell ⟨b, k * 3 + 1, none⟩ (.slice qa rs[k].m.acks.length qc)).setCell ⟨b, k * 3 + 2, none⟩ (.bool rs[k].m.done)) base v xs := fun {base v xs} q hb => ((q.far hb _).far hb _).far hb _
 refine ⟨?_, fun i hi hik => ?_, fun i j hi hj hij => ?_⟩
 ·have r1 := (h1.below hb2).put wdCl_len hk 0 (by decide) (.string rs[k].m.data) ⟨(f k).a, (f k).c, ⟨rs[k].m.data, (f k).m.acks, (f k).m.done⟩⟩ rfl
  have r2 := r1.put wdCl_len hk 1 (by decide) (.slice qa rs[k].m.acks.length qc) ⟨qa, qc, ⟨rs[k].m.data, rs[k].m.acks, (f k).m.done⟩⟩ (by rw [putG_same]; rfl)
  have r3 := r2.put wdCl_len hk 2 (by decide) (.bool rs[k].m.done) ⟨qa, qc, rs[k].m⟩ (by rw [putG_same]; rfl)
  simpa [putG_twice] using r3
 ·by_cases e : i = k
  ·subst e
   rw [putG_same]
   exact ⟨rfl, far (ho.mono (by omega)) (by omega)⟩
  ·rw [putG_ne _ _ e]
   have q := h2 i hi (by omega)
   exact ⟨q.1, far (q.2.below hb2) (by omega)⟩
 ·by_cases e : j = k
  ·subst e
   rw [putG_same, putG_ne _ _ (by omega)]
   have q := h2 i (by omega) (by omega)
   rcases q.2.bs.lt with h | h
   ·exact .inl h
   ·rcases ho.ge with h' | h'
    ·exact .inr (.inl h')
    ·right; right
     have e1 : bO (Sv Wd.acks (⟨qa, qc, rs[j].m⟩ : Nst Wd)) = bO (.slice qa rs[j].m.acks.length qc) := rfl
     rw [e1]
     omega
  ·rw [putG_ne _ _ e, putG_ne _ _ (by omega)]
   exact h3 i j (by omega) (by omega) hij
set_option maxHeartbeats 4000000 in
theorem toWordS_own (v : Value) (ms : List Wd) (w : World) (hl : sizWordS ms ≤ 1048576) (hv : RdWordS v ms w) :
  Calls Tryz.prog 117 #[v] w fun r w' => (∃ u, r = .returned u ∧ OwWordS w.heap.size w'.heap.size u ms w') ∧ Below w.heap.size w w' := by
 obtain ⟨rs, rfl, hr, hn⟩ := hv
 have hlen : rs.length ≤ 1048576 := by unfold sizWordS at hl; rw [List.length_map] at hl; omega
 have HS : Hid (∀ k (hk : k < rs.length), rs[k].m.acks.length ≤ 1048576) := fun k hk => by
  have h1 := sumW_mem (ms := rs.map Nst.m) (k := k) (by simpa using hk)
  rw [List.getElem_map] at h1
  unfold sizWordS at hl
  omega
 have HV := dH fun W (hb : Below w.heap.size w W) => hr.below hb
 have HN := dH fun W (hb : Below w.heap.size w W) k (hk : k < rs.length) => (hn _ (List.getElem_mem hk)).below hb
 obtain ⟨h0, a, cap, rfl, -, -⟩ := hr
 have hmk := makeW rs.length (by omega)
 clear hn hl
 go_enter Tryz.func117, Tryz.ntmps117
 go_wp2
 go_loopw [4] (fun x wr => ∃ (k : Nat) (f : Nat → Nst Wd), x = .int .i64 (k : Int) ∧ k ≤ rs.length ∧ Hid (CopW wr w.heap.size rs k f) ∧ w.heap.size < wr.heap.size ∧ Below w.heap.size w wr) (fun x _ => rs.length - (intOf x).toNat)
 case atStart => exact ⟨0, fun _ => zeroWd, rfl, Nat.zero_le _, ⟨RowG.made w _ rs.length 209 zeroWd rfl zeroWd_cells, fun i h h' => by omega, fun i j h => by omega⟩, by simp, (Below.refl _ _).alloc (Nat.le_refl _) _⟩
 case round =>
  obtain ⟨k, f, rfl, hk, hz, hsz, hb⟩ := hrel
  by_cases hlt : (k : Int) < (rs.length : Int)
  ·have hkl : k < rs.length := by omega
   obtain ⟨b, off, rfl, hc⟩ := (dU HV wr hb).word hkl
   obtain ⟨c0, c1, c2⟩ := hc k hkl
   have CE := dH fun W (hB : Below wr.heap.size wr W) => toWord_any rs[k] W (dU HS k hkl) (dU HN W (bT hb hB) k hkl)
   have hin : Hid (∀ (w2 : World) (qa : Option Addr) (qc : Nat), Below wr.heap.size wr w2 → OwnN w2 wr.heap.size (.slice qa rs[k].m.acks.length qc) rs[k].m.acks → CopW (((w2.setCell ⟨w.heap.size, k * 3, none⟩ (.string rs[k].m.data)).setCell ⟨w.heap.size, k * 3 + 1, none⟩ (.slice qa rs[k].m.acks.length qc)).setCell ⟨w.heap.size, k * 3 + 2, none⟩ (.bool rs[k].m.done)) w.heap.size rs (k + 1) (putG f k ⟨qa, qc, rs[k].m⟩)) := fun w2 qa qc hB ho => (dU hz).step hkl hB hsz ho
   have hrow : Hid (∀ W, Below wr.heap.size wr W → RowG 3 wdCl W w.heap.size 0 rs.length f) := fun W hB => (dU hz).1.below hB
   generalize rs[k] = y at *
   obtain ⟨ya, yc, yd, yn, yb⟩ := y
   simp only at *
   clear hc hz
   go_wp2_with fail
   refine (dU CE _ (Below.refl _ _)).mono ?_
   rintro r w2 ⟨⟨qa, qc, rfl, ho⟩, b2⟩
   have Z2 := dU hrow w2 b2
   obtain ⟨z0, f0⟩ := Z2 k hkl 0 _ rfl
   obtain ⟨z1, f1⟩ := Z2 k hkl 1 _ rfl
   obtain ⟨z2, f2⟩ := Z2 k hkl 2 _ rfl
   have Z3 := dH (dU hin w2 qa qc b2 ho)
   simp only [Nat.zero_add, Nat.add_zero] at z0 z1 z2 f0 f1 f2
   have hb2 := bT hb b2
   have hb3 := dH (((hb2.setCell (p := ⟨w.heap.size, k * 3, none⟩) (Nat.le_refl _) (.string yd)).setCell (p := ⟨w.heap.size, k * 3 + 1, none⟩) (Nat.le_refl _) (.slice qa yn.length qc)).setCell (p := ⟨w.heap.size, k * 3 + 2, none⟩) (Nat.le_refl _) (.bool yb))
   have hs2 : w.heap.size < (((w2.setCell ⟨w.heap.size, k * 3, none⟩ (.string yd)).setCell ⟨w.heap.size, k * 3 + 1, none⟩ (.slice qa yn.length qc)).setCell ⟨w.heap.size, k * 3 + 2, none⟩ (.bool yb)).heap.size := by simpa using Nat.lt_of_lt_of_le hsz b2.size
   clear CE b2 c0 c1 c2 hb hrow Z2 hb2 hin ho
   go_wp2
   go_roundw
   case rel => exact ⟨k + 1, _, by go_num, by omega, Z3, hs2, dU hb3⟩
   case measure => simp [intOf]; omega
  ·have O : Hid (OwWordS w.heap.size wr.heap.size (.slice (some ⟨w.heap.size, 0, none⟩) rs.length rs.length) (rs.map Nst.m) wr) := by
    obtain ⟨h1, h2, h3⟩ := dU hz
    have q := OwK.build (sub := Wd.acks) (lo := w.heap.size) (hi := wr.heap.size) (cap := rs.length) h1 (Nat.le_refl _) (.inr hsz) (by omega) (fun i hi => by
     have q := (h2 i hi (by omega)).2
     exact ⟨q.mono (by omega), q.bs.lt⟩) (fun i j hi hj hij => by
     rcases Nat.lt_or_gt_of_ne hij with h | h
     ·exact h3 i j (by omega) (by omega) h
     ·rcases h3 j i (by omega) (by omega) h with h | h | h
      ·exact .inr (.inl h)
      ·exact .inl h
      ·exact .inr (.inr (Ne.symm h))) (fun i hi => by
     rcases (h2 i hi (by omega)).2.ge with h | h
     ·exact .inl h
     ·exact .inr (by omega))
    have hm : ((List.range rs.length).map fun i => (f i).m) = rs.map Nst.m := range_map_m (ms := rs.map Nst.m) (by simp) (fun i hi => by
     have hi' : i < rs.length := by simpa using hi
     rw [List.getElem_map]
     exact (h2 i hi' (by omega)).1)
    rw [hm] at q
    exact q
   clear hz HV HN HS
   go_wp2
   go_ret
   exact ⟨⟨_, rfl, dU O⟩, hb⟩
set_option maxHeartbeats 4000000 in
theorem toWriter_ (v : Value) (m : Wt) (w : World) (hl : sizWriter m ≤ 1048576) (h : RdWriter v m w) :
  Calls Tryz.prog 70 #[v] w fun e w' => ∃ u, e = .returned u ∧ Sits (OwWriter w.heap.size w'.heap.size u m) w.heap.size w'.heap.size w' ∧ Below w.heap.size w w' := by
 have ba : ∀ (w : World) o, Below w.heap.size w (w.alloc o) := fun w o => (Below.refl _ _).alloc (Nat.le_refl _) o
 obtain ⟨sv, rfl, h⟩ := h
 have C1 := dH fun W (hb : Below w.heap.size w W) => toWordS_own sv m.words W hl (RdK.below h hb)
 obtain ⟨pa, pc, rfl, -⟩ := formK h
 have EX : Hid (∀ (W : World) (u : Value), OwWordS w.heap.size W.heap.size u m.words W → Sits (OwWriter w.heap.size W.heap.size (.agg #[.int .i64 m.epoch, u]) m) w.heap.size W.heap.size W) := fun W u o => OwWriter.sits ⟨u, rfl, o⟩ (Nat.le_refl _)
 generalize m.epoch = yl at *
 generalize m.words = ms at *
 have X0 := (Bx.new w [.int .i64 yl, .slice pa ms.length pc] 111).below (bT (ba _ (.cells #[.int .i64 0, .slice none 0 0] 130)) (ba _ (.cells #[.int .i64 yl, .slice none 0 0] 130)))
 have Y0 := (BxZ.new (B := w.heap.size) (w.alloc (.cells #[.int .i64 yl, .slice pa ms.length pc] 111)) [.int .i64 0, .slice none 0 0] 130 (by simp)).below (ba _ (.cells #[.int .i64 yl, .slice none 0 0] 130))
 have Z0 := BxZ.new (B := w.heap.size) ((w.alloc (.cells #[.int .i64 yl, .slice pa ms.length pc] 111)).alloc (.cells #[.int .i64 0, .slice none 0 0] 130)) [.int .i64 yl, .slice none 0 0] 130 (by simp <;> omega)
 have B0 := bT (bT (ba w (.cells #[.int .i64 yl, .slice pa ms.length pc] 111)) (ba _ (.cells #[.int .i64 0, .slice none 0 0] 130))) (ba _ (.cells #[.int .i64 yl, .slice none 0 0] 130))
 have e1 : (w.alloc (.cells #[.int .i64 yl, .slice pa ms.length pc] 111)).heap.size = w.heap.size + 1 := by simp
 have e2 : ((w.alloc (.cells #[.int .i64 yl, .slice pa ms.length pc] 111)).alloc (.cells #[.int .i64 0, .slice none 0 0] 130)).heap.size = w.heap.size + 1 + 1 := by simp
 rw [e1] at Y0
 rw [e2] at Z0
 clear e1 e2 h hl
 go_enter Tryz.func70, Tryz.ntmps70
 go_wp2_with fail
 generalize ((w.alloc (.cells #[.int .i64 yl, .slice pa ms.length pc] 111)).alloc (.cells #[.int .i64 0, .slice none 0 0] 130)).alloc (.cells #[.int .i64 yl, .slice none 0 0] 130) = w0 at *
 have hlt := Z0.lt
 refine (dU C1 _ B0).mono ?_
 rintro r w1 ⟨⟨u1, rfl, O1⟩, b1⟩
 have hs1 := b1.size
 obtain ⟨a1, c1, rfl, -⟩ := formK (OwK.rd O1)
 have B1 := bT B0 b1
 have Y1 := Y0.below b1
 have Z1 := Z0.below b1
 obtain ⟨z0, f0⟩ := Z1.2 0 _ rfl
 obtain ⟨z1, f1⟩ := Z1.2 1 _ rfl
 obtain ⟨y0, p0⟩ := Y1.2 0 _ rfl
 obtain ⟨y1, p1⟩ := Y1.2 1 _ rfl
 have YY := dH (((Y1.far (b' := w.heap.size + 1 + 1) (o := 1) (by omega) (.slice a1 ms.length c1)).put 0 (.int .i64 yl)).put 1 (.slice a1 ms.length c1))
 have OO : Hid (OwWordS w0.heap.size w1.heap.size (.slice a1 ms.length c1) ms (((w1.setCell ⟨w.heap.size + 1 + 1, 1, none⟩ (.slice a1 ms.length c1)).setCell ⟨w.heap.size + 1, 0, none⟩ (.int .i64 yl)).setCell ⟨w.heap.size + 1, 1, none⟩ (.slice a1 ms.length c1))) := OwK.far (OwK.far (OwK.far O1 (b := w.heap.size + 1 + 1) (o := 1) (by omega) (.slice a1 ms.length c1)) (b := w.heap.size + 1) (o := 0) (by omega) (.int .i64 yl)) (b := w.heap.size + 1) (o := 1) (by omega) (.slice a1 ms.length c1)
 have BB := dH (((B1.setCell (p := ⟨w.heap.size + 1 + 1, 1, none⟩) (by simp only; omega) (.slice a1 ms.length c1)).setCell (p := ⟨w.heap.size + 1, 0, none⟩) (by simp only; omega) (.int .i64 yl)).setCell (p := ⟨w.heap.size + 1, 1, none⟩) (by simp only; omega) (.slice a1 ms.length c1))
 have w0le : w.heap.size ≤ w0.heap.size := by omega
 have hV : w1.heap.size = (((w1.setCell ⟨w.heap.size + 1 + 1, 1, none⟩ (.slice a1 ms.length c1)).setCell ⟨w.heap.size + 1, 0, none⟩ (.int .i64 yl)).setCell ⟨w.heap.size + 1, 1, none⟩ (.slice a1 ms.length c1)).heap.size := by simp
 clear X0 Y0 Z0 B0 C1 b1 O1 Y1 Z1 B1
 go_wp2_with fail
 generalize (((w1.setCell ⟨w.heap.size + 1 + 1, 1, none⟩ (.slice a1 ms.length c1)).setCell ⟨w.heap.size + 1, 0, none⟩ (.int .i64 yl)).setCell ⟨w.heap.size + 1, 1, none⟩ (.slice a1 ms.length c1)) = V at *
 have q0 := ((dU YY).2 0 _ rfl).1
 have q1 := ((dU YY).2 1 _ rfl).1
 clear z0 z1 f0 f1 y0 y1 p0 p1
 refine bodyPost_ret (v := .agg #[.int .i64 yl, .slice a1 ms.length c1]) (by simp [results, Tryz.results70, go_sem, q0, q1]) rfl ⟨_, rfl, dU EX V _ ((dU OO).wide w0le (by omega)), dU BB⟩
end Go.Proofs.YtkiclbbialadlaaGreat
