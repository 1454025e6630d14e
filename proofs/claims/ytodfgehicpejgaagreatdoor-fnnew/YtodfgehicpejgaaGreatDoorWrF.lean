/- impl.WriterOk. -/
import Derived.Test.YtodfgehicpejgaaGreatDoorGk183
namespace Go.Proofs.YtodfgehicpejgaaGreatDoor
open Go.ChangeShapes Go.WideShapes Go.ChangeAt Go.RowKit
set_option linter.unusedVariables false
set_option linter.unusedSimpArgs false
set_option maxRecDepth 100000

def idxW {α : Type} (q : α → Bool) : List α → Int
 | [] => -1
 | e :: l => if q e then 0 else (if idxW q l = -1 then -1 else idxW q l + 1)
theorem idxW_ge {α : Type} (q : α → Bool) : ∀ l : List α, -1 ≤ idxW q l ∧ idxW q l < l.length
 | [] => by simp [idxW]
 | e :: l => by
  have := idxW_ge q l
  unfold idxW
  split
  ·simp <;> omega
  ·split <;> simp <;> omega
theorem idxW_none {α : Type} (q : α → Bool) : ∀ l : List α, (∀ i (h : i < l.length), q l[i] = false) → idxW q l = -1
 | [], _ => rfl
 | e :: l, h => by
  have h0 : q e = false := h 0 (by simp)
  have h1 := idxW_none q l fun i hi => h (i + 1) (by simpa using hi)
  unfold idxW
  rw [h0, h1]
  rfl
theorem idxW_at {α : Type} (q : α → Bool) : ∀ (l : List α) (k : Nat) (hk : k < l.length), (∀ i (h : i < l.length), i < k → q l[i] = false) → q l[k] = true → idxW q l = (k : Int)
 | [], k, hk, _, _ => by simp at hk
 | e :: l, 0, hk, _, ho => by
  have h0 : q e = true := ho
  unfold idxW
  rw [h0]
  rfl
 | e :: l, k + 1, hk, h, ho => by
  have h0 : q e = false := h 0 (by simp) (by omega)
  have h1 := idxW_at q l k (by simpa using hk) (fun i hi hik => h (i + 1) (by simpa using hi) (by omega)) (by simpa using ho)
  unfold idxW
  rw [h0, h1, if_neg (by simp), if_neg (by omega)]
  omega
theorem idxW_neg {α : Type} {q : α → Bool} {l : List α} : idxW q l = -1 ↔ ∀ e ∈ l, q e = false := by
 induction l with
 | nil => simp [idxW]
 | cons e l ih =>
  have hg := idxW_ge q l
  unfold idxW
  cases hq : q e with
  | true => simp [hq]
  | false =>
   rw [if_neg (by simp)]
   by_cases h : idxW q l = -1
   ·rw [if_pos h]
    simp only [List.mem_cons, true_iff]
    rintro x (rfl | hx)
    ·exact hq
    ·exact ih.1 h x hx
   ·rw [if_neg h]
    constructor
    ·intro h'; omega
    ·intro h'
     exact absurd (ih.2 fun x hx => h' x (List.mem_cons_of_mem _ hx)) h
set_option maxHeartbeats 2000000 in
theorem indexFuncW_any (v : Value) (rs : List (Nst Wd)) (F : Nat) (caps : Array Value) (q : Wd → Bool) (w : World) (hF : ∀ args w, (callFunc F args).run Tryz.prog w = .ok (.enter F args) w) (hr : Rw 3 wdCl w v rs)
  (hq : ∀ W, Below w.heap.size w W → ∀ k (hk : k < rs.length), Calls Tryz.prog F (#[.agg #[.string rs[k].m.data, .slice rs[k].a rs[k].m.acks.length rs[k].c, .bool rs[k].m.done]] ++ caps) W fun e w' => e = .returned (.bool (q rs[k].m)) ∧ Below W.heap.size W w') :
  Calls Tryz.prog 314 #[v, .func (.func F) #[] caps] w fun e w' => e = .returned (.int .i64 (idxW q (rs.map Nst.m))) ∧ Below w.heap.size w w' := by
 have HV := dH fun W (hb : Below w.heap.size w W) => hr.below hb
 have HQ := dH hq
 have hl0 := hr.1
 obtain ⟨-, a, cap, rfl, -, -⟩ := hr
 have FN : Hid ((∀ i (h : i < rs.length), q rs[i].m = false) → idxW q (rs.map Nst.m) = -1) := fun h => idxW_none _ _ fun i hi => by rw [List.getElem_map]; exact h i (by simpa using hi)
 have FA : Hid (∀ k (hk : k < rs.length), (∀ i (h : i < rs.length), i < k → q rs[i].m = false) → q rs[k].m = true → idxW q (rs.map Nst.m) = (k : Int)) := fun k hk h1 h2 => idxW_at _ _ k (by simpa using hk) (fun i hi hik => by rw [List.getElem_map]; exact h1 i (by simpa using hi) hik) (by rw [List.getElem_map]; exact h2)
 generalize idxW q (rs.map Nst.m) = M at *
 clear hq
 go_enter Tryz.func314, Tryz.ntmps314
 go_wp2
 go_loopw [8] (fun x wr => ∃ k : Nat, x = .int .i64 (k : Int) ∧ k ≤ rs.length ∧ Hid (∀ i (h : i < rs.length), i < k → q rs[i].m = false) ∧ Below w.heap.size w wr) (fun x _ => rs.length - (intOf x).toNat)
 case atStart => exact ⟨0, rfl, Nat.zero_le _, fun i h h' => by omega, Below.refl _ _⟩
 case round =>
  obtain ⟨k, rfl, hk, hc, hb⟩ := hrel
  by_cases hlt : (k : Int) < (rs.length : Int)
  ·have hkl : k < rs.length := by omega
   obtain ⟨b, off, rfl, he⟩ := (dU HV _ hb).word hkl
   obtain ⟨c0, c1, c2⟩ := he k hkl
   have CE := dH (dU HQ wr hb k hkl)
   cases hcl : q rs[k].m with
   | false =>
    rw [hcl] at CE
    have H2 : Hid (∀ i (h : i < rs.length), i < k + 1 → q rs[i].m = false) := fun i h hi => by
     by_cases e : i = k
     ·subst e; exact hcl
     ·exact dU hc i h (by omega)
    generalize rs[k] = y at *
    obtain ⟨ya, yc, yd, yn, yb⟩ := y
    simp only at *
    clear hc he
    go_wp2_with fail
    refine (dU CE).mono ?_
    rintro e w1 ⟨rfl, b1⟩
    clear CE c0 c1 c2
    go_wp2
    go_roundw
    case rel => exact ⟨k + 1, by go_num, by omega, H2, bT hb b1⟩
    case measure => simp [intOf]; omega
   | true =>
    rw [hcl] at CE
    have e1 := dU FA k hkl (dU hc) hcl
    subst e1
    generalize rs[k] = y at *
    obtain ⟨ya, yc, yd, yn, yb⟩ := y
    simp only at *
    clear hc he FN FA
    go_wp2_with fail
    refine (dU CE).mono ?_
    rintro e w1 ⟨rfl, b1⟩
    clear CE c0 c1 c2
    go_wp2
    go_ret
    exact ⟨rfl, bT hb b1⟩
  ·have e1 := dU FN fun i h => dU hc i h (by omega)
   subst e1
   clear hc FN FA
   go_wp2
   go_ret
   exact ⟨rfl, hb⟩
theorem containsFuncW_any (v : Value) (rs : List (Nst Wd)) (F : Nat) (caps : Array Value) (q : Wd → Bool) (w : World) (hF : ∀ args w, (callFunc F args).run Tryz.prog w = .ok (.enter F args) w) (hr : Rw 3 wdCl w v rs) (hl : rs.length ≤ 1048576)
  (hq : ∀ W, Below w.heap.size w W → ∀ k (hk : k < rs.length), Calls Tryz.prog F (#[.agg #[.string rs[k].m.data, .slice rs[k].a rs[k].m.acks.length rs[k].c, .bool rs[k].m.done]] ++ caps) W fun e w' => e = .returned (.bool (q rs[k].m)) ∧ Below W.heap.size W w') :
  Calls Tryz.prog 285 #[v, .func (.func F) #[] caps] w fun e w' => RetB (∃ e ∈ rs.map Nst.m, q e = true) e ∧ Below w.heap.size w w' := by
 have C1 := dH (indexFuncW_any v rs F caps q w hF hr hq)
 have hg := idxW_ge q (rs.map Nst.m)
 have R : Hid (RetB (∃ e ∈ rs.map Nst.m, q e = true) (.returned (.bool (decide (0 ≤ idxW q (rs.map Nst.m)))))) := ⟨_, rfl, by
  rw [decide_eq_true_iff]
  constructor
  ·intro h
   apply Classical.byContradiction
   intro hno
   have : idxW q (rs.map Nst.m) = -1 := idxW_neg.2 fun e he => by
    cases hqe : q e with
    | false => rfl
    | true => exact absurd ⟨e, he, hqe⟩ hno
   omega
  ·rintro ⟨e, he, hqe⟩
   apply Classical.byContradiction
   intro hno
   have h1 : idxW q (rs.map Nst.m) = -1 := by omega
   have := idxW_neg.1 h1 e he
   rw [hqe] at this
   cases this⟩
 have hl2 : (rs.map Nst.m).length ≤ 1048576 := by simpa using hl
 generalize (rs.map Nst.m).length = n at *
 generalize idxW q (rs.map Nst.m) = M at *
 clear hF hr hq
 go_enter Tryz.func285, Tryz.ntmps285
 go_wp2_with fail
 refine (dU C1).mono ?_
 rintro e w1 ⟨rfl, b1⟩
 clear C1
 go_wp2
 go_ret
 exact ⟨dU R, b1⟩
theorem wordsOkFn (q : Wd → Bool) (p : Nst Wd) (sc : Value) (ds : List Int) (cop : Int) (bv b o : Nat) (w : World) (hv : w.cell? ⟨bv, 0, none⟩ = some (.pointer (some ⟨b, o, none⟩))) (hX : w.cell? ⟨b, o, none⟩ = some sc ∧ w.cell? ⟨b, o + 1, none⟩ = some (.int .i64 cop)) (hc : Ns w sc ds) (hn : Ns w (Sv Wd.acks p) p.m.acks) (had : allInt ds) (hld : ds.length ≤ 1048576) (c0 : -9223372036854775808 ≤ cop) (c1 : cop ≤ 9223372036854775807) (hf : fitWd p.m) (hlx : p.m.acks.length ≤ 1048576) (hq : q p.m = true ↔ ¬ wdP ds cop p.m) :
  Calls Tryz.prog 286 #[.agg #[.string p.m.data, .slice p.a p.m.acks.length p.c, .bool p.m.done], .pointer (some ⟨bv, 0, none⟩)] w fun e w' => e = .returned (.bool (q p.m)) ∧ Below w.heap.size w w' := by
 have ba : ∀ (w : World) o, Below w.heap.size w (w.alloc o) := fun w o => (Below.refl _ _).alloc (Nat.le_refl _) o
 have C1 := dH fun W (hb : Below w.heap.size w W) => wordOk_any p sc ds cop W (hc.below hb) (hn.below hb) had hld c0 c1 hf hlx
 obtain ⟨pa, pc, yd, yn, yb⟩ := p
 simp only at *
 obtain ⟨-, ca, cc, rfl, -, -⟩ := hc
 obtain ⟨x0, x1⟩ := hX
 have bA := ba w (.cells #[.string yd, .slice pa yn.length pc, .bool yb] 140)
 have HC : Hid (∀ W, Below w.heap.size w W → W.cell? ⟨bv, 0, none⟩ = some (.pointer (some ⟨b, o, none⟩)) ∧ W.cell? ⟨b, o, none⟩ = some (.slice ca ds.length cc) ∧ W.cell? ⟨b, o + 1, none⟩ = some (.int .i64 cop)) := fun W hb => ⟨(hb.cell (p := ⟨bv, 0, none⟩) (dCell_lt hv)).trans hv, (hb.cell (p := ⟨b, o, none⟩) (dCell_lt x0)).trans x0, (hb.cell (p := ⟨b, o + 1, none⟩) (dCell_lt x1)).trans x1⟩
 have E1 := dH (Bx.new w [.string yd, .slice pa yn.length pc, .bool yb] 140)
 generalize wdP ds cop ⟨yd, yn, yb⟩ = P at *
 generalize q ⟨yd, yn, yb⟩ = qb at *
 clear hn x0 x1 hv
 have HQ := dH hq
 clear hq
 go_enter Tryz.func286, Tryz.ntmps286
 go_wp2_with fail
 generalize w.alloc (.cells #[.string yd, .slice pa yn.length pc, .bool yb] 140) = w1 at *
 have bd := bT bA (show Below w1.heap.size w1 w1.drew from (Below.refl _ _).drew)
 have p0 := dU HC w1 bA
 have pS := And.intro p0 (And.intro (dU E1 0 _ rfl) (And.intro (dU E1 1 _ rfl) (dU E1 2 _ rfl)))
 go_region_held3 (fun W => (W.cell? ⟨bv, 0, none⟩ = some (.pointer (some ⟨b, o, none⟩)) ∧ W.cell? ⟨b, o, none⟩ = some (.slice ca ds.length cc) ∧ W.cell? ⟨b, o + 1, none⟩ = some (.int .i64 cop)) ∧ W.cell? ⟨w.heap.size, 0, none⟩ = some (.string yd) ∧ W.cell? ⟨w.heap.size, 1, none⟩ = some (.slice pa yn.length pc) ∧ W.cell? ⟨w.heap.size, 2, none⟩ = some (.bool yb)) (first | exact qS | exact pS | go_keep)
  (first
   | (go_at_call 287; refine (dU C1 _ bd).mono ?_; rintro e w5 ⟨⟨b1, rfl, hb1⟩, b5⟩; have B5 := bT bd b5; have E5 := (dU E1).below (bT (show Below w1.heap.size w1 w1.drew from (Below.refl _ _).drew) b5); have qS := And.intro (dU HC w5 B5) (And.intro (E5 0 _ rfl) (And.intro (E5 1 _ rfl) (E5 2 _ rfl)))))
 all_goals
  have R : Hid ((!b1) = qb) := by
   rw [Hid]
   cases b1 with
   | true =>
    cases qb with
    | false => rfl
    | true => exact absurd (hb1.1 rfl) ((dU HQ).1 rfl)
   | false => exact ((dU HQ).2 fun h => by have := hb1.2 h; cases this).symm
  clear C1 hb1 HQ
  go_wp2
  go_ret
  exact ⟨by rw [← dU R]; rfl, B5⟩
set_option maxHeartbeats 4000000 in
theorem wordsOk_any (b o cap : Nat) (a : Option Addr) (sc : Value) (ds : List Int) (cop : Int) (rs : List (Nst Wd)) (w : World) (hX : w.cell? ⟨b, o, none⟩ = some sc ∧ w.cell? ⟨b, o + 1, none⟩ = some (.int .i64 cop)) (hcell : w.cell? ⟨b, o + 2, none⟩ = some (.slice a rs.length cap)) (hc : Ns w sc ds) (hr : Rw 3 wdCl w (.slice a rs.length cap) rs) (hn : ∀ p ∈ rs, Ns w (Sv Wd.acks p) p.m.acks) (had : allInt ds) (hld : ds.length ≤ 1048576) (c0 : -9223372036854775808 ≤ cop) (c1 : cop ≤ 9223372036854775807) (hl : rs.length ≤ 1048576) (hf : ∀ k (hk : k < rs.length), rs[k].m.acks.length ≤ 1048576 ∧ fitWd rs[k].m) :
  Calls Tryz.prog 234 #[.pointer (some ⟨b, o, none⟩)] w fun e w' => RetB (rs.length ≤ 60 ∧ (∀ e ∈ rs.map Nst.m, wdP ds cop e) ∧ openN (rs.map Nst.m) ≤ 6) e ∧ Below w.heap.size w w' := by
 have ba : ∀ (w : World) o, Below w.heap.size w (w.alloc o) := fun w o => (Below.refl _ _).alloc (Nat.le_refl _) o
 obtain ⟨bb, off, ha⟩ : ∃ bb off, rs = [] ∨ a = some ⟨bb, off, none⟩ := by
  obtain ⟨-, a', cap', e, -, h⟩ := hr
  cases e
  rcases h with h | ⟨bb, off, rfl, -⟩
  ·exact ⟨0, 0, .inl h⟩
  ·exact ⟨bb, off, .inr rfl⟩
 have HCw := dH fun W (hb : Below w.heap.size w W) => (hb.cell (p := ⟨b, o + 2, none⟩) (dCell_lt hcell)).trans hcell
 have CO := dH fun W (hb : Below w.heap.size w W) => winOpen_any b o bb off cap a rs W (dU HCw W hb) (hr.below hb) ha hl
 obtain ⟨q, hq⟩ : ∃ q : Wd → Bool, ∀ y, q y = true ↔ ¬ wdP ds cop y := ⟨fun y => @decide (¬ wdP ds cop y) (Classical.propDecidable _), fun y => @decide_eq_true_iff _ (Classical.propDecidable _)⟩
 have CF := dH fun W (hb : Below w.heap.size w W) (hV : ∀ W', Below W.heap.size W W' → W'.cell? ⟨w.heap.size, 0, none⟩ = some (.pointer (some ⟨b, o, none⟩))) => containsFuncW_any _ rs 286 #[.pointer (some ⟨w.heap.size, 0, none⟩)] q W Tryz.call286 (hr.below hb) hl (fun W' hb' k hk => wordsOkFn q rs[k] sc ds cop w.heap.size b o W' (hV W' hb') ⟨((bT hb hb').cell (p := ⟨b, o, none⟩) (dCell_lt hX.1)).trans hX.1, ((bT hb hb').cell (p := ⟨b, o + 1, none⟩) (dCell_lt hX.2)).trans hX.2⟩ (hc.below (bT hb hb')) ((hn _ (List.getElem_mem hk)).below (bT hb hb')) had hld c0 c1 (hf k hk).2 (hf k hk).1 (hq _))
 have PE : Hid ((∃ e ∈ rs.map Nst.m, q e = true) ↔ ¬ ∀ e ∈ rs.map Nst.m, wdP ds cop e) := by
  constructor
  ·rintro ⟨e, he, h⟩ ha
   exact (hq e).1 h (ha e he)
  ·intro h
   apply Classical.byContradiction
   intro hno
   refine h fun e he => Classical.byContradiction fun hne => hno ⟨e, he, (hq e).2 hne⟩
 have OL : Hid ((opI (rs.map Nst.m) rs.length).length = openN (rs.map Nst.m)) := by
  have h1 := opI_len (rs.map Nst.m) rs.length (by simp)
  rw [List.take_of_length_le (by simp)] at h1
  exact h1
 generalize (∃ e ∈ rs.map Nst.m, q e = true) = PX at *
 generalize (∀ e ∈ rs.map Nst.m, wdP ds cop e) = PY at *
 generalize openN (rs.map Nst.m) = on at *
 have bA := ba w (.cells #[.pointer (some ⟨b, o, none⟩)] 204)
 have V1 := dH (Bx.new w [.pointer (some ⟨b, o, none⟩)] 204)
 have c2 := dU HCw _ bA
 clear hX hc hr hn hf hq hcell ha
 by_cases h60 : 60 < (rs.length : Int)
 ·have R : RetB (rs.length ≤ 60 ∧ PY ∧ on ≤ 6) (.returned (.bool false)) := RetB.no fun h => by have := h.1; omega
  clear CO CF
  go_enter Tryz.func234, Tryz.ntmps234
  go_wp2
  go_ret
  exact ⟨R, bA⟩
 have C1 := dH (dU CO _ bA)
 go_enter Tryz.func234, Tryz.ntmps234
 go_wp2_with fail
 generalize w.alloc (.cells #[.pointer (some ⟨b, o, none⟩)] 204) = w1 at *
 refine (dU C1).mono ?_
 rintro e w2 ⟨⟨u, rfl, A2⟩, b2⟩
 obtain ⟨ua, uc, rfl⟩ := ApR.slice elemO A2
 have el : ((opI (rs.map Nst.m) rs.length).map (adW bb off)).length = on := by rw [List.length_map]; exact dU OL
 rw [el]
 have B2 := bT bA b2
 have V2 := dH ((dU V1).below b2)
 have v0 := dU V2 0 _ rfl
 clear c2
 have c2 := dU HCw _ B2
 clear C1 CO V1 b2 bA A2 el
 by_cases h6 : 6 < (on : Int)
 ·have R : RetB (rs.length ≤ 60 ∧ PY ∧ on ≤ 6) (.returned (.bool false)) := RetB.no fun h => by have := h.2.2; omega
  clear CF
  go_wp2
  go_ret
  exact ⟨R, B2⟩
 have C3 := dH (dU CF w2 B2 fun W' hb' => (dU V2).below hb' 0 _ rfl)
 clear CF
 go_wp2_with fail
 refine (dU C3).mono ?_
 rintro e w3 ⟨⟨b3, rfl, h3⟩, b3'⟩
 have R : Hid (RetB (rs.length ≤ 60 ∧ PY ∧ on ≤ 6) (.returned (.bool (!b3)))) := ⟨_, rfl, by
  have h5 := (dU PE)
  cases b3 with
  | true => exact ⟨fun h => by simp at h, fun h => absurd h.2.1 (h5.1 (h3.1 rfl))⟩
  | false => exact ⟨fun _ => ⟨by omega, Classical.byContradiction (fun hno => by have := h3.2 (h5.2 hno); cases this), by omega⟩, fun _ => rfl⟩⟩
 have B3 := bT B2 b3'
 clear h3 C3 PE
 go_wp2
 go_ret
 exact ⟨dU R, B3⟩
theorem wrP_iff (ds : List Int) (cop : Int) (m : Wt) : wrP ds cop m ↔ cfgP ds cop ∧ (1 ≤ m.epoch ∧ m.epoch ≤ 30) ∧ m.words.length ≤ 60 ∧ (∀ e ∈ m.words, wdP ds cop e) ∧ openN m.words ≤ 6 := by
 unfold wrP
 constructor
 ·rintro ⟨h1, h2, h3, h4, h5⟩
  exact ⟨h1, h2, h3, fun e he => by obtain ⟨i, hi, rfl⟩ := List.mem_iff_getElem.1 he; exact h4 i hi, h5⟩
 ·rintro ⟨h1, h2, h3, h4, h5⟩
  exact ⟨h1, h2, h3, fun i hi => h4 _ (List.getElem_mem hi), h5⟩
set_option maxHeartbeats 4000000 in
theorem implWriterOk_any (cv v : Value) (c : List Int × Int) (m : Wt) (w : World) (hc : RdConfig cv c w) (hv : RdWriter v m w) (okc : okConfig c) (ok : okWriter m) (hsc : sizConfig c ≤ 1048576) (hs : sizWriter m ≤ 1048576) :
  Calls Tryz.prog 76 #[cv, v] w fun e w' => RetB (wrP c.1 c.2 m) e ∧ Below w.heap.size w w' := by
 have ba : ∀ (w : World) o, Below w.heap.size w (w.alloc o) := fun w o => (Below.refl _ _).alloc (Nat.le_refl _) o
 obtain ⟨ds, cop⟩ := c
 obtain ⟨sc, rfl, hc⟩ := hc
 obtain ⟨sv, rfl, rs, hm, hr, hn⟩ := hv
 obtain ⟨had, c0, c1⟩ := okc
 unfold sizConfig at hsc
 simp only at *
 have em : m.words.length = rs.length := by rw [← hm, List.length_map]
 have hle : rs.length ≤ 1048576 := by unfold sizWriter sizWordS at hs; omega
 have HL : ∀ k (hk : k < rs.length), rs[k].m.acks.length ≤ 1048576 ∧ fitWd rs[k].m := fun k hk => by
  have h1 := sumW_mem (ms := rs.map Nst.m) (k := k) (by simpa using hk)
  rw [List.getElem_map] at h1
  unfold sizWriter sizWordS at hs
  rw [← hm] at hs
  exact ⟨by omega, ok.1 _ (by rw [← hm]; exact List.mem_map.2 ⟨rs[k], List.getElem_mem hk, rfl⟩)⟩
 have PD := wrP_iff ds cop m
 have CC := dH fun W (hb : Below w.heap.size w W) => implCfg_any sc ds cop W (hc.below hb) had hsc c0 c1
 have HCS := hc
 have HRS := hr
 obtain ⟨-, ca, cc, rfl, -, -⟩ := hc
 obtain ⟨-, a, cap, rfl, -, -⟩ := hr
 have CW := dH fun W b (hb : Below w.heap.size w W) (hX : W.cell? ⟨b, 1, none⟩ = some (.slice ca ds.length cc) ∧ W.cell? ⟨b, 1 + 1, none⟩ = some (.int .i64 cop)) (h3 : W.cell? ⟨b, 1 + 2, none⟩ = some (.slice a rs.length cap)) => wordsOk_any b 1 cap a _ ds cop rs W hX h3 (HCS.below hb) (HRS.below hb) (fun p hp => (hn p hp).below hb) had hsc c0 c1 hle HL
 rw [hm] at CW
 rw [em] at PD
 generalize wrP ds cop m = P at *
 generalize (∀ e ∈ m.words, wdP ds cop e) = PY at *
 generalize openN m.words = on at *
 generalize m.epoch = ep at *
 have CO := dH fun W => writingOf_any ca ds.length cc cop ep a rs.length cap W
 replace PD := dH PD
 clear hm hs ok em HL HCS HRS hn hle
 have bA := bT (ba w (.cells #[.slice ca ds.length cc, .int .i64 cop] 26)) (ba _ (.cells #[.int .i64 ep, .slice a rs.length cap] 70))
 go_enter Tryz.func76, Tryz.ntmps76
 go_wp2_with fail
 refine (dU CO _).mono ?_
 rintro e w1 ⟨⟨b, rfl, X1⟩, b1⟩
 have B1 := bT bA b1
 clear CO bA b1
 have CI : Calls Tryz.prog 150 #[.pointer (some ⟨b, 0, none⟩)] w1 fun e w' => RetB P e ∧ Below w.heap.size w w' := by
  have x0 := (X1.2 0 _ rfl).1
  have x1 := (X1.2 1 _ rfl).1
  have x2 := (X1.2 2 _ rfl).1
  go_enter Tryz.func150, Tryz.ntmps150
  go_wp2_with fail
  refine (dU CC _ B1).mono ?_
  rintro e w2 ⟨⟨b2, rfl, h2⟩, bl2⟩
  have B2 := bT B1 bl2
  have X2 := X1.below bl2
  clear x0 x1 x2 X1 bl2 CC B1
  have x0 := (X2.2 0 _ rfl).1
  cases b2
  ·have R : RetB P (.returned (.bool false)) := RetB.no fun h => by have := h2.2 ((dU PD).1 h).1; cases this
   clear h2
   go_wp2
   go_ret
   exact ⟨R, B2⟩
  have H2 := dH (h2.1 rfl)
  clear h2
  by_cases e1 : ¬ 1 ≤ ep
  ·have R : RetB P (.returned (.bool false)) := RetB.no fun h => e1 ((dU PD).1 h).2.1.1
   go_wp2
   go_ret
   exact ⟨R, B2⟩
  replace e1 : 1 ≤ ep := by omega
  by_cases e2 : ¬ ep ≤ 30
  ·have R : RetB P (.returned (.bool false)) := RetB.no fun h => e2 ((dU PD).1 h).2.1.2
   go_wp2
   go_ret
   exact ⟨R, B2⟩
  replace e2 : ep ≤ 30 := by omega
  have C3 := dH (dU CW w2 b B2 ⟨(X2.2 1 _ rfl).1, (X2.2 2 _ rfl).1⟩ (X2.2 3 _ rfl).1)
  clear CW X2
  go_wp2_with fail
  refine (dU C3).mono ?_
  rintro e w3 ⟨⟨b3, rfl, h3⟩, bl3⟩
  have R : Hid (RetB P (.returned (.bool b3))) := ⟨_, rfl, fun h => (dU PD).2 ⟨dU H2, ⟨e1, e2⟩, h3.1 h⟩, fun h => h3.2 ((dU PD).1 h).2.2⟩
  have B3 := bT B2 bl3
  clear h3 C3 PD H2
  go_wp2
  go_ret
  exact ⟨dU R, B3⟩
 replace CI := dH CI
 clear CC CW PD X1
 go_wp2_with fail
 refine (dU CI).mono ?_
 rintro e w2 ⟨⟨b2, rfl, h2⟩, B2⟩
 have R : Hid (RetB P (.returned (.bool b2))) := ⟨_, rfl, h2⟩
 clear h2 CI
 go_wp2
 go_ret
 exact ⟨dU R, B2⟩
end Go.Proofs.YtodfgehicpejgaaGreatDoor
