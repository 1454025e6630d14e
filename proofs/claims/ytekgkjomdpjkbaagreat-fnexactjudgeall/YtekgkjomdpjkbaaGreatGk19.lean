/- Several texts in one: EvyE, JgV, JgW, JgE, JgF. -/
import Derived.Test.YtekgkjomdpjkbaaGreatEvyA
import Derived.Test.YtekgkjomdpjkbaaGreatGk18
import Derived.Deep.RegionHeld3
import Derived.Deep.DeepCutAuto
import Derived.Test.YtekgkjomdpjkbaaGreatGz22
import Derived.Test.YtekgkjomdpjkbaaGreatGk11
import Derived.Test.YtekgkjomdpjkbaaGreatWkF
namespace Go.Proofs.YtekgkjomdpjkbaaGreat
open Go.ChangeShapes Go.WideShapes Go.ChangeAt Go.RowKit
set_option linter.unusedSimpArgs false
set_option linter.unusedVariables false
set_option maxRecDepth 100000
def Ev.pd (e : Ev) : Pd 3 Ev := ⟨e.cl, rfl, e⟩
theorem RdEventS.rdD {v : Value} {ms : List Ev} {W : World} (h : RdEventS v ms W) : RdD 3 (fun v m _ => v = m.val) v ms W := by
 obtain ⟨h0, a, cap, rfl, hcap, h⟩ := h
 refine ⟨ms.map Ev.pd, by rw [List.map_map]; exact List.map_id' ms, ⟨by simpa using h0, a, cap, by simp, by simpa using hcap, ?_⟩, fun p hp => ?_⟩
 ·rcases h with h | ⟨b, off, rfl, hc⟩
  ·exact .inl (by simp [h])
  ·exact .inr ⟨b, off, rfl, fun i hi j u hu => hc i (by simpa using hi) j u (by rw [List.getElem_map] at hu; exact hu)⟩
 ·obtain ⟨q, hq, rfl⟩ := List.mem_map.1 hp
  rfl
set_option maxHeartbeats 2000000 in
theorem indexEvent_any (v : Value) (rs : List (Pd 3 Ev)) (F : Nat) (caps : Array Value) (q : Ev → Bool) (w : World) (hF : ∀ args w, (callFunc F args).run Tryz.prog w = .ok (.enter F args) w) (hr : Rw 3 Pd.c w v rs)
  (hq : ∀ W, Below w.heap.size w W → ∀ k (hk : k < rs.length), Calls Tryz.prog F (#[rs[k].val] ++ caps) W fun e w' => e = .returned (.bool (q rs[k].m)) ∧ Below W.heap.size W w') :
  Calls Tryz.prog 223 #[v, .func (.func F) #[] caps] w fun e w' => e = .returned (.int .i64 (idxL q (rs.map Pd.m))) ∧ Below w.heap.size w w' := by
 have HV := dH fun W (hb : Below w.heap.size w W) => hr.below hb
 have HQ := dH hq
 have hl0 := hr.1
 obtain ⟨-, a, cap, rfl, -, -⟩ := hr
 have FN : Hid ((∀ i (h : i < rs.length), q rs[i].m = false) → idxL q (rs.map Pd.m) = -1) := fun h => idxL_none _ _ fun i hi => by rw [List.getElem_map]; exact h i (by simpa using hi)
 have FA : Hid (∀ k (hk : k < rs.length), (∀ i (h : i < rs.length), i < k → q rs[i].m = false) → q rs[k].m = true → idxL q (rs.map Pd.m) = (k : Int)) := fun k hk h1 h2 => idxL_at _ _ k (by simpa using hk) (fun i hi hik => by rw [List.getElem_map]; exact h1 i (by simpa using hi) hik) (by rw [List.getElem_map]; exact h2)
 generalize idxL q (rs.map Pd.m) = M at *
 clear hq
 go_enter Tryz.func223, Tryz.ntmps223
 go_wp2
 go_loopw [8] (fun x wr => ∃ k : Nat, x = .int .i64 (k : Int) ∧ k ≤ rs.length ∧ Hid (∀ i (h : i < rs.length), i < k → q rs[i].m = false) ∧ Below w.heap.size w wr) (fun x _ => rs.length - (intOf x).toNat)
 case atStart => exact ⟨0, rfl, Nat.zero_le _, fun i h h' => by omega, Below.refl _ _⟩
 case round =>
  obtain ⟨k, rfl, hk, hc, hb⟩ := hrel
  by_cases hlt : (k : Int) < (rs.length : Int)
  ·have hkl : k < rs.length := by omega
   obtain ⟨b, off, rfl, he⟩ := (dU HV _ hb).pd hkl
   have hck := he k hkl
   have CE := dH (dU HQ wr hb k hkl)
   have H2 : Hid (q rs[k].m = false → ∀ i (h : i < rs.length), i < k + 1 → q rs[i].m = false) := fun hcl i h hi => by
    by_cases e : i = k
    ·subst e; exact hcl
    ·exact dU hc i h (by omega)
   have H3 : Hid (q rs[k].m = true → M = (k : Int)) := fun hcl => dU FA k hkl (dU hc) hcl
   clear he hc
   generalize rs[k] = y at *
   obtain ⟨yc, yl, m⟩ := y
   obtain ⟨x0, x1, x2, rfl⟩ := list3_of yl
   unfold Pd.val at CE
   simp only at *
   have c0 := hck 0 _ rfl
   have c1 := hck 1 _ rfl
   have c2 := hck 2 _ rfl
   simp only [Nat.add_zero] at c0 c1 c2
   clear hck
   cases hcl : q m with
   | false =>
    rw [hcl] at CE
    have H4 := dH (dU H2 hcl)
    clear H2 H3
    go_wp2_with fail
    refine (dU CE).mono ?_
    rintro e w1 ⟨rfl, b1⟩
    clear CE c0 c1 c2
    go_wp2
    go_roundw
    case rel => exact ⟨k + 1, by go_num, by omega, dU H4, bT hb b1⟩
    case measure => simp [intOf]; omega
   | true =>
    rw [hcl] at CE
    have e1 := dU H3 hcl
    subst e1
    clear H2 H3 FA FN
    go_wp2_with fail
    refine (dU CE).mono ?_
    rintro e w1 ⟨rfl, b1⟩
    clear CE c0 c1 c2
    go_wp2
    go_ret
    exact ⟨rfl, bT hb b1⟩
  ·have e1 := dU FN fun i h => dU hc i h (by omega)
   subst e1
   clear hc FA FN
   go_wp2
   go_ret
   exact ⟨rfl, hb⟩
theorem containsEvent_any (v : Value) (rs : List (Pd 3 Ev)) (F : Nat) (caps : Array Value) (q : Ev → Bool) (w : World) (hF : ∀ args w, (callFunc F args).run Tryz.prog w = .ok (.enter F args) w) (hr : Rw 3 Pd.c w v rs)
  (hq : ∀ W, Below w.heap.size w W → ∀ k (hk : k < rs.length), Calls Tryz.prog F (#[rs[k].val] ++ caps) W fun e w' => e = .returned (.bool (q rs[k].m)) ∧ Below W.heap.size W w') :
  Calls Tryz.prog 217 #[v, .func (.func F) #[] caps] w fun e w' => RetB (∃ x ∈ rs.map Pd.m, q x = true) e ∧ Below w.heap.size w w' := by
 have C1 := dH (indexEvent_any v rs F caps q w hF hr hq)
 have R := dH (idxL_some q (rs.map Pd.m))
 have hg := idxL_ge q (rs.map Pd.m)
 have hl2 : (rs.map Pd.m).length ≤ 9223372036854775807 := by simpa using hr.1
 generalize (rs.map Pd.m).length = n at *
 generalize idxL q (rs.map Pd.m) = M at *
 clear hF hr hq
 go_enter Tryz.func217, Tryz.ntmps217
 go_wp2_with fail
 refine (dU C1).mono ?_
 rintro e w1 ⟨rfl, b1⟩
 clear C1
 go_wp2
 go_ret
 exact ⟨dU R, b1⟩
theorem every1Event_any (x : Value) (cs : Array Value) (hx : x = .agg cs) (F b : Nat) (caps : Array Value) (q : Bool) (w : World) (hF : ∀ args w, (callFunc F args).run Tryz.prog w = .ok (.enter F args) w) (hc : w.cell? ⟨b, 0, none⟩ = some (.func (.func F) #[] caps)) (hn : cs.size = 3)
  (hq : ∀ W, Below w.heap.size w W → Calls Tryz.prog F (#[x] ++ caps) W fun e w' => e = .returned (.bool q) ∧ Below W.heap.size W w') :
  Calls Tryz.prog 218 (#[x] ++ #[.pointer (some ⟨b, 0, none⟩)]) w fun e w' => e = .returned (.bool (!q)) ∧ Below w.heap.size w w' := by
 have C1 := dH hq
 subst hx
 obtain ⟨l⟩ := cs
 obtain ⟨x0, x1, x2, rfl⟩ := list3_of hn
 have B0 : Below w.heap.size w (w.alloc (.cells #[x0, x1, x2] 81)) := (Below.refl _ _).alloc (Nat.le_refl _) _
 have k0 := (B0.cell (p := ⟨b, 0, none⟩) (dCell_lt hc)).trans hc
 clear hq hc hn
 show Calls Tryz.prog 218 #[.agg #[x0, x1, x2], .pointer (some ⟨b, 0, none⟩)] w _
 go_enter Tryz.func218, Tryz.ntmps218
 go_wp2_with fail
 refine (dU C1 _ B0).mono ?_
 rintro e w1 ⟨rfl, b1⟩
 have B1 := bT B0 b1
 clear C1 k0 b1 B0
 cases q
 all_goals
  go_wp2
  go_ret
  exact ⟨rfl, B1⟩
theorem everyEvent_any (v : Value) (ms : List Ev) (Rd : Value → Ev → World → Prop) (F : Nat) (caps : Array Value) (Q : Ev → Prop) (w : World) (hF : ∀ args w, (callFunc F args).run Tryz.prog w = .ok (.enter F args) w) (hr : RdD 3 Rd v ms w)
  (hR : ∀ {v : Value} {m : Ev} {W W' : World}, Rd v m W → Below W.heap.size W W' → Rd v m W')
  (hq : ∀ W, Below w.heap.size w W → ∀ u, ∀ x ∈ ms, Rd u x W → Calls Tryz.prog F (#[u] ++ caps) W fun e w' => RetB (Q x) e ∧ Below W.heap.size W w') :
  Calls Tryz.prog 174 #[v, .func (.func F) #[] caps] w fun e w' => RetB (∀ x ∈ ms, Q x) e ∧ Below w.heap.size w w' := by
 obtain ⟨rs, rfl, hr, hn⟩ := hr
 have B0 : Below w.heap.size w (w.alloc (.cells #[.func (.func F) #[] caps] 108)) := (Below.refl _ _).alloc (Nat.le_refl _) _
 have K0 := Bx.new w [.func (.func F) #[] caps] 108 0 _ rfl
 have C1 := dH (containsEvent_any v rs 218 #[.pointer (some ⟨w.heap.size, 0, none⟩)] (fun x => !(bq (Q x))) _ (by intro args w; rfl) (hr.below B0) fun W hb k hk => every1Event_any rs[k].val _ rfl F w.heap.size caps (bq (Q rs[k].m)) W hF ((hb.cell (p := ⟨w.heap.size, 0, none⟩) (dCell_lt K0)).trans K0) (by simpa using rs[k].l) fun W' hb' => (hq W' (bT (bT B0 hb) hb') rs[k].val rs[k].m (List.mem_map.2 ⟨_, List.getElem_mem hk, rfl⟩) (hR (hn _ (List.getElem_mem hk)) (bT (bT B0 hb) hb'))).mono fun e w' h => ⟨h.1.bq, h.2⟩)
 obtain ⟨-, a, cap, rfl, -, -⟩ := hr
 have FIN : Hid (∀ b : Bool, (b = true ↔ ∃ x ∈ rs.map Pd.m, (!(bq (Q x))) = true) → RetB (∀ x ∈ rs.map Pd.m, Q x) (.returned (.bool (!b)))) := fun b h => (all_not h).to fun x => bq_iff _
 clear hq hn K0
 go_enter Tryz.func174, Tryz.ntmps174
 go_wp2_with fail
 refine (dU C1).mono ?_
 rintro e w1 ⟨⟨b, rfl, h⟩, b1⟩
 have R := dH (dU FIN b h)
 have B1 := bT B0 b1
 clear C1 FIN h b1 B0
 cases b
 all_goals
  go_wp2
  go_ret
  exact ⟨dU R, B1⟩
def taleM (l : List Ev) (p : Int) : Option ByteArray := (l.find? fun e => decide (e.kind = 1) && decide (e.pl = p)).map Ev.data
def taleV (o : Option ByteArray) : Value := .tuple #[.string (o.getD ⟨#[]⟩), .bool o.isSome]
theorem find_at {α : Type} (q : α → Bool) (l : List α) (k : Nat) (h : k < l.length) (h1 : ∀ i (h : i < l.length), i < k → q l[i] = false) (h2 : q l[k] = true) : l.find? q = some l[k] := by
 rw [List.find?_eq_some_iff_getElem]
 exact ⟨h2, k, h, rfl, fun j hj => by rw [h1 j (by omega) hj]; rfl⟩
theorem find_no {α : Type} (q : α → Bool) (l : List α) (h1 : ∀ i (h : i < l.length), q l[i] = false) : l.find? q = none := by
 rw [List.find?_eq_none]
 intro x hx
 obtain ⟨i, hi, rfl⟩ := List.getElem_of_mem hx
 rw [h1 i hi]; simp
theorem tale_evK (l : List Ev) (p : Int) : taleM l p = ((evK [1] l).find? fun e => decide (e.pl = p)).map Ev.data := by
 unfold taleM evK
 rw [List.find?_filter]
 congr 1
 congr 1
 funext e
 simp
set_option maxHeartbeats 4000000 in
theorem told_any (v : Value) (m : Rr) (p : Int) (w : World) (hv : RdReader v m w) :
  Calls Tryz.prog 52 #[v, .int .i64 p] w fun e w' => e = .returned (taleV (taleM m.out p)) ∧ Below w.heap.size w w' := by
 obtain ⟨sv, rfl, hs⟩ := hv
 have HU := dH fun W (hb : Below w.heap.size w W) => hs.below hb
 obtain ⟨sa, sc, rfl, hul⟩ := formEventS hs
 clear hs
 have B0 : Below w.heap.size w (w.alloc (.cells #[.int .i64 m.epoch, .int .i64 m.off, .slice sa m.out.length sc] 62)) := (Below.refl _ _).alloc (Nat.le_refl _) _
 have X0 := Bx.new w [.int .i64 m.epoch, .int .i64 m.off, .slice sa m.out.length sc] 62
 generalize m.out = es at *
 generalize m.epoch = ep at *
 generalize m.off = of at *
 have FA : Hid (∀ k (h : k < es.length), (∀ i (h : i < es.length), i < k → (decide (es[i].kind = 1) && decide (es[i].pl = p)) = false) → es[k].kind = 1 → es[k].pl = p → taleV (taleM es p) = .tuple #[.string es[k].data, .bool true]) := fun k h h1 h2 h3 => by
  unfold taleV taleM
  rw [find_at _ es k h h1 (by simp [h2, h3])]
  rfl
 have FN : Hid ((∀ i (h : i < es.length), (decide (es[i].kind = 1) && decide (es[i].pl = p)) = false) → taleV (taleM es p) = .tuple #[.string ⟨#[]⟩, .bool false]) := fun h1 => by
  unfold taleV taleM
  rw [find_no _ es h1]
  rfl
 generalize taleV (taleM es p) = V at *
 go_enter Tryz.func52, Tryz.ntmps52
 go_wp2
 generalize w.alloc (.cells #[.int .i64 ep, .int .i64 of, .slice sa es.length sc] 62) = w0 at *
 go_loopw [6] (fun y wr => ∃ k : Nat, y = .int .i64 (k : Int) ∧ k ≤ es.length ∧ Hid (∀ i (h : i < es.length), i < k → (decide (es[i].kind = 1) && decide (es[i].pl = p)) = false) ∧ wr = w0) (fun y _ => es.length - (intOf y).toNat)
 case atStart => exact ⟨0, rfl, Nat.zero_le _, fun i h h' => by omega, rfl⟩
 case round =>
  obtain ⟨k, rfl, hk, hinv, rfl⟩ := hrel
  have k2 := X0 2 _ rfl
  by_cases hlt : (k : Int) < (es.length : Int)
  ·have hkl : k < es.length := by omega
   obtain ⟨b, off, rfl, he⟩ := (dU HU _ B0).atEv hkl
   obtain ⟨c0, c1, c2⟩ := he k hkl
   have H2 : Hid ((decide (es[k].kind = 1) && decide (es[k].pl = p)) = false → ∀ i (h : i < es.length), i < k + 1 → (decide (es[i].kind = 1) && decide (es[i].pl = p)) = false) := fun hh i h hi => by
    by_cases e : i = k
    ·subst e; exact hh
    ·exact dU hinv i h (by omega)
   have FK : Hid (es[k].kind = 1 → es[k].pl = p → V = .tuple #[.string es[k].data, .bool true]) := dU FA k hkl (dU hinv)
   clear hinv he
   generalize es[k] = y at *
   obtain ⟨y0, y1, y2⟩ := y
   simp only at c0 c1 c2 H2 FK
   by_cases h1 : y0 = 1
   ·by_cases h2 : y1 = p
    ·have E := dH (dU FK h1 h2)
     subst h1 h2
     clear H2 FK FA FN
     go_wp2
     go_ret2
     exact ⟨by rw [dU E]; rfl, B0⟩
    ·have H3 := dH (dU H2 (by simp [h2]))
     have hb2 : (y1 == p) = false := by simpa using h2
     subst h1
     clear H2 FK h2
     go_wp2
     go_roundw
     case rel => exact ⟨k + 1, by go_num, by omega, H3, by first | trivial | rfl⟩
     case measure => simp [intOf]; omega
   ·have H3 := dH (dU H2 (by simp [h1]))
    have hb1 : (y0 == 1) = false := by simpa using h1
    clear H2 FK
    go_wp2
    go_roundw
    case rel => exact ⟨k + 1, by go_num, by omega, H3, by first | trivial | rfl⟩
    case measure => simp [intOf]; omega
  ·have E := dH (dU FN fun i h => dU hinv i h (by omega))
   clear FA FN hinv
   go_wp2
   go_ret2
   exact ⟨by rw [dU E]; rfl, B0⟩
def plN (r : Rr) : Int := 4294967296 * r.epoch + r.off
theorem placeN_any (a b : Int) (h1 : 0 ≤ a) (h2 : a ≤ 1000) (h3 : 0 ≤ b) (h4 : b ≤ 1000) (w : World) :
  Calls Tryz.prog 82 #[.int .i64 a, .int .i64 b] w fun e w' => e = .returned (.int .i64 (4294967296 * a + b)) ∧ Below w.heap.size w w' := by
 have e1 : wrap64 (4294967296 * a) = 4294967296 * a := by unfold wrap64; omega
 have e2 : wrap64 (4294967296 * a + b) = 4294967296 * a + b := by unfold wrap64; omega
 go_enter Tryz.func82, Tryz.ntmps82
 go_wp2
 go_ret
 exact ⟨rfl, Below.refl _ _⟩
theorem numberN_any (a b : Int) (h1 : 0 ≤ a) (h2 : a ≤ 1000) (h3 : 0 ≤ b) (h4 : b ≤ 1000) (w : World) :
  Calls Tryz.prog 222 #[.agg #[.int .i64 a, .int .i64 b]] w fun e w' => e = .returned (.int .i64 (4294967296 * a + b)) ∧ Below w.heap.size w w' := by
 have e1 : wrap64 (a * 4294967296) = a * 4294967296 := by unfold wrap64; omega
 have e2 : wrap64 (a * 4294967296 + b) = a * 4294967296 + b := by unfold wrap64; omega
 have e3 : 4294967296 * a + b = a * 4294967296 + b := by omega
 rw [e3]
 clear e3
 go_enter Tryz.func222, Tryz.ntmps222
 go_wp2
 go_ret
 exact ⟨rfl, (Below.refl _ _).alloc (Nat.le_refl _) _⟩
def smallR (r : Rr) : Prop := (0 ≤ r.epoch ∧ r.epoch ≤ 1000) ∧ 0 ≤ r.off ∧ r.off ≤ 1000
theorem specPassed_any (v : Value) (m : Rr) (p : Int) (w : World) (hv : RdReader v m w) (hr : smallR m) :
  Calls Tryz.prog 53 #[v, .int .i64 p] w fun e w' => RetB (p < plN m) e ∧ Below w.heap.size w w' := by
 obtain ⟨sv, rfl, hs⟩ := hv
 obtain ⟨sa, sc, rfl, hul⟩ := formEventS hs
 have B0 : Below w.heap.size w (w.alloc (.cells #[.int .i64 m.epoch, .int .i64 m.off, .slice sa m.out.length sc] 62)) := (Below.refl _ _).alloc (Nat.le_refl _) _
 have C := dH fun W => placeN_any m.epoch m.off hr.1.1 hr.1.2 hr.2.1 hr.2.2 W
 have e0 : plN m = 4294967296 * m.epoch + m.off := rfl
 rw [← e0] at C
 generalize plN m = N at *
 clear hs hr e0
 by_cases h : p < N
 ·have R := dH (RetB.yes h)
  go_enter Tryz.func53, Tryz.ntmps53
  go_wp2_with fail
  refine (dU C _).mono ?_
  rintro e w1 ⟨rfl, b1⟩
  have B1 := bT B0 b1
  clear C b1
  go_wp2
  go_ret
  exact ⟨dU R, B1⟩
 ·have R := dH (RetB.no h)
  have hd : decide (p < N) = false := decide_eq_false h
  go_enter Tryz.func53, Tryz.ntmps53
  go_wp2_with fail
  refine (dU C _).mono ?_
  rintro e w1 ⟨rfl, b1⟩
  have B1 := bT B0 b1
  clear C b1
  go_wp2
  go_ret
  exact ⟨dU R, B1⟩
theorem implPassed_any (v : Value) (m : Rr) (p : Int) (w : World) (hv : RdReader v m w) (hr : smallR m) :
  Calls Tryz.prog 179 #[v, .int .i64 p] w fun e w' => RetB (p < plN m) e ∧ Below w.heap.size w w' := by
 obtain ⟨sv, rfl, hs⟩ := hv
 obtain ⟨sa, sc, rfl, hul⟩ := formEventS hs
 have B0 : Below w.heap.size w (w.alloc (.cells #[.int .i64 m.epoch, .int .i64 m.off, .slice sa m.out.length sc] 62)) := (Below.refl _ _).alloc (Nat.le_refl _) _
 have C := dH fun W => numberN_any m.epoch m.off hr.1.1 hr.1.2 hr.2.1 hr.2.2 W
 have e0 : plN m = 4294967296 * m.epoch + m.off := rfl
 rw [← e0] at C
 generalize plN m = N at *
 clear hs hr e0
 by_cases h : p < N
 ·have R := dH (RetB.yes h)
  go_enter Tryz.func179, Tryz.ntmps179
  go_wp2_with fail
  refine (dU C _).mono ?_
  rintro e w1 ⟨rfl, b1⟩
  have B1 := bT B0 b1
  clear C b1
  go_wp2
  go_ret
  exact ⟨dU R, B1⟩
 ·have R := dH (RetB.no h)
  have hd : decide (p < N) = false := decide_eq_false h
  go_enter Tryz.func179, Tryz.ntmps179
  go_wp2_with fail
  refine (dU C _).mono ?_
  rintro e w1 ⟨rfl, b1⟩
  have B1 := bT B0 b1
  clear C b1
  go_wp2
  go_ret
  exact ⟨dU R, B1⟩
def addT (acc : List Ev) (e : Ev) : List Ev := if (evAt acc e.pl).isSome then acc else acc ++ [e]
def talesL (es : List Ev) : List Ev := es.foldl addT []
theorem evAt_addT (acc : List Ev) (e : Ev) (z : Int) : evAt (addT acc e) z = (evAt acc z).or (if e.pl = z then some e else none) := by
 unfold addT
 by_cases h : (evAt acc e.pl).isSome = true
 ·rw [if_pos h]
  by_cases hz : e.pl = z
  ·subst hz
   obtain ⟨x, hx⟩ := Option.isSome_iff_exists.1 h
   rw [hx]; rfl
  ·rw [if_neg hz]; simp
 ·rw [if_neg h, evAt_snoc]
theorem evAt_foldl (es : List Ev) : ∀ (acc : List Ev) (z : Int), evAt (es.foldl addT acc) z = (evAt acc z).or (evAt es z) := by
 induction es with
 | nil => intro acc z; simp [evAt]
 | cons a l ih =>
  intro acc z
  rw [List.foldl_cons, ih, evAt_addT, Option.or_assoc]
  congr 1
  unfold evAt
  rw [List.find?_cons]
  by_cases h : a.pl = z <;> simp [h]
theorem talesL_at (es : List Ev) (z : Int) : evAt (talesL es) z = evAt es z := by rw [talesL, evAt_foldl]; rfl
theorem talesL_take (es : List Ev) (k : Nat) (h : k < es.length) : talesL (es.take (k + 1)) = addT (talesL (es.take k)) es[k] := by
 rw [talesL, List.take_succ_eq_append_getElem h, List.foldl_append]
 rfl
theorem talesL_len (es : List Ev) (k : Nat) (h : k ≤ es.length) : (talesL (es.take k)).length ≤ k := by
 induction k with
 | zero => simp [talesL]
 | succ n ih =>
  rw [talesL_take es n (by omega)]
  have := ih (by omega)
  unfold addT
  split
  ·omega
  ·simp; omega
theorem nodup_addT {acc : List Ev} (h : (acc.map Ev.pl).Nodup) (e : Ev) : ((addT acc e).map Ev.pl).Nodup := by
 unfold addT
 split
 ·exact h
 ·rename_i hn
  rw [List.map_append]
  refine List.nodup_append.2 ⟨h, by simp, fun p hp q hq => ?_⟩
  obtain rfl : q = e.pl := by simpa using hq
  intro ee
  subst ee
  obtain ⟨y, hy, ey⟩ := List.mem_map.1 hp
  refine hn ?_
  cases hq : evAt acc e.pl with
  | none => have := List.find?_eq_none.1 hq y hy; simp [ey] at this
  | some _ => rfl
theorem nodup_foldl (es : List Ev) : ∀ acc : List Ev, (acc.map Ev.pl).Nodup → ((es.foldl addT acc).map Ev.pl).Nodup := by
 induction es with
 | nil => intro acc h; exact h
 | cons a l ih => intro acc h; exact ih _ (nodup_addT h a)
theorem evAt_self {l : List Ev} (h : (l.map Ev.pl).Nodup) {x : Ev} (hx : x ∈ l) : evAt l x.pl = some x := by
 cases hq : evAt l x.pl with
 | none => have := List.find?_eq_none.1 hq x hx; simp at this
 | some y =>
  obtain ⟨hy, ey⟩ := evAt_mem hq
  rw [pl_inj h hy hx ey]
theorem talesL_mem {es : List Ev} {e : Ev} : e ∈ talesL es ↔ evAt es e.pl = some e := by
 constructor
 ·intro h
  rw [← talesL_at]
  exact evAt_self (nodup_foldl es [] List.nodup_nil) h
 ·intro h
  rw [← talesL_at] at h
  exact (evAt_mem h).1
def plsR (r : Rr) : Prop := ∀ e ∈ r.out, -9223372036854775808 ≤ e.pl ∧ e.pl ≤ 9223372036854775807
def talesR (r : Rr) : List Ev := talesL (evK [1] r.out)
theorem talesR_at (r : Rr) (z : Int) : evAt (talesR r) z = evAt (evK [1] r.out) z := talesL_at _ _
theorem tale_talesR (r : Rr) (z : Int) : taleM r.out z = (evAt (talesR r) z).map Ev.data := by rw [talesR_at, tale_evK]; rfl
theorem not_map {W : World} {b eb eo c : Nat} {es : Array MapEntry} {v : Value} (hm : W.heap[b]? = some (.map es c)) (hc : W.cell? ⟨eb, eo, none⟩ = some v) : eb ≠ b := by
 rintro rfl
 simp [World.cell?, hm] at hc
theorem TaleN.isMap {W : World} {b : Nat} {l : List Ev} (h : TaleN W b l) : ∃ es c, W.heap[b]? = some (.map es c) := by
 obtain ⟨-, -, D, ⟨es, c, h, -⟩, -⟩ := h
 exact ⟨es, c, h⟩
theorem grown_cell {W W' : World} {b eb eo : Nat} {v : Value} (g : W.grownBy W' (some b)) (hn : eb ≠ b) (h : W.cell? ⟨eb, eo, none⟩ = some v) : W'.cell? ⟨eb, eo, none⟩ = some v :=
 (World.cell?_of_block (a := ⟨eb, eo, none⟩) (g.block eb (dCell_lt h) (by simpa using hn))).trans h
theorem grown_trans {W W' W'' : World} {b : Nat} (g : W.grownBy W' (some b)) (g' : W'.grownBy W'' (some b)) : W.grownBy W'' (some b) where
 os := g'.os.trans g.os
 tape := g'.tape.trans g.tape
 output := g'.output.trans g.output
 size := Nat.le_trans g.size g'.size
 block := fun k hk hn => (g'.block k (Nat.lt_of_lt_of_le hk g.size) hn).trans (g.block k hk hn)
theorem grown_refl (W : World) (row : Option Nat) : W.grownBy W row where
 os := rfl
 tape := rfl
 output := rfl
 size := Nat.le_refl _
 block := fun _ _ _ => rfl
section
variable (w : World) {ops : Array Oper} {rest : List Oper} {o : Oper} {a : Act} {Q : Exit → Act → World → Prop}
theorem wp_taleNo (hg : o.guard = none) (m x : Operand) (hop : o.op = Op.lookup 205 m x true) (b : Nat) (l : List Ev) (z : Int) (hm : a.eval m = .map (some b)) (h : TaleN w b l)
  (hx : a.eval x = .int .i64 z) (hz : -9223372036854775808 ≤ z ∧ z ≤ 9223372036854775807) (hn : evAt l z = none)
  (hK : wpList Tryz.prog ops Q rest (a.put o.dst (.tuple #[.agg #[.int .i64 0, .int .i64 0, .string ⟨#[]⟩], .bool false])) w) : wpList Tryz.prog ops Q (o :: rest) a w :=
 wp_taleHas w hg m x hop b l z hm h hx hz (by rw [hn]; exact hK)
theorem wp_taleYes (hg : o.guard = none) (m x : Operand) (hop : o.op = Op.lookup 205 m x true) (b : Nat) (l : List Ev) (z : Int) (hm : a.eval m = .map (some b)) (h : TaleN w b l)
  (hx : a.eval x = .int .i64 z) (hz : -9223372036854775808 ≤ z ∧ z ≤ 9223372036854775807) (q0 q1 : Int) (q2 : ByteArray) (hn : evAt l z = some ⟨q0, q1, q2⟩)
  (hK : wpList Tryz.prog ops Q rest (a.put o.dst (.tuple #[.agg #[.int .i64 q0, .int .i64 q1, .string q2], .bool true])) w) : wpList Tryz.prog ops Q (o :: rest) a w :=
 wp_taleHas w hg m x hop b l z hm h hx hz (by rw [hn]; exact hK)
end
set_option maxHeartbeats 8000000 in
theorem tales_any (v : Value) (m : Rr) (w : World) (hv : RdReader v m w) (hl : m.out.length ≤ 1048576) (hp : plsR m) :
  Calls Tryz.prog 177 #[v] w fun e w' => (∃ b, e = .returned (.map (some b)) ∧ TaleN w' b (talesR m)) ∧ Below w.heap.size w w' := by
 have ba : ∀ (w : World) o, Below w.heap.size w (w.alloc o) := fun w o => (Below.refl _ _).alloc (Nat.le_refl _) o
 have C := dH fun W (hb : Below w.heap.size w W) kv (hk : Ns W kv [1]) => events_any v kv m [1] W (hv.below hb) hk hl
 have HP : Hid (∀ e ∈ evK [1] m.out, -9223372036854775808 ≤ e.pl ∧ e.pl ≤ 9223372036854775807) := fun e he => hp e (List.mem_filter.1 he).1
 have HLn : (evK [1] m.out).length ≤ 1048576 := Nat.le_trans (List.length_filter_le _ _) hl
 have TR : Hid (talesR m = talesL (evK [1] m.out)) := rfl
 generalize talesR m = TM at *
 obtain ⟨sv, rfl, hs⟩ := hv
 obtain ⟨sa, sc, rfl, -⟩ := formEventS hs
 have hmm := @run_makeMap Tryz.prog
 have b1 := ba w (.cells #[.int .i64 m.epoch, .int .i64 m.off, .slice sa m.out.length sc] 62)
 have b2 := ba (w.alloc (.cells #[.int .i64 m.epoch, .int .i64 m.off, .slice sa m.out.length sc] 62)) (.map #[] 0)
 have b3 := ba ((w.alloc (.cells #[.int .i64 m.epoch, .int .i64 m.off, .slice sa m.out.length sc] 62)).alloc (.map #[] 0)) (.cells #[.int .i64 1] 3)
 have B0 := bT (bT b1 b2) b3
 have T0 := (TaleN.made (w.alloc (.cells #[.int .i64 m.epoch, .int .i64 m.off, .slice sa m.out.length sc] 62))).below b3
 have X0 := Bx.new ((w.alloc (.cells #[.int .i64 m.epoch, .int .i64 m.off, .slice sa m.out.length sc] 62)).alloc (.map #[] 0)) [.int .i64 1] 3
 rw [show (w.alloc (.cells #[.int .i64 m.epoch, .int .i64 m.off, .slice sa m.out.length sc] 62)).heap.size = w.heap.size + 1 from by simp] at T0
 rw [show ((w.alloc (.cells #[.int .i64 m.epoch, .int .i64 m.off, .slice sa m.out.length sc] 62)).alloc (.map #[] 0)).heap.size = w.heap.size + 1 + 1 from by simp] at X0
 have N0 : Hid (Ns (((w.alloc (.cells #[.int .i64 m.epoch, .int .i64 m.off, .slice sa m.out.length sc] 62)).alloc (.map #[] 0)).alloc (.cells #[.int .i64 1] 3)) (.slice (some ⟨w.heap.size + 1 + 1, 0, none⟩) 1 1) [1]) := ⟨by simp, _, 1, rfl, ⟨by simp, by omega⟩, .inr ⟨w.heap.size + 1 + 1, 0, rfl, fun i hi => by
  have : i = 0 := by simpa using hi
  subst this
  exact X0 0 _ rfl⟩⟩
 clear hs X0 b1 b2 b3 hp hl
 go_enter Tryz.func177, Tryz.ntmps177
 go_wp2_with fail
 refine (dU C _ B0 _ (dU N0)).mono ?_
 rintro e w1 ⟨⟨u, rfl, hu⟩, b1⟩
 have B1 := dH (bT B0 b1)
 replace T0 := T0.below b1
 have HU := dH hu
 obtain ⟨ua, uc, rfl, hul⟩ := formEventS hu
 clear hu b1 B0 C N0
 generalize evK [1] m.out = es at *
 have NM : Hid (∀ eb eo v, w1.cell? ⟨eb, eo, none⟩ = some v → eb ≠ w.heap.size + 1) := fun eb eo v hc => by
  obtain ⟨es', c, hm⟩ := T0.isMap
  exact not_map hm hc
 go_wp2
 go_loopw [13] (fun y wr => ∃ k : Nat, y = .int .i64 (k : Int) ∧ k ≤ es.length ∧ Hid (TaleN wr (w.heap.size + 1) (talesL (es.take k))) ∧ Hid (w1.grownBy wr (some (w.heap.size + 1)))) (fun y _ => es.length - (intOf y).toNat)
 case atStart => exact ⟨0, rfl, Nat.zero_le _, T0, grown_refl _ _⟩
 case round =>
  obtain ⟨k, rfl, hk, hT, hG⟩ := hrel
  by_cases hlt : (k : Int) < (es.length : Int)
  ·have hkl : k < es.length := by omega
   obtain ⟨b, off, rfl, he⟩ := (dU HU).atEv hkl
   obtain ⟨d0, d1, d2⟩ := he k hkl
   have nb := dU NM _ _ _ d0
   have c0 := grown_cell (dU hG) nb d0
   have c1 := grown_cell (dU hG) nb d1
   have c2 := grown_cell (dU hG) nb d2
   have hz := dH (dU HP es[k] (List.getElem_mem hkl))
   have e1 := dH (talesL_take es k hkl)
   have hlen := talesL_len es k hk
   clear he d0 d1 d2 nb NM HU HP T0
   generalize es[k] = y at *
   obtain ⟨y0, y1, y2⟩ := y
   simp only at c0 c1 c2
   generalize talesL (es.take k) = L at *
   have bx := ba wr (.cells #[.int .i64 y0, .int .i64 y1, .string y2] 81)
   have XE := Bx.new wr [.int .i64 y0, .int .i64 y1, .string y2] 81
   have hT1 := (dU hT).below bx
   have gx := dH (grown_trans (dU hG) (World.grownBy_alloc wr (.cells #[.int .i64 y0, .int .i64 y1, .string y2] 81) (some (w.heap.size + 1))))
   clear hT hG bx
   have x1 := XE 1 _ rfl
   cases hq : evAt L y1 with
   | none =>
    have HQ := dH hq
    have by1 := ba (wr.alloc (.cells #[.int .i64 y0, .int .i64 y1, .string y2] 81)) (.cells #[.int .i64 0, .int .i64 0, .string ⟨#[]⟩] 81)
    have XE2 := XE.below by1
    have hT2 := dH (hT1.below by1)
    have gy := dH (grown_trans (dU gx) (World.grownBy_alloc _ (.cells #[.int .i64 0, .int .i64 0, .string ⟨#[]⟩] 81) (some (w.heap.size + 1))))
    have z0 := XE2 0 _ rfl
    have z1 := XE2 1 _ rfl
    have z2 := XE2 2 _ rfl
    have E1 : Hid (addT L ⟨y0, y1, y2⟩ = L ++ [⟨y0, y1, y2⟩]) := by unfold Hid addT; simp [hq]
    clear hq by1 XE XE2 gx
    go_wp2_with (first
     | (at_lookup; refine wp_taleNo _ rfl _ _ rfl (w.heap.size + 1) L y1 rfl hT1 rfl (dU hz) (dU HQ) ?_)
     | (at_mapUpdate; refine wp_talePut _ rfl _ _ _ rfl (w.heap.size + 1) L ⟨y0, y1, y2⟩ rfl (dU hT2) rfl (dU hz) rfl (by omega) (dU HQ) ?_; intro w2 hT3 g3)
     | go_in)
    have G3 := dH (grown_trans (dU gy) g3)
    have T3 := dH hT3
    clear hT1 hT2 gy g3 hT3 x1 z0 z1 z2 c0 c1 c2
    go_wp2
    go_roundw
    case rel => exact ⟨k + 1, by go_num, by omega, by rw [dU e1, dU E1]; exact T3, G3⟩
    case measure => simp [intOf]; omega
   | some q =>
    obtain ⟨q0, q1, q2⟩ := q
    have HQ := dH hq
    have by1 := ba (wr.alloc (.cells #[.int .i64 y0, .int .i64 y1, .string y2] 81)) (.cells #[.int .i64 q0, .int .i64 q1, .string q2] 81)
    have T3 := dH (hT1.below by1)
    have gy := dH (grown_trans (dU gx) (World.grownBy_alloc _ (.cells #[.int .i64 q0, .int .i64 q1, .string q2] 81) (some (w.heap.size + 1))))
    have E1 : Hid (addT L ⟨y0, y1, y2⟩ = L) := by unfold Hid addT; simp [hq]
    clear hq by1 XE gx
    go_wp2_with (first
     | (at_lookup; refine wp_taleYes _ rfl _ _ rfl (w.heap.size + 1) L y1 rfl hT1 rfl (dU hz) q0 q1 q2 (dU HQ) ?_)
     | go_in)
    go_roundw
    case rel => exact ⟨k + 1, by go_num, by omega, by rw [dU e1, dU E1]; exact T3, gy⟩
    case measure => simp [intOf]; omega
  ·have e1 : es.take k = es := List.take_of_length_le (by omega)
   rw [e1] at hT
   have BF : Below w.heap.size w wr := (dU B1).grown (dU hG) (dU B1).size (fun j hj => by cases hj; omega)
   clear e1 HU HP NM T0
   rw [← dU TR] at hT
   go_wp2
   go_ret
   exact ⟨⟨_, rfl, dU hT⟩, BF⟩
def keptE (r : Rr) (tr : Int) (s : Se) : Prop := s.sure = true → tr < s.pl → s.pl < plN r → (evAt (talesR r) s.pl).isSome = true
set_option maxHeartbeats 8000000 in
theorem kept1_any (s : Se) (bt bi br mb : Nat) (tr : Int) (r : Rr) (ra : Option Addr) (rc : Nat) (w : World) (hs : -9223372036854775808 ≤ s.pl ∧ s.pl ≤ 9223372036854775807) (XT : Bx w bt [.map (some mb)]) (XI : Bx w bi [.int .i64 tr]) (XR : Bx w br [.int .i64 r.epoch, .int .i64 r.off, .slice ra r.out.length rc]) (HT : TaleN w mb (talesR r)) (hr : RdReader (.agg #[.int .i64 r.epoch, .int .i64 r.off, .slice ra r.out.length rc]) r w) (sm : smallR r) :
  Calls Tryz.prog 178 (#[s.val] ++ #[.pointer (some ⟨bt, 0, none⟩), .pointer (some ⟨bi, 0, none⟩), .pointer (some ⟨br, 0, none⟩)]) w fun e w' => RetB (keptE r tr s) e ∧ Below w.heap.size w w' := by
 have ba : ∀ (w : World) o, Below w.heap.size w (w.alloc o) := fun w o => (Below.refl _ _).alloc (Nat.le_refl _) o
 obtain ⟨y0, y1, y2⟩ := s
 have CP := dH fun W (hW : Below w.heap.size w W) => implPassed_any _ r y0 W (hr.below hW) sm
 have b1 := ba w (.cells #[.int .i64 y0, .string y1, .bool y2] 84)
 have XS := Bx.new w [.int .i64 y0, .string y1, .bool y2] 84
 replace XT := XT.below b1
 replace XI := XI.below b1
 replace XR := XR.below b1
 have HT1 := HT.below b1
 have KE : Hid (keptE r tr ⟨y0, y1, y2⟩ ↔ (y2 = true → tr < y0 → y0 < plN r → (evAt (talesR r) y0).isSome = true)) := Iff.rfl
 simp only at hs
 have HS := dH hs
 clear hr sm HT hs
 generalize keptE r tr ⟨y0, y1, y2⟩ = PQ at *
 generalize talesR r = L at *
 generalize plN r = N at *
 generalize r.epoch = ep at *
 generalize r.off = of at *
 generalize r.out.length = ol at *
 show Calls Tryz.prog 178 #[.agg #[.int .i64 y0, .string y1, .bool y2], .pointer (some ⟨bt, 0, none⟩), .pointer (some ⟨bi, 0, none⟩), .pointer (some ⟨br, 0, none⟩)] w _
 have t0 := XT 0 _ rfl
 have s0 := XS 0 _ rfl
 have s2 := XS 2 _ rfl
 cases hq : evAt L y0 with
 | some q =>
  obtain ⟨q0, q1, q2⟩ := q
  have HQ := dH hq
  have b2 := bT b1 (ba _ (.cells #[.int .i64 q0, .int .i64 q1, .string q2] 81))
  have R := dH (show RetB PQ (.returned (.bool true)) from RetB.yes ((dU KE).2 fun _ _ _ => by rw [hq]; rfl))
  clear hq XT XI XR XS CP KE b1
  go_enter Tryz.func178, Tryz.ntmps178
  go_wp2_with (first
   | (at_lookup; refine wp_taleYes _ rfl _ _ rfl mb L y0 rfl HT1 rfl (dU HS) q0 q1 q2 (dU HQ) ?_)
   | go_in)
  go_ret
  exact ⟨dU R, b2⟩
 | none =>
  have HQ := dH hq
  have b2 := bT b1 (ba _ (.cells #[.int .i64 0, .int .i64 0, .string ⟨#[]⟩] 81))
  have b2' := ba (w.alloc (.cells #[.int .i64 y0, .string y1, .bool y2] 84)) (.cells #[.int .i64 0, .int .i64 0, .string ⟨#[]⟩] 81)
  replace XS := XS.below b2'
  replace XI := XI.below b2'
  replace XR := XR.below b2'
  have s0' := XS 0 _ rfl
  have s2' := XS 2 _ rfl
  have i0 := XI 0 _ rfl
  have r0 := XR 0 _ rfl
  have r1 := XR 1 _ rfl
  have r2 := XR 2 _ rfl
  have NE : ¬ (evAt L y0).isSome = true := by rw [hq]; simp
  cases y2 with
  | false =>
   have R := dH (show RetB PQ (.returned (.bool true)) from RetB.yes ((dU KE).2 fun h => by cases h))
   clear hq XT XI XR XS CP KE b1 NE
   go_enter Tryz.func178, Tryz.ntmps178
   go_wp2_with (first
    | (at_lookup; refine wp_taleNo _ rfl _ _ rfl mb L y0 rfl HT1 rfl (dU HS) (dU HQ) ?_)
    | go_in)
   go_ret
   exact ⟨dU R, b2⟩
  | true =>
   by_cases hle : y0 ≤ tr
   ·have R := dH (show RetB PQ (.returned (.bool true)) from RetB.yes ((dU KE).2 fun _ h => by omega))
    have hd : decide (y0 ≤ tr) = true := decide_eq_true hle
    clear hq XT XI XR XS CP KE b1 NE
    go_enter Tryz.func178, Tryz.ntmps178
    go_wp2_with (first
     | (at_lookup; refine wp_taleNo _ rfl _ _ rfl mb L y0 rfl HT1 rfl (dU HS) (dU HQ) ?_)
     | go_in)
    go_ret
    exact ⟨dU R, b2⟩
   ·have hd : decide (y0 ≤ tr) = false := decide_eq_false hle
    have CP2 := dH (dU CP _ b2)
    have RY : Hid (∀ q : Bool, (q = true ↔ y0 < N) → RetB PQ (.returned (.bool (!q)))) := fun q hq' => ⟨!q, rfl, by
     rw [dU KE]
     cases q
     ·exact ⟨fun _ _ _ h => (by have := hq'.2 h; cases this), fun _ => rfl⟩
     ·exact ⟨fun h => (by cases h), fun h => absurd (h rfl (by omega) (hq'.1 rfl)) NE⟩⟩
    clear hq XT XI XR XS CP KE b1 NE b2'
    go_enter Tryz.func178, Tryz.ntmps178
    go_wp2_with (first
     | (at_lookup; refine wp_taleNo _ rfl _ _ rfl mb L y0 rfl HT1 rfl (dU HS) (dU HQ) ?_)
     | (go_at_call 179; refine (dU CP2).mono ?_; rintro e w3 ⟨⟨q, rfl, h⟩, b3⟩)
     | go_in)
    have R := dH (dU RY q h)
    have B3 := bT b2 b3
    clear h RY b3 CP2
    cases q
    all_goals
     go_wp2
     go_ret
     exact ⟨dU R, B3⟩
def keptR (sent : List Se) (tr : Int) (r : Rr) : Prop := ∀ s ∈ sent, keptE r tr s
set_option maxHeartbeats 8000000 in
theorem tellsSure_any (v tv : Value) (m : Rr) (sent : List Se) (tr : Int) (w : World) (hv : RdReader v m w) (ht : RdSentS tv sent w) (hl : m.out.length ≤ 1048576) (hp : plsR m) (sm : smallR m) (hs : ∀ s ∈ sent, -9223372036854775808 ≤ s.pl ∧ s.pl ≤ 9223372036854775807) :
  Calls Tryz.prog 123 #[v, tv, .int .i64 tr] w fun e w' => RetB (keptR sent tr m) e ∧ Below w.heap.size w w' := by
 have ba : ∀ (w : World) o, Below w.heap.size w (w.alloc o) := fun w o => (Below.refl _ _).alloc (Nat.le_refl _) o
 have C := dH fun W (hb : Below w.heap.size w W) => tales_any v m W (hv.below hb) hl hp
 have HV := dH fun W (hb : Below w.heap.size w W) => hv.below hb
 have HT := dH fun W (hb : Below w.heap.size w W) => RdSentS.below ht hb
 obtain ⟨sv, rfl, hes⟩ := hv
 obtain ⟨sa, sc, rfl, -⟩ := formEventS hes
 obtain ⟨ta, tc, rfl, -⟩ := formSentS ht
 have b1 := ba w (.cells #[.int .i64 m.epoch, .int .i64 m.off, .slice sa m.out.length sc] 62)
 have b2 := ba (w.alloc (.cells #[.int .i64 m.epoch, .int .i64 m.off, .slice sa m.out.length sc] 62)) (.cells #[.int .i64 tr] 3)
 have B0 := bT b1 b2
 have XR := (Bx.new w [.int .i64 m.epoch, .int .i64 m.off, .slice sa m.out.length sc] 62).below b2
 have XI := Bx.new (w.alloc (.cells #[.int .i64 m.epoch, .int .i64 m.off, .slice sa m.out.length sc] 62)) [.int .i64 tr] 3
 rw [show (w.alloc (.cells #[.int .i64 m.epoch, .int .i64 m.off, .slice sa m.out.length sc] 62)).heap.size = w.heap.size + 1 from by simp] at XI
 have PQ : Hid (keptR sent tr m ↔ ∀ s ∈ sent, keptE m tr s) := Iff.rfl
 generalize keptR sent tr m = PK at *
 clear hes ht b1 b2
 go_enter Tryz.func123, Tryz.ntmps123
 go_wp2_with fail
 generalize (w.alloc (.cells #[.int .i64 m.epoch, .int .i64 m.off, .slice sa m.out.length sc] 62)).alloc (.cells #[.int .i64 tr] 3) = w0 at *
 refine (dU C _ B0).mono ?_
 rintro e w1 ⟨⟨mb, rfl, hT⟩, b1⟩
 have bTm := ba w1 (.cells #[.map (some mb)] 205)
 have XT := Bx.new w1 [.map (some mb)] 205
 have B1 := bT (bT B0 b1) bTm
 replace XR := (XR.below b1).below bTm
 replace XI := (XI.below b1).below bTm
 replace hT := hT.below bTm
 have CE := dH (everySent_any (.slice ta sent.length tc) sent (fun v m _ => v = m.val) 178 #[.pointer (some ⟨w1.heap.size, 0, none⟩), .pointer (some ⟨w.heap.size + 1, 0, none⟩), .pointer (some ⟨w.heap.size, 0, none⟩)] (keptE m tr) _ (by intro args w; rfl) (RdSentS.rdD (dU HT _ B1)) (fun h _ => h) fun W hW u' x hx hu' => by
  subst hu'
  exact kept1_any x w1.heap.size (w.heap.size + 1) w.heap.size mb tr m sa sc W (hs x hx) (XT.below hW) (XI.below hW) (XR.below hW) (hT.below hW) (dU HV W (bT B1 hW)) sm)
 clear b1 bTm XT XR XI hT C HV HT hl hp sm hs B0
 go_wp2_with fail
 refine (dU CE).mono ?_
 rintro e w2 ⟨⟨q, rfl, h⟩, b2⟩
 have R := dH (show RetB PK (.returned (.bool q)) from ⟨q, rfl, h.trans (dU PQ).symm⟩)
 have B2 := bT B1 b2
 clear CE h PQ b2
 cases q
 all_goals
  go_wp2
  go_ret
  exact ⟨dU R, B2⟩
end Go.Proofs.YtekgkjomdpjkbaaGreat
