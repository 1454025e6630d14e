/- Several texts in one: EvyS, EvyE. -/
import Derived.Test.YtodfgehicpejgaaGreatDoorEvyA
import Derived.Deep.RegionHeld3
import Derived.Deep.DeepCutAuto
import Derived.Test.YtodfgehicpejgaaGreatDoorGk169
namespace Go.Proofs.YtodfgehicpejgaaGreatDoor
open Go.ChangeShapes Go.WideShapes Go.ChangeAt Go.RowKit
set_option linter.unusedSimpArgs false
set_option linter.unusedVariables false
set_option maxRecDepth 100000
def Txs (w : World) (v : Value) (xs : List ByteArray) : Prop :=
 xs.length ≤ 9223372036854775807 ∧ ∃ a cap, v = .slice a xs.length cap ∧ (xs.length ≤ cap ∧ cap ≤ 9223372036854775807) ∧ (xs = [] ∨ ∃ b off, a = some ⟨b, off, none⟩ ∧ ∀ i (h : i < xs.length), w.cell? ⟨b, off + i, none⟩ = some (.string xs[i]))
theorem Txs.below {w w' : World} {v : Value} {xs : List ByteArray} (h : Txs w v xs) (hb : Below w.heap.size w w') : Txs w' v xs := by
 obtain ⟨h0, a, cap, rfl, h1, h⟩ := h
 refine ⟨h0, a, cap, rfl, h1, ?_⟩
 rcases h with h | ⟨b, off, rfl, h⟩
 ·exact .inl h
 ·exact .inr ⟨b, off, rfl, fun i hi => (hb.cell (p := ⟨b, off + i, none⟩) (dCell_lt (h i hi))).trans (h i hi)⟩
theorem indexT_any (v : Value) (xs : List ByteArray) (F : Nat) (caps : Array Value) (q : ByteArray → Bool) (w : World) (hF : ∀ args w, (callFunc F args).run Tryz.prog w = .ok (.enter F args) w) (hv : Txs w v xs)
  (hq : ∀ W, Below w.heap.size w W → ∀ z ∈ xs, Calls Tryz.prog F (#[.string z] ++ caps) W fun e w' => e = .returned (.bool (q z)) ∧ Below W.heap.size W w') :
  Calls Tryz.prog 251 #[v, .func (.func F) #[] caps] w fun e w' => (((∀ x ∈ xs, q x = false) ∧ e = .returned (.int .i64 (-1))) ∨ ∃ k, ∃ h : k < xs.length, (∀ i (h : i < xs.length), i < k → q xs[i] = false) ∧ q xs[k] = true ∧ e = .returned (.int .i64 (k : Int))) ∧ Below w.heap.size w w' := by
 have HV := dH fun W (hb : Below w.heap.size w W) => hv.below hb
 have HQ := dH hq
 have hl0 := hv.1
 obtain ⟨-, a, cap, rfl, -, -⟩ := hv
 clear hq
 go_enter Tryz.func251, Tryz.ntmps251
 go_wp2
 go_loopw [8] (fun y wr => ∃ k : Nat, y = .int .i64 (k : Int) ∧ k ≤ xs.length ∧ Hid (∀ i (h : i < xs.length), i < k → q xs[i] = false) ∧ Below w.heap.size w wr) (fun y _ => xs.length - (intOf y).toNat)
 case atStart => exact ⟨0, rfl, Nat.zero_le _, fun i h h' => by omega, Below.refl _ _⟩
 case round =>
  obtain ⟨k, rfl, hk, hcd, hb⟩ := hrel
  by_cases hlt : (k : Int) < (xs.length : Int)
  ·have hkl : k < xs.length := by omega
   obtain ⟨b, off, rfl, he⟩ : ∃ b off, a = some ⟨b, off, none⟩ ∧ ∀ i (h : i < xs.length), wr.cell? ⟨b, off + i, none⟩ = some (.string xs[i]) := by
    obtain ⟨-, a', c', e, -, h⟩ := dU HV wr hb
    simp only [Value.slice.injEq] at e
    obtain ⟨rfl, -, rfl⟩ := e
    rcases h with h | ⟨b, off, e, h⟩
    ·rw [h] at hkl; simp at hkl
    ·exact ⟨b, off, e, h⟩
   have ck := he k hkl
   have CE := dH (dU HQ wr hb xs[k] (List.getElem_mem hkl))
   cases hx : q xs[k] with
   | true =>
    rw [hx] at CE
    have G : Hid (∀ wz, Below w.heap.size w wz → (((∀ x ∈ xs, q x = false) ∧ (Ending.returned (.int .i64 (k : Int))) = .returned (.int .i64 (-1))) ∨ ∃ j, ∃ h : j < xs.length, (∀ i (h : i < xs.length), i < j → q xs[i] = false) ∧ q xs[j] = true ∧ (Ending.returned (.int .i64 (k : Int))) = .returned (.int .i64 (j : Int))) ∧ Below w.heap.size w wz) := fun wz hz => ⟨.inr ⟨k, hkl, dU hcd, hx, rfl⟩, hz⟩
    generalize xs[k] = y at ck CE
    clear he hx hcd
    go_wp2_with fail
    refine (dU CE).mono ?_
    rintro e w1 ⟨rfl, b1⟩
    clear CE
    go_wp2
    go_ret
    exact dU G _ (bT hb b1)
   | false =>
    rw [hx] at CE
    have H2 : Hid (∀ i (h : i < xs.length), i < k + 1 → q xs[i] = false) := fun i h hi => by
     by_cases e : i = k
     ·subst e; exact hx
     ·exact dU hcd i h (by omega)
    generalize xs[k] = y at ck CE
    clear he hx hcd
    go_wp2_with fail
    refine (dU CE).mono ?_
    rintro e w1 ⟨rfl, b1⟩
    clear CE
    go_wp2
    go_roundw
    case rel => exact ⟨k + 1, by go_num, by omega, H2, bT hb b1⟩
    case measure => simp [intOf]; omega
  ·have G := dH (show ∀ x ∈ xs, q x = false from fun x hm => by
    obtain ⟨i, hi, e⟩ := List.mem_iff_getElem.1 hm
    rw [← e]
    exact dU hcd i hi (by omega))
   clear hcd
   go_wp2
   go_ret
   exact ⟨.inl ⟨dU G, rfl⟩, hb⟩
theorem containsT_any (v : Value) (xs : List ByteArray) (F : Nat) (caps : Array Value) (q : ByteArray → Bool) (w : World) (hF : ∀ args w, (callFunc F args).run Tryz.prog w = .ok (.enter F args) w) (hv : Txs w v xs)
  (hq : ∀ W, Below w.heap.size w W → ∀ z ∈ xs, Calls Tryz.prog F (#[.string z] ++ caps) W fun e w' => e = .returned (.bool (q z)) ∧ Below W.heap.size W w') :
  Calls Tryz.prog 175 #[v, .func (.func F) #[] caps] w fun e w' => RetB (∃ x ∈ xs, q x = true) e ∧ Below w.heap.size w w' := by
 have C1 := dH (indexT_any v xs F caps q w hF hv hq)
 have hl := hv.1
 clear hF hv hq
 go_enter Tryz.func175, Tryz.ntmps175
 go_wp2_with fail
 refine (dU C1).mono ?_
 rintro e w1 ⟨h, b1⟩
 clear C1
 rcases h with ⟨h, rfl⟩ | ⟨k, hk, h1, h2, rfl⟩
 ·have R : RetB (∃ x ∈ xs, q x = true) (.returned (.bool false)) := RetB.no fun ⟨x, hx, hq⟩ => by rw [h x hx] at hq; cases hq
  clear h
  go_wp2
  go_ret
  exact ⟨R, b1⟩
 ·have R : RetB (∃ x ∈ xs, q x = true) (.returned (.bool true)) := RetB.yes ⟨_, List.getElem_mem hk, h2⟩
  have hk0 : (0 : Int) ≤ (k : Int) := by omega
  clear h1 h2
  go_wp2
  go_ret
  exact ⟨R, b1⟩
theorem every1Txt_any (z : ByteArray) (F b : Nat) (caps : Array Value) (q : Bool) (w : World) (hF : ∀ args w, (callFunc F args).run Tryz.prog w = .ok (.enter F args) w) (hc : w.cell? ⟨b, 0, none⟩ = some (.func (.func F) #[] caps))
  (hq : Calls Tryz.prog F (#[.string z] ++ caps) w fun e w' => e = .returned (.bool q) ∧ Below w.heap.size w w') :
  Calls Tryz.prog 176 (#[.string z] ++ #[.pointer (some ⟨b, 0, none⟩)]) w fun e w' => e = .returned (.bool (!q)) ∧ Below w.heap.size w w' := by
 have C1 := dH hq
 clear hq
 show Calls Tryz.prog 176 #[.string z, .pointer (some ⟨b, 0, none⟩)] w _
 go_enter Tryz.func176, Tryz.ntmps176
 go_wp2_with fail
 refine (dU C1).mono ?_
 rintro e w1 ⟨rfl, b1⟩
 clear C1 hc
 cases q
 all_goals
  go_wp2
  go_ret
  exact ⟨rfl, b1⟩
theorem everyTxt_any (v : Value) (xs : List ByteArray) (F : Nat) (caps : Array Value) (Q : ByteArray → Prop) (w : World) (hF : ∀ args w, (callFunc F args).run Tryz.prog w = .ok (.enter F args) w) (hv : Txs w v xs)
  (hq : ∀ W, Below w.heap.size w W → ∀ z ∈ xs, Calls Tryz.prog F (#[.string z] ++ caps) W fun e w' => RetB (Q z) e ∧ Below W.heap.size W w') :
  Calls Tryz.prog 89 #[v, .func (.func F) #[] caps] w fun e w' => RetB (∀ x ∈ xs, Q x) e ∧ Below w.heap.size w w' := by
 have B0 : Below w.heap.size w (w.alloc (.cells #[.func (.func F) #[] caps] 125)) := (Below.refl _ _).alloc (Nat.le_refl _) _
 have K0 := Bx.new w [.func (.func F) #[] caps] 125 0 _ rfl
 have C1 := dH (containsT_any v xs 176 #[.pointer (some ⟨w.heap.size, 0, none⟩)] (fun x => !(bq (Q x))) _ (by intro args w; rfl) (hv.below B0) fun W hb z hz => every1Txt_any z F w.heap.size caps (bq (Q z)) W hF ((hb.cell (p := ⟨w.heap.size, 0, none⟩) (dCell_lt K0)).trans K0) ((hq W (bT B0 hb) z hz).mono fun e w' h => ⟨h.1.bq, h.2⟩))
 obtain ⟨-, a, cap, rfl, -, -⟩ := hv
 have FIN : Hid (∀ b : Bool, (b = true ↔ ∃ x ∈ xs, (!(bq (Q x))) = true) → RetB (∀ x ∈ xs, Q x) (.returned (.bool (!b)))) := fun b h => (all_not h).to fun x => bq_iff _
 clear hq K0
 go_enter Tryz.func89, Tryz.ntmps89
 go_wp2_with fail
 refine (dU C1).mono ?_
 rintro e w1 ⟨⟨b, rfl, h⟩, b1⟩
 have R := dH (dU FIN b h)
 have B1 := bT B0 b1
 clear C1 FIN h b1 B0
 cases b
 all_goals
  go_wp2
  go_ret
  exact ⟨dU R, B1⟩
def Ev.pd (e : Ev) : Pd 3 Ev := ⟨e.cl, rfl, e⟩
theorem RdEventS.rdD {v : Value} {ms : List Ev} {W : World} (h : RdEventS v ms W) : RdD 3 (fun v m _ => v = m.val) v ms W := by
 obtain ⟨h0, a, cap, rfl, hcap, h⟩ := h
 refine ⟨ms.map Ev.pd, by rw [List.map_map]; exact List.map_id' ms, ⟨by simpa using h0, a, cap, by simp, by simpa using hcap, ?_⟩, fun p hp => ?_⟩
 ·rcases h with h | ⟨b, off, rfl, hc⟩
  ·exact .inl (by simp [h])
  ·exact .inr ⟨b, off, rfl, fun i hi j u hu => hc i (by simpa using hi) j u (by rw [List.getElem_map] at hu; exact hu)⟩
 ·obtain ⟨q, hq, rfl⟩ := List.mem_map.1 hp
  rfl
set_option maxHeartbeats 2000000 in
theorem indexEvent_any (v : Value) (rs : List (Pd 3 Ev)) (F : Nat) (caps : Array Value) (q : Ev → Bool) (w : World) (hF : ∀ args w, (callFunc F args).run Tryz.prog w = .ok (.enter F args) w) (hr : Rw 3 Pd.c w v rs)
  (hq : ∀ W, Below w.heap.size w W → ∀ k (hk : k < rs.length), Calls Tryz.prog F (#[rs[k].val] ++ caps) W fun e w' => e = .returned (.bool (q rs[k].m)) ∧ Below W.heap.size W w') :
  Calls Tryz.prog 294 #[v, .func (.func F) #[] caps] w fun e w' => e = .returned (.int .i64 (idxL q (rs.map Pd.m))) ∧ Below w.heap.size w w' := by
 have HV := dH fun W (hb : Below w.heap.size w W) => hr.below hb
 have HQ := dH hq
 have hl0 := hr.1
 obtain ⟨-, a, cap, rfl, -, -⟩ := hr
 have FN : Hid ((∀ i (h : i < rs.length), q rs[i].m = false) → idxL q (rs.map Pd.m) = -1) := fun h => idxL_none _ _ fun i hi => by rw [List.getElem_map]; exact h i (by simpa using hi)
 have FA : Hid (∀ k (hk : k < rs.length), (∀ i (h : i < rs.length), i < k → q rs[i].m = false) → q rs[k].m = true → idxL q (rs.map Pd.m) = (k : Int)) := fun k hk h1 h2 => idxL_at _ _ k (by simpa using hk) (fun i hi hik => by rw [List.getElem_map]; exact h1 i (by simpa using hi) hik) (by rw [List.getElem_map]; exact h2)
 generalize idxL q (rs.map Pd.m) = M at *
 clear hq
 go_enter Tryz.func294, Tryz.ntmps294
 go_wp2
 go_loopw [8] (fun x wr => ∃ k : Nat, x = .int .i64 (k : Int) ∧ k ≤ rs.length ∧ Hid (∀ i (h : i < rs.length), i < k → q rs[i].m = false) ∧ Below w.heap.size w wr) (fun x _ => rs.length - (intOf x).toNat)
 case atStart => exact ⟨0, rfl, Nat.zero_le _, fun i h h' => by omega, Below.refl _ _⟩
 case round =>
  obtain ⟨k, rfl, hk, hc, hb⟩ := hrel
  by_cases hlt : (k : Int) < (rs.length : Int)
  ·have hkl : k < rs.length := by omega
   obtain ⟨b, off, rfl, he⟩ := (dU HV _ hb).pd hkl
   have hck := he k hkl
   have CE := dH (dU HQ wr hb k hkl)
   have H2 : Hid (q rs[k].m = false → ∀ i (h : i < rs.length), i < k + 1 → q rs[i].m = false) := fun hcl i h hi => by
    by_cases e : i = k
    ·subst e; exact hcl
    ·exact dU hc i h (by omega)
   have H3 : Hid (q rs[k].m = true → M = (k : Int)) := fun hcl => dU FA k hkl (dU hc) hcl
   clear he hc
   generalize rs[k] = y at *
   obtain ⟨yc, yl, m⟩ := y
   obtain ⟨x0, x1, x2, rfl⟩ := list3_of yl
   unfold Pd.val at CE
   simp only at *
   have c0 := hck 0 _ rfl
   have c1 := hck 1 _ rfl
   have c2 := hck 2 _ rfl
   simp only [Nat.add_zero] at c0 c1 c2
   clear hck
   cases hcl : q m with
   | false =>
    rw [hcl] at CE
    have H4 := dH (dU H2 hcl)
    clear H2 H3
    go_wp2_with fail
    refine (dU CE).mono ?_
    rintro e w1 ⟨rfl, b1⟩
    clear CE c0 c1 c2
    go_wp2
    go_roundw
    case rel => exact ⟨k + 1, by go_num, by omega, dU H4, bT hb b1⟩
    case measure => simp [intOf]; omega
   | true =>
    rw [hcl] at CE
    have e1 := dU H3 hcl
    subst e1
    clear H2 H3 FA FN
    go_wp2_with fail
    refine (dU CE).mono ?_
    rintro e w1 ⟨rfl, b1⟩
    clear CE c0 c1 c2
    go_wp2
    go_ret
    exact ⟨rfl, bT hb b1⟩
  ·have e1 := dU FN fun i h => dU hc i h (by omega)
   subst e1
   clear hc FA FN
   go_wp2
   go_ret
   exact ⟨rfl, hb⟩
theorem containsEvent_any (v : Value) (rs : List (Pd 3 Ev)) (F : Nat) (caps : Array Value) (q : Ev → Bool) (w : World) (hF : ∀ args w, (callFunc F args).run Tryz.prog w = .ok (.enter F args) w) (hr : Rw 3 Pd.c w v rs)
  (hq : ∀ W, Below w.heap.size w W → ∀ k (hk : k < rs.length), Calls Tryz.prog F (#[rs[k].val] ++ caps) W fun e w' => e = .returned (.bool (q rs[k].m)) ∧ Below W.heap.size W w') :
  Calls Tryz.prog 292 #[v, .func (.func F) #[] caps] w fun e w' => RetB (∃ x ∈ rs.map Pd.m, q x = true) e ∧ Below w.heap.size w w' := by
 have C1 := dH (indexEvent_any v rs F caps q w hF hr hq)
 have R := dH (idxL_some q (rs.map Pd.m))
 have hg := idxL_ge q (rs.map Pd.m)
 have hl2 : (rs.map Pd.m).length ≤ 9223372036854775807 := by simpa using hr.1
 generalize (rs.map Pd.m).length = n at *
 generalize idxL q (rs.map Pd.m) = M at *
 clear hF hr hq
 go_enter Tryz.func292, Tryz.ntmps292
 go_wp2_with fail
 refine (dU C1).mono ?_
 rintro e w1 ⟨rfl, b1⟩
 clear C1
 go_wp2
 go_ret
 exact ⟨dU R, b1⟩
theorem every1Event_any (x : Value) (cs : Array Value) (hx : x = .agg cs) (F b : Nat) (caps : Array Value) (q : Bool) (w : World) (hF : ∀ args w, (callFunc F args).run Tryz.prog w = .ok (.enter F args) w) (hc : w.cell? ⟨b, 0, none⟩ = some (.func (.func F) #[] caps)) (hn : cs.size = 3)
  (hq : ∀ W, Below w.heap.size w W → Calls Tryz.prog F (#[x] ++ caps) W fun e w' => e = .returned (.bool q) ∧ Below W.heap.size W w') :
  Calls Tryz.prog 293 (#[x] ++ #[.pointer (some ⟨b, 0, none⟩)]) w fun e w' => e = .returned (.bool (!q)) ∧ Below w.heap.size w w' := by
 have C1 := dH hq
 subst hx
 obtain ⟨l⟩ := cs
 obtain ⟨x0, x1, x2, rfl⟩ := list3_of hn
 have B0 : Below w.heap.size w (w.alloc (.cells #[x0, x1, x2] 143)) := (Below.refl _ _).alloc (Nat.le_refl _) _
 have k0 := (B0.cell (p := ⟨b, 0, none⟩) (dCell_lt hc)).trans hc
 clear hq hc hn
 show Calls Tryz.prog 293 #[.agg #[x0, x1, x2], .pointer (some ⟨b, 0, none⟩)] w _
 go_enter Tryz.func293, Tryz.ntmps293
 go_wp2_with fail
 refine (dU C1 _ B0).mono ?_
 rintro e w1 ⟨rfl, b1⟩
 have B1 := bT B0 b1
 clear C1 k0 b1 B0
 cases q
 all_goals
  go_wp2
  go_ret
  exact ⟨rfl, B1⟩
theorem everyEvent_any (v : Value) (ms : List Ev) (Rd : Value → Ev → World → Prop) (F : Nat) (caps : Array Value) (Q : Ev → Prop) (w : World) (hF : ∀ args w, (callFunc F args).run Tryz.prog w = .ok (.enter F args) w) (hr : RdD 3 Rd v ms w)
  (hR : ∀ {v : Value} {m : Ev} {W W' : World}, Rd v m W → Below W.heap.size W W' → Rd v m W')
  (hq : ∀ W, Below w.heap.size w W → ∀ u, ∀ x ∈ ms, Rd u x W → Calls Tryz.prog F (#[u] ++ caps) W fun e w' => RetB (Q x) e ∧ Below W.heap.size W w') :
  Calls Tryz.prog 244 #[v, .func (.func F) #[] caps] w fun e w' => RetB (∀ x ∈ ms, Q x) e ∧ Below w.heap.size w w' := by
 obtain ⟨rs, rfl, hr, hn⟩ := hr
 have B0 : Below w.heap.size w (w.alloc (.cells #[.func (.func F) #[] caps] 263)) := (Below.refl _ _).alloc (Nat.le_refl _) _
 have K0 := Bx.new w [.func (.func F) #[] caps] 263 0 _ rfl
 have C1 := dH (containsEvent_any v rs 293 #[.pointer (some ⟨w.heap.size, 0, none⟩)] (fun x => !(bq (Q x))) _ (by intro args w; rfl) (hr.below B0) fun W hb k hk => every1Event_any rs[k].val _ rfl F w.heap.size caps (bq (Q rs[k].m)) W hF ((hb.cell (p := ⟨w.heap.size, 0, none⟩) (dCell_lt K0)).trans K0) (by simpa using rs[k].l) fun W' hb' => (hq W' (bT (bT B0 hb) hb') rs[k].val rs[k].m (List.mem_map.2 ⟨_, List.getElem_mem hk, rfl⟩) (hR (hn _ (List.getElem_mem hk)) (bT (bT B0 hb) hb'))).mono fun e w' h => ⟨h.1.bq, h.2⟩)
 obtain ⟨-, a, cap, rfl, -, -⟩ := hr
 have FIN : Hid (∀ b : Bool, (b = true ↔ ∃ x ∈ rs.map Pd.m, (!(bq (Q x))) = true) → RetB (∀ x ∈ rs.map Pd.m, Q x) (.returned (.bool (!b)))) := fun b h => (all_not h).to fun x => bq_iff _
 clear hq hn K0
 go_enter Tryz.func244, Tryz.ntmps244
 go_wp2_with fail
 refine (dU C1).mono ?_
 rintro e w1 ⟨⟨b, rfl, h⟩, b1⟩
 have R := dH (dU FIN b h)
 have B1 := bT B0 b1
 clear C1 FIN h b1 B0
 cases b
 all_goals
  go_wp2
  go_ret
  exact ⟨dU R, B1⟩
end Go.Proofs.YtodfgehicpejgaaGreatDoor
