/- impl's every over rows of records: slices.IndexFunc, slices.ContainsFunc (printed by tools/mkevery.py). -/
import Derived.Test.YtodfgehicpejgaaGreatDoorGk170
import Derived.Test.YtodfgehicpejgaaGreatDoorGk164
namespace Go.Proofs.YtodfgehicpejgaaGreatDoor
open Go.ChangeShapes Go.WideShapes Go.ChangeAt Go.RowKit
set_option linter.unusedVariables false
set_option linter.unusedSimpArgs false
set_option maxRecDepth 100000

def Ps.pd (p : Ps) : Pd 3 St := ⟨psCl p, rfl, p.m⟩
theorem RdStoreS.rdD {v : Value} {ms : List St} {W : World} (h : RdStoreS v ms W) : RdD 3 RdStore v ms W := by
 obtain ⟨rs, h1, ⟨h0, a, cap, rfl, hcap, h⟩, h3⟩ := h
 refine ⟨rs.map Ps.pd, by rw [List.map_map]; exact h1, ⟨by simpa using h0, a, cap, by simp, by simpa using hcap, ?_⟩, fun p hp => ?_⟩
 ·rcases h with h | ⟨b, off, rfl, hc⟩
  ·exact .inl (by simp [h])
  ·exact .inr ⟨b, off, rfl, fun i hi j u hu => hc i (by simpa using hi) j u (by rw [List.getElem_map] at hu; exact hu)⟩
 ·obtain ⟨q, hq, rfl⟩ := List.mem_map.1 hp
  exact h3 q hq
def Se.pd (p : Se) : Pd 3 Se := ⟨p.cl, rfl, p⟩
theorem RdSentS.rdD {v : Value} {ms : List Se} {W : World} (h : RdSentS v ms W) : RdD 3 (fun v m _ => v = m.val) v ms W := by
 obtain ⟨h0, a, cap, rfl, hcap, h⟩ := h
 refine ⟨ms.map Se.pd, by rw [List.map_map]; exact List.map_id' ms, ⟨by simpa using h0, a, cap, by simp, by simpa using hcap, ?_⟩, fun p hp => ?_⟩
 ·rcases h with h | ⟨b, off, rfl, hc⟩
  ·exact .inl (by simp [h])
  ·exact .inr ⟨b, off, rfl, fun i hi j u hu => hc i (by simpa using hi) j u (by rw [List.getElem_map] at hu; exact hu)⟩
 ·obtain ⟨q, hq, rfl⟩ := List.mem_map.1 hp
  rfl
set_option maxHeartbeats 2000000 in
theorem indexStore_any (v : Value) (rs : List (Pd 3 St)) (F : Nat) (caps : Array Value) (q : St → Bool) (w : World) (hF : ∀ args w, (callFunc F args).run Tryz.prog w = .ok (.enter F args) w) (hr : Rw 3 Pd.c w v rs)
  (hq : ∀ W, Below w.heap.size w W → ∀ k (hk : k < rs.length), Calls Tryz.prog F (#[rs[k].val] ++ caps) W fun e w' => e = .returned (.bool (q rs[k].m)) ∧ Below W.heap.size W w') :
  Calls Tryz.prog 227 #[v, .func (.func F) #[] caps] w fun e w' => e = .returned (.int .i64 (idxL q (rs.map Pd.m))) ∧ Below w.heap.size w w' := by
 have HV := dH fun W (hb : Below w.heap.size w W) => hr.below hb
 have HQ := dH hq
 have hl0 := hr.1
 obtain ⟨-, a, cap, rfl, -, -⟩ := hr
 have FN : Hid ((∀ i (h : i < rs.length), q rs[i].m = false) → idxL q (rs.map Pd.m) = -1) := fun h => idxL_none _ _ fun i hi => by rw [List.getElem_map]; exact h i (by simpa using hi)
 have FA : Hid (∀ k (hk : k < rs.length), (∀ i (h : i < rs.length), i < k → q rs[i].m = false) → q rs[k].m = true → idxL q (rs.map Pd.m) = (k : Int)) := fun k hk h1 h2 => idxL_at _ _ k (by simpa using hk) (fun i hi hik => by rw [List.getElem_map]; exact h1 i (by simpa using hi) hik) (by rw [List.getElem_map]; exact h2)
 generalize idxL q (rs.map Pd.m) = M at *
 clear hq
 go_enter Tryz.func227, Tryz.ntmps227
 go_wp2
 go_loopw [8] (fun x wr => ∃ k : Nat, x = .int .i64 (k : Int) ∧ k ≤ rs.length ∧ Hid (∀ i (h : i < rs.length), i < k → q rs[i].m = false) ∧ Below w.heap.size w wr) (fun x _ => rs.length - (intOf x).toNat)
 case atStart => exact ⟨0, rfl, Nat.zero_le _, fun i h h' => by omega, Below.refl _ _⟩
 case round =>
  obtain ⟨k, rfl, hk, hc, hb⟩ := hrel
  by_cases hlt : (k : Int) < (rs.length : Int)
  ·have hkl : k < rs.length := by omega
   obtain ⟨b, off, rfl, he⟩ := (dU HV _ hb).pd hkl
   have hck := he k hkl
   have CE := dH (dU HQ wr hb k hkl)
   have H2 : Hid (q rs[k].m = false → ∀ i (h : i < rs.length), i < k + 1 → q rs[i].m = false) := fun hcl i h hi => by
    by_cases e : i = k
    ·subst e; exact hcl
    ·exact dU hc i h (by omega)
   have H3 : Hid (q rs[k].m = true → M = (k : Int)) := fun hcl => dU FA k hkl (dU hc) hcl
   clear he hc
   generalize rs[k] = y at *
   obtain ⟨yc, yl, m⟩ := y
   obtain ⟨x0, x1, x2, rfl⟩ := list3_of yl
   unfold Pd.val at CE
   simp only at *
   have c0 := hck 0 _ rfl
   have c1 := hck 1 _ rfl
   have c2 := hck 2 _ rfl
   simp only [Nat.add_zero] at c0 c1 c2
   clear hck
   cases hcl : q m with
   | false =>
    rw [hcl] at CE
    have H4 := dH (dU H2 hcl)
    clear H2 H3
    go_wp2_with fail
    refine (dU CE).mono ?_
    rintro e w1 ⟨rfl, b1⟩
    clear CE c0 c1 c2
    go_wp2
    go_roundw
    case rel => exact ⟨k + 1, by go_num, by omega, dU H4, bT hb b1⟩
    case measure => simp [intOf]; omega
   | true =>
    rw [hcl] at CE
    have e1 := dU H3 hcl
    subst e1
    clear H2 H3 FA FN
    go_wp2_with fail
    refine (dU CE).mono ?_
    rintro e w1 ⟨rfl, b1⟩
    clear CE c0 c1 c2
    go_wp2
    go_ret
    exact ⟨rfl, bT hb b1⟩
  ·have e1 := dU FN fun i h => dU hc i h (by omega)
   subst e1
   clear hc FA FN
   go_wp2
   go_ret
   exact ⟨rfl, hb⟩
theorem containsStore_any (v : Value) (rs : List (Pd 3 St)) (F : Nat) (caps : Array Value) (q : St → Bool) (w : World) (hF : ∀ args w, (callFunc F args).run Tryz.prog w = .ok (.enter F args) w) (hr : Rw 3 Pd.c w v rs)
  (hq : ∀ W, Below w.heap.size w W → ∀ k (hk : k < rs.length), Calls Tryz.prog F (#[rs[k].val] ++ caps) W fun e w' => e = .returned (.bool (q rs[k].m)) ∧ Below W.heap.size W w') :
  Calls Tryz.prog 135 #[v, .func (.func F) #[] caps] w fun e w' => RetB (∃ x ∈ rs.map Pd.m, q x = true) e ∧ Below w.heap.size w w' := by
 have C1 := dH (indexStore_any v rs F caps q w hF hr hq)
 have R := dH (idxL_some q (rs.map Pd.m))
 have hg := idxL_ge q (rs.map Pd.m)
 have hl2 : (rs.map Pd.m).length ≤ 9223372036854775807 := by simpa using hr.1
 generalize (rs.map Pd.m).length = n at *
 generalize idxL q (rs.map Pd.m) = M at *
 clear hF hr hq
 go_enter Tryz.func135, Tryz.ntmps135
 go_wp2_with fail
 refine (dU C1).mono ?_
 rintro e w1 ⟨rfl, b1⟩
 clear C1
 go_wp2
 go_ret
 exact ⟨dU R, b1⟩
theorem every1Store_any (x : Value) (cs : Array Value) (hx : x = .agg cs) (F b : Nat) (caps : Array Value) (q : Bool) (w : World) (hF : ∀ args w, (callFunc F args).run Tryz.prog w = .ok (.enter F args) w) (hc : w.cell? ⟨b, 0, none⟩ = some (.func (.func F) #[] caps)) (hn : cs.size = 3)
  (hq : ∀ W, Below w.heap.size w W → Calls Tryz.prog F (#[x] ++ caps) W fun e w' => e = .returned (.bool q) ∧ Below W.heap.size W w') :
  Calls Tryz.prog 136 (#[x] ++ #[.pointer (some ⟨b, 0, none⟩)]) w fun e w' => e = .returned (.bool (!q)) ∧ Below w.heap.size w w' := by
 have C1 := dH hq
 subst hx
 obtain ⟨l⟩ := cs
 obtain ⟨x0, x1, x2, rfl⟩ := list3_of hn
 have B0 : Below w.heap.size w (w.alloc (.cells #[x0, x1, x2] 80)) := (Below.refl _ _).alloc (Nat.le_refl _) _
 have k0 := (B0.cell (p := ⟨b, 0, none⟩) (dCell_lt hc)).trans hc
 clear hq hc hn
 show Calls Tryz.prog 136 #[.agg #[x0, x1, x2], .pointer (some ⟨b, 0, none⟩)] w _
 go_enter Tryz.func136, Tryz.ntmps136
 go_wp2_with fail
 refine (dU C1 _ B0).mono ?_
 rintro e w1 ⟨rfl, b1⟩
 have B1 := bT B0 b1
 clear C1 k0 b1 B0
 cases q
 all_goals
  go_wp2
  go_ret
  exact ⟨rfl, B1⟩
theorem everyStore_any (v : Value) (ms : List St) (Rd : Value → St → World → Prop) (F : Nat) (caps : Array Value) (Q : St → Prop) (w : World) (hF : ∀ args w, (callFunc F args).run Tryz.prog w = .ok (.enter F args) w) (hr : RdD 3 Rd v ms w)
  (hR : ∀ {v : Value} {m : St} {W W' : World}, Rd v m W → Below W.heap.size W W' → Rd v m W')
  (hq : ∀ W, Below w.heap.size w W → ∀ u, ∀ x ∈ ms, Rd u x W → Calls Tryz.prog F (#[u] ++ caps) W fun e w' => RetB (Q x) e ∧ Below W.heap.size W w') :
  Calls Tryz.prog 64 #[v, .func (.func F) #[] caps] w fun e w' => RetB (∀ x ∈ ms, Q x) e ∧ Below w.heap.size w w' := by
 obtain ⟨rs, rfl, hr, hn⟩ := hr
 have B0 : Below w.heap.size w (w.alloc (.cells #[.func (.func F) #[] caps] 100)) := (Below.refl _ _).alloc (Nat.le_refl _) _
 have K0 := Bx.new w [.func (.func F) #[] caps] 100 0 _ rfl
 have C1 := dH (containsStore_any v rs 136 #[.pointer (some ⟨w.heap.size, 0, none⟩)] (fun x => !(bq (Q x))) _ (by intro args w; rfl) (hr.below B0) fun W hb k hk => every1Store_any rs[k].val _ rfl F w.heap.size caps (bq (Q rs[k].m)) W hF ((hb.cell (p := ⟨w.heap.size, 0, none⟩) (dCell_lt K0)).trans K0) (by simpa using rs[k].l) fun W' hb' => (hq W' (bT (bT B0 hb) hb') rs[k].val rs[k].m (List.mem_map.2 ⟨_, List.getElem_mem hk, rfl⟩) (hR (hn _ (List.getElem_mem hk)) (bT (bT B0 hb) hb'))).mono fun e w' h => ⟨h.1.bq, h.2⟩)
 obtain ⟨-, a, cap, rfl, -, -⟩ := hr
 have FIN : Hid (∀ b : Bool, (b = true ↔ ∃ x ∈ rs.map Pd.m, (!(bq (Q x))) = true) → RetB (∀ x ∈ rs.map Pd.m, Q x) (.returned (.bool (!b)))) := fun b h => (all_not h).to fun x => bq_iff _
 clear hq hn K0
 go_enter Tryz.func64, Tryz.ntmps64
 go_wp2_with fail
 refine (dU C1).mono ?_
 rintro e w1 ⟨⟨b, rfl, h⟩, b1⟩
 have R := dH (dU FIN b h)
 have B1 := bT B0 b1
 clear C1 FIN h b1 B0
 cases b
 all_goals
  go_wp2
  go_ret
  exact ⟨dU R, B1⟩
set_option maxHeartbeats 2000000 in
theorem indexWriter_any (v : Value) (rs : List (Pd 2 Wt)) (F : Nat) (caps : Array Value) (q : Wt → Bool) (w : World) (hF : ∀ args w, (callFunc F args).run Tryz.prog w = .ok (.enter F args) w) (hr : Rw 2 Pd.c w v rs)
  (hq : ∀ W, Below w.heap.size w W → ∀ k (hk : k < rs.length), Calls Tryz.prog F (#[rs[k].val] ++ caps) W fun e w' => e = .returned (.bool (q rs[k].m)) ∧ Below W.heap.size W w') :
  Calls Tryz.prog 233 #[v, .func (.func F) #[] caps] w fun e w' => e = .returned (.int .i64 (idxL q (rs.map Pd.m))) ∧ Below w.heap.size w w' := by
 have HV := dH fun W (hb : Below w.heap.size w W) => hr.below hb
 have HQ := dH hq
 have hl0 := hr.1
 obtain ⟨-, a, cap, rfl, -, -⟩ := hr
 have FN : Hid ((∀ i (h : i < rs.length), q rs[i].m = false) → idxL q (rs.map Pd.m) = -1) := fun h => idxL_none _ _ fun i hi => by rw [List.getElem_map]; exact h i (by simpa using hi)
 have FA : Hid (∀ k (hk : k < rs.length), (∀ i (h : i < rs.length), i < k → q rs[i].m = false) → q rs[k].m = true → idxL q (rs.map Pd.m) = (k : Int)) := fun k hk h1 h2 => idxL_at _ _ k (by simpa using hk) (fun i hi hik => by rw [List.getElem_map]; exact h1 i (by simpa using hi) hik) (by rw [List.getElem_map]; exact h2)
 generalize idxL q (rs.map Pd.m) = M at *
 clear hq
 go_enter Tryz.func233, Tryz.ntmps233
 go_wp2
 go_loopw [8] (fun x wr => ∃ k : Nat, x = .int .i64 (k : Int) ∧ k ≤ rs.length ∧ Hid (∀ i (h : i < rs.length), i < k → q rs[i].m = false) ∧ Below w.heap.size w wr) (fun x _ => rs.length - (intOf x).toNat)
 case atStart => exact ⟨0, rfl, Nat.zero_le _, fun i h h' => by omega, Below.refl _ _⟩
 case round =>
  obtain ⟨k, rfl, hk, hc, hb⟩ := hrel
  by_cases hlt : (k : Int) < (rs.length : Int)
  ·have hkl : k < rs.length := by omega
   obtain ⟨b, off, rfl, he⟩ := (dU HV _ hb).pd hkl
   have hck := he k hkl
   have CE := dH (dU HQ wr hb k hkl)
   have H2 : Hid (q rs[k].m = false → ∀ i (h : i < rs.length), i < k + 1 → q rs[i].m = false) := fun hcl i h hi => by
    by_cases e : i = k
    ·subst e; exact hcl
    ·exact dU hc i h (by omega)
   have H3 : Hid (q rs[k].m = true → M = (k : Int)) := fun hcl => dU FA k hkl (dU hc) hcl
   clear he hc
   generalize rs[k] = y at *
   obtain ⟨yc, yl, m⟩ := y
   obtain ⟨x0, x1, rfl⟩ := list2_of yl
   unfold Pd.val at CE
   simp only at *
   have c0 := hck 0 _ rfl
   have c1 := hck 1 _ rfl
   simp only [Nat.add_zero] at c0 c1
   clear hck
   cases hcl : q m with
   | false =>
    rw [hcl] at CE
    have H4 := dH (dU H2 hcl)
    clear H2 H3
    go_wp2_with fail
    refine (dU CE).mono ?_
    rintro e w1 ⟨rfl, b1⟩
    clear CE c0 c1
    go_wp2
    go_roundw
    case rel => exact ⟨k + 1, by go_num, by omega, dU H4, bT hb b1⟩
    case measure => simp [intOf]; omega
   | true =>
    rw [hcl] at CE
    have e1 := dU H3 hcl
    subst e1
    clear H2 H3 FA FN
    go_wp2_with fail
    refine (dU CE).mono ?_
    rintro e w1 ⟨rfl, b1⟩
    clear CE c0 c1
    go_wp2
    go_ret
    exact ⟨rfl, bT hb b1⟩
  ·have e1 := dU FN fun i h => dU hc i h (by omega)
   subst e1
   clear hc FA FN
   go_wp2
   go_ret
   exact ⟨rfl, hb⟩
theorem containsWriter_any (v : Value) (rs : List (Pd 2 Wt)) (F : Nat) (caps : Array Value) (q : Wt → Bool) (w : World) (hF : ∀ args w, (callFunc F args).run Tryz.prog w = .ok (.enter F args) w) (hr : Rw 2 Pd.c w v rs)
  (hq : ∀ W, Below w.heap.size w W → ∀ k (hk : k < rs.length), Calls Tryz.prog F (#[rs[k].val] ++ caps) W fun e w' => e = .returned (.bool (q rs[k].m)) ∧ Below W.heap.size W w') :
  Calls Tryz.prog 148 #[v, .func (.func F) #[] caps] w fun e w' => RetB (∃ x ∈ rs.map Pd.m, q x = true) e ∧ Below w.heap.size w w' := by
 have C1 := dH (indexWriter_any v rs F caps q w hF hr hq)
 have R := dH (idxL_some q (rs.map Pd.m))
 have hg := idxL_ge q (rs.map Pd.m)
 have hl2 : (rs.map Pd.m).length ≤ 9223372036854775807 := by simpa using hr.1
 generalize (rs.map Pd.m).length = n at *
 generalize idxL q (rs.map Pd.m) = M at *
 clear hF hr hq
 go_enter Tryz.func148, Tryz.ntmps148
 go_wp2_with fail
 refine (dU C1).mono ?_
 rintro e w1 ⟨rfl, b1⟩
 clear C1
 go_wp2
 go_ret
 exact ⟨dU R, b1⟩
theorem every1Writer_any (x : Value) (cs : Array Value) (hx : x = .agg cs) (F b : Nat) (caps : Array Value) (q : Bool) (w : World) (hF : ∀ args w, (callFunc F args).run Tryz.prog w = .ok (.enter F args) w) (hc : w.cell? ⟨b, 0, none⟩ = some (.func (.func F) #[] caps)) (hn : cs.size = 2)
  (hq : ∀ W, Below w.heap.size w W → Calls Tryz.prog F (#[x] ++ caps) W fun e w' => e = .returned (.bool q) ∧ Below W.heap.size W w') :
  Calls Tryz.prog 149 (#[x] ++ #[.pointer (some ⟨b, 0, none⟩)]) w fun e w' => e = .returned (.bool (!q)) ∧ Below w.heap.size w w' := by
 have C1 := dH hq
 subst hx
 obtain ⟨l⟩ := cs
 obtain ⟨x0, x1, rfl⟩ := list2_of hn
 have B0 : Below w.heap.size w (w.alloc (.cells #[x0, x1] 70)) := (Below.refl _ _).alloc (Nat.le_refl _) _
 have k0 := (B0.cell (p := ⟨b, 0, none⟩) (dCell_lt hc)).trans hc
 clear hq hc hn
 show Calls Tryz.prog 149 #[.agg #[x0, x1], .pointer (some ⟨b, 0, none⟩)] w _
 go_enter Tryz.func149, Tryz.ntmps149
 go_wp2_with fail
 refine (dU C1 _ B0).mono ?_
 rintro e w1 ⟨rfl, b1⟩
 have B1 := bT B0 b1
 clear C1 k0 b1 B0
 cases q
 all_goals
  go_wp2
  go_ret
  exact ⟨rfl, B1⟩
theorem everyWriter_any (v : Value) (ms : List Wt) (Rd : Value → Wt → World → Prop) (F : Nat) (caps : Array Value) (Q : Wt → Prop) (w : World) (hF : ∀ args w, (callFunc F args).run Tryz.prog w = .ok (.enter F args) w) (hr : RdD 2 Rd v ms w)
  (hR : ∀ {v : Value} {m : Wt} {W W' : World}, Rd v m W → Below W.heap.size W W' → Rd v m W')
  (hq : ∀ W, Below w.heap.size w W → ∀ u, ∀ x ∈ ms, Rd u x W → Calls Tryz.prog F (#[u] ++ caps) W fun e w' => RetB (Q x) e ∧ Below W.heap.size W w') :
  Calls Tryz.prog 73 #[v, .func (.func F) #[] caps] w fun e w' => RetB (∀ x ∈ ms, Q x) e ∧ Below w.heap.size w w' := by
 obtain ⟨rs, rfl, hr, hn⟩ := hr
 have B0 : Below w.heap.size w (w.alloc (.cells #[.func (.func F) #[] caps] 109)) := (Below.refl _ _).alloc (Nat.le_refl _) _
 have K0 := Bx.new w [.func (.func F) #[] caps] 109 0 _ rfl
 have C1 := dH (containsWriter_any v rs 149 #[.pointer (some ⟨w.heap.size, 0, none⟩)] (fun x => !(bq (Q x))) _ (by intro args w; rfl) (hr.below B0) fun W hb k hk => every1Writer_any rs[k].val _ rfl F w.heap.size caps (bq (Q rs[k].m)) W hF ((hb.cell (p := ⟨w.heap.size, 0, none⟩) (dCell_lt K0)).trans K0) (by simpa using rs[k].l) fun W' hb' => (hq W' (bT (bT B0 hb) hb') rs[k].val rs[k].m (List.mem_map.2 ⟨_, List.getElem_mem hk, rfl⟩) (hR (hn _ (List.getElem_mem hk)) (bT (bT B0 hb) hb'))).mono fun e w' h => ⟨h.1.bq, h.2⟩)
 obtain ⟨-, a, cap, rfl, -, -⟩ := hr
 have FIN : Hid (∀ b : Bool, (b = true ↔ ∃ x ∈ rs.map Pd.m, (!(bq (Q x))) = true) → RetB (∀ x ∈ rs.map Pd.m, Q x) (.returned (.bool (!b)))) := fun b h => (all_not h).to fun x => bq_iff _
 clear hq hn K0
 go_enter Tryz.func73, Tryz.ntmps73
 go_wp2_with fail
 refine (dU C1).mono ?_
 rintro e w1 ⟨⟨b, rfl, h⟩, b1⟩
 have R := dH (dU FIN b h)
 have B1 := bT B0 b1
 clear C1 FIN h b1 B0
 cases b
 all_goals
  go_wp2
  go_ret
  exact ⟨dU R, B1⟩
set_option maxHeartbeats 2000000 in
theorem indexMend_any (v : Value) (rs : List (Pd 6 Mn)) (F : Nat) (caps : Array Value) (q : Mn → Bool) (w : World) (hF : ∀ args w, (callFunc F args).run Tryz.prog w = .ok (.enter F args) w) (hr : Rw 6 Pd.c w v rs)
  (hq : ∀ W, Below w.heap.size w W → ∀ k (hk : k < rs.length), Calls Tryz.prog F (#[rs[k].val] ++ caps) W fun e w' => e = .returned (.bool (q rs[k].m)) ∧ Below W.heap.size W w') :
  Calls Tryz.prog 235 #[v, .func (.func F) #[] caps] w fun e w' => e = .returned (.int .i64 (idxL q (rs.map Pd.m))) ∧ Below w.heap.size w w' := by
 have HV := dH fun W (hb : Below w.heap.size w W) => hr.below hb
 have HQ := dH hq
 have hl0 := hr.1
 obtain ⟨-, a, cap, rfl, -, -⟩ := hr
 have FN : Hid ((∀ i (h : i < rs.length), q rs[i].m = false) → idxL q (rs.map Pd.m) = -1) := fun h => idxL_none _ _ fun i hi => by rw [List.getElem_map]; exact h i (by simpa using hi)
 have FA : Hid (∀ k (hk : k < rs.length), (∀ i (h : i < rs.length), i < k → q rs[i].m = false) → q rs[k].m = true → idxL q (rs.map Pd.m) = (k : Int)) := fun k hk h1 h2 => idxL_at _ _ k (by simpa using hk) (fun i hi hik => by rw [List.getElem_map]; exact h1 i (by simpa using hi) hik) (by rw [List.getElem_map]; exact h2)
 generalize idxL q (rs.map Pd.m) = M at *
 clear hq
 go_enter Tryz.func235, Tryz.ntmps235
 go_wp2
 go_loopw [8] (fun x wr => ∃ k : Nat, x = .int .i64 (k : Int) ∧ k ≤ rs.length ∧ Hid (∀ i (h : i < rs.length), i < k → q rs[i].m = false) ∧ Below w.heap.size w wr) (fun x _ => rs.length - (intOf x).toNat)
 case atStart => exact ⟨0, rfl, Nat.zero_le _, fun i h h' => by omega, Below.refl _ _⟩
 case round =>
  obtain ⟨k, rfl, hk, hc, hb⟩ := hrel
  by_cases hlt : (k : Int) < (rs.length : Int)
  ·have hkl : k < rs.length := by omega
   obtain ⟨b, off, rfl, he⟩ := (dU HV _ hb).pd hkl
   have hck := he k hkl
   have CE := dH (dU HQ wr hb k hkl)
   have H2 : Hid (q rs[k].m = false → ∀ i (h : i < rs.length), i < k + 1 → q rs[i].m = false) := fun hcl i h hi => by
    by_cases e : i = k
    ·subst e; exact hcl
    ·exact dU hc i h (by omega)
   have H3 : Hid (q rs[k].m = true → M = (k : Int)) := fun hcl => dU FA k hkl (dU hc) hcl
   clear he hc
   generalize rs[k] = y at *
   obtain ⟨yc, yl, m⟩ := y
   obtain ⟨x0, x1, x2, x3, x4, x5, rfl⟩ := list6_of yl
   unfold Pd.val at CE
   simp only at *
   have c0 := hck 0 _ rfl
   have c1 := hck 1 _ rfl
   have c2 := hck 2 _ rfl
   have c3 := hck 3 _ rfl
   have c4 := hck 4 _ rfl
   have c5 := hck 5 _ rfl
   simp only [Nat.add_zero] at c0 c1 c2 c3 c4 c5
   clear hck
   cases hcl : q m with
   | false =>
    rw [hcl] at CE
    have H4 := dH (dU H2 hcl)
    clear H2 H3
    go_wp2_with fail
    refine (dU CE).mono ?_
    rintro e w1 ⟨rfl, b1⟩
    clear CE c0 c1 c2 c3 c4 c5
    go_wp2
    go_roundw
    case rel => exact ⟨k + 1, by go_num, by omega, dU H4, bT hb b1⟩
    case measure => simp [intOf]; omega
   | true =>
    rw [hcl] at CE
    have e1 := dU H3 hcl
    subst e1
    clear H2 H3 FA FN
    go_wp2_with fail
    refine (dU CE).mono ?_
    rintro e w1 ⟨rfl, b1⟩
    clear CE c0 c1 c2 c3 c4 c5
    go_wp2
    go_ret
    exact ⟨rfl, bT hb b1⟩
  ·have e1 := dU FN fun i h => dU hc i h (by omega)
   subst e1
   clear hc FA FN
   go_wp2
   go_ret
   exact ⟨rfl, hb⟩
theorem containsMend_any (v : Value) (rs : List (Pd 6 Mn)) (F : Nat) (caps : Array Value) (q : Mn → Bool) (w : World) (hF : ∀ args w, (callFunc F args).run Tryz.prog w = .ok (.enter F args) w) (hr : Rw 6 Pd.c w v rs)
  (hq : ∀ W, Below w.heap.size w W → ∀ k (hk : k < rs.length), Calls Tryz.prog F (#[rs[k].val] ++ caps) W fun e w' => e = .returned (.bool (q rs[k].m)) ∧ Below W.heap.size W w') :
  Calls Tryz.prog 151 #[v, .func (.func F) #[] caps] w fun e w' => RetB (∃ x ∈ rs.map Pd.m, q x = true) e ∧ Below w.heap.size w w' := by
 have C1 := dH (indexMend_any v rs F caps q w hF hr hq)
 have R := dH (idxL_some q (rs.map Pd.m))
 have hg := idxL_ge q (rs.map Pd.m)
 have hl2 : (rs.map Pd.m).length ≤ 9223372036854775807 := by simpa using hr.1
 generalize (rs.map Pd.m).length = n at *
 generalize idxL q (rs.map Pd.m) = M at *
 clear hF hr hq
 go_enter Tryz.func151, Tryz.ntmps151
 go_wp2_with fail
 refine (dU C1).mono ?_
 rintro e w1 ⟨rfl, b1⟩
 clear C1
 go_wp2
 go_ret
 exact ⟨dU R, b1⟩
theorem every1Mend_any (x : Value) (cs : Array Value) (hx : x = .agg cs) (F b : Nat) (caps : Array Value) (q : Bool) (w : World) (hF : ∀ args w, (callFunc F args).run Tryz.prog w = .ok (.enter F args) w) (hc : w.cell? ⟨b, 0, none⟩ = some (.func (.func F) #[] caps)) (hn : cs.size = 6)
  (hq : ∀ W, Below w.heap.size w W → Calls Tryz.prog F (#[x] ++ caps) W fun e w' => e = .returned (.bool q) ∧ Below W.heap.size W w') :
  Calls Tryz.prog 152 (#[x] ++ #[.pointer (some ⟨b, 0, none⟩)]) w fun e w' => e = .returned (.bool (!q)) ∧ Below w.heap.size w w' := by
 have C1 := dH hq
 subst hx
 obtain ⟨l⟩ := cs
 obtain ⟨x0, x1, x2, x3, x4, x5, rfl⟩ := list6_of hn
 have B0 : Below w.heap.size w (w.alloc (.cells #[x0, x1, x2, x3, x4, x5] 90)) := (Below.refl _ _).alloc (Nat.le_refl _) _
 have k0 := (B0.cell (p := ⟨b, 0, none⟩) (dCell_lt hc)).trans hc
 clear hq hc hn
 show Calls Tryz.prog 152 #[.agg #[x0, x1, x2, x3, x4, x5], .pointer (some ⟨b, 0, none⟩)] w _
 go_enter Tryz.func152, Tryz.ntmps152
 go_wp2_with fail
 refine (dU C1 _ B0).mono ?_
 rintro e w1 ⟨rfl, b1⟩
 have B1 := bT B0 b1
 clear C1 k0 b1 B0
 cases q
 all_goals
  go_wp2
  go_ret
  exact ⟨rfl, B1⟩
theorem everyMend_any (v : Value) (ms : List Mn) (Rd : Value → Mn → World → Prop) (F : Nat) (caps : Array Value) (Q : Mn → Prop) (w : World) (hF : ∀ args w, (callFunc F args).run Tryz.prog w = .ok (.enter F args) w) (hr : RdD 6 Rd v ms w)
  (hR : ∀ {v : Value} {m : Mn} {W W' : World}, Rd v m W → Below W.heap.size W W' → Rd v m W')
  (hq : ∀ W, Below w.heap.size w W → ∀ u, ∀ x ∈ ms, Rd u x W → Calls Tryz.prog F (#[u] ++ caps) W fun e w' => RetB (Q x) e ∧ Below W.heap.size W w') :
  Calls Tryz.prog 77 #[v, .func (.func F) #[] caps] w fun e w' => RetB (∀ x ∈ ms, Q x) e ∧ Below w.heap.size w w' := by
 obtain ⟨rs, rfl, hr, hn⟩ := hr
 have B0 : Below w.heap.size w (w.alloc (.cells #[.func (.func F) #[] caps] 114)) := (Below.refl _ _).alloc (Nat.le_refl _) _
 have K0 := Bx.new w [.func (.func F) #[] caps] 114 0 _ rfl
 have C1 := dH (containsMend_any v rs 152 #[.pointer (some ⟨w.heap.size, 0, none⟩)] (fun x => !(bq (Q x))) _ (by intro args w; rfl) (hr.below B0) fun W hb k hk => every1Mend_any rs[k].val _ rfl F w.heap.size caps (bq (Q rs[k].m)) W hF ((hb.cell (p := ⟨w.heap.size, 0, none⟩) (dCell_lt K0)).trans K0) (by simpa using rs[k].l) fun W' hb' => (hq W' (bT (bT B0 hb) hb') rs[k].val rs[k].m (List.mem_map.2 ⟨_, List.getElem_mem hk, rfl⟩) (hR (hn _ (List.getElem_mem hk)) (bT (bT B0 hb) hb'))).mono fun e w' h => ⟨h.1.bq, h.2⟩)
 obtain ⟨-, a, cap, rfl, -, -⟩ := hr
 have FIN : Hid (∀ b : Bool, (b = true ↔ ∃ x ∈ rs.map Pd.m, (!(bq (Q x))) = true) → RetB (∀ x ∈ rs.map Pd.m, Q x) (.returned (.bool (!b)))) := fun b h => (all_not h).to fun x => bq_iff _
 clear hq hn K0
 go_enter Tryz.func77, Tryz.ntmps77
 go_wp2_with fail
 refine (dU C1).mono ?_
 rintro e w1 ⟨⟨b, rfl, h⟩, b1⟩
 have R := dH (dU FIN b h)
 have B1 := bT B0 b1
 clear C1 FIN h b1 B0
 cases b
 all_goals
  go_wp2
  go_ret
  exact ⟨dU R, B1⟩
set_option maxHeartbeats 2000000 in
theorem indexReader_any (v : Value) (rs : List (Pd 3 Rr)) (F : Nat) (caps : Array Value) (q : Rr → Bool) (w : World) (hF : ∀ args w, (callFunc F args).run Tryz.prog w = .ok (.enter F args) w) (hr : Rw 3 Pd.c w v rs)
  (hq : ∀ W, Below w.heap.size w W → ∀ k (hk : k < rs.length), Calls Tryz.prog F (#[rs[k].val] ++ caps) W fun e w' => e = .returned (.bool (q rs[k].m)) ∧ Below W.heap.size W w') :
  Calls Tryz.prog 241 #[v, .func (.func F) #[] caps] w fun e w' => e = .returned (.int .i64 (idxL q (rs.map Pd.m))) ∧ Below w.heap.size w w' := by
 have HV := dH fun W (hb : Below w.heap.size w W) => hr.below hb
 have HQ := dH hq
 have hl0 := hr.1
 obtain ⟨-, a, cap, rfl, -, -⟩ := hr
 have FN : Hid ((∀ i (h : i < rs.length), q rs[i].m = false) → idxL q (rs.map Pd.m) = -1) := fun h => idxL_none _ _ fun i hi => by rw [List.getElem_map]; exact h i (by simpa using hi)
 have FA : Hid (∀ k (hk : k < rs.length), (∀ i (h : i < rs.length), i < k → q rs[i].m = false) → q rs[k].m = true → idxL q (rs.map Pd.m) = (k : Int)) := fun k hk h1 h2 => idxL_at _ _ k (by simpa using hk) (fun i hi hik => by rw [List.getElem_map]; exact h1 i (by simpa using hi) hik) (by rw [List.getElem_map]; exact h2)
 generalize idxL q (rs.map Pd.m) = M at *
 clear hq
 go_enter Tryz.func241, Tryz.ntmps241
 go_wp2
 go_loopw [8] (fun x wr => ∃ k : Nat, x = .int .i64 (k : Int) ∧ k ≤ rs.length ∧ Hid (∀ i (h : i < rs.length), i < k → q rs[i].m = false) ∧ Below w.heap.size w wr) (fun x _ => rs.length - (intOf x).toNat)
 case atStart => exact ⟨0, rfl, Nat.zero_le _, fun i h h' => by omega, Below.refl _ _⟩
 case round =>
  obtain ⟨k, rfl, hk, hc, hb⟩ := hrel
  by_cases hlt : (k : Int) < (rs.length : Int)
  ·have hkl : k < rs.length := by omega
   obtain ⟨b, off, rfl, he⟩ := (dU HV _ hb).pd hkl
   have hck := he k hkl
   have CE := dH (dU HQ wr hb k hkl)
   have H2 : Hid (q rs[k].m = false → ∀ i (h : i < rs.length), i < k + 1 → q rs[i].m = false) := fun hcl i h hi => by
    by_cases e : i = k
    ·subst e; exact hcl
    ·exact dU hc i h (by omega)
   have H3 : Hid (q rs[k].m = true → M = (k : Int)) := fun hcl => dU FA k hkl (dU hc) hcl
   clear he hc
   generalize rs[k] = y at *
   obtain ⟨yc, yl, m⟩ := y
   obtain ⟨x0, x1, x2, rfl⟩ := list3_of yl
   unfold Pd.val at CE
   simp only at *
   have c0 := hck 0 _ rfl
   have c1 := hck 1 _ rfl
   have c2 := hck 2 _ rfl
   simp only [Nat.add_zero] at c0 c1 c2
   clear hck
   cases hcl : q m with
   | false =>
    rw [hcl] at CE
    have H4 := dH (dU H2 hcl)
    clear H2 H3
    go_wp2_with fail
    refine (dU CE).mono ?_
    rintro e w1 ⟨rfl, b1⟩
    clear CE c0 c1 c2
    go_wp2
    go_roundw
    case rel => exact ⟨k + 1, by go_num, by omega, dU H4, bT hb b1⟩
    case measure => simp [intOf]; omega
   | true =>
    rw [hcl] at CE
    have e1 := dU H3 hcl
    subst e1
    clear H2 H3 FA FN
    go_wp2_with fail
    refine (dU CE).mono ?_
    rintro e w1 ⟨rfl, b1⟩
    clear CE c0 c1 c2
    go_wp2
    go_ret
    exact ⟨rfl, bT hb b1⟩
  ·have e1 := dU FN fun i h => dU hc i h (by omega)
   subst e1
   clear hc FA FN
   go_wp2
   go_ret
   exact ⟨rfl, hb⟩
theorem containsReader_any (v : Value) (rs : List (Pd 3 Rr)) (F : Nat) (caps : Array Value) (q : Rr → Bool) (w : World) (hF : ∀ args w, (callFunc F args).run Tryz.prog w = .ok (.enter F args) w) (hr : Rw 3 Pd.c w v rs)
  (hq : ∀ W, Below w.heap.size w W → ∀ k (hk : k < rs.length), Calls Tryz.prog F (#[rs[k].val] ++ caps) W fun e w' => e = .returned (.bool (q rs[k].m)) ∧ Below W.heap.size W w') :
  Calls Tryz.prog 157 #[v, .func (.func F) #[] caps] w fun e w' => RetB (∃ x ∈ rs.map Pd.m, q x = true) e ∧ Below w.heap.size w w' := by
 have C1 := dH (indexReader_any v rs F caps q w hF hr hq)
 have R := dH (idxL_some q (rs.map Pd.m))
 have hg := idxL_ge q (rs.map Pd.m)
 have hl2 : (rs.map Pd.m).length ≤ 9223372036854775807 := by simpa using hr.1
 generalize (rs.map Pd.m).length = n at *
 generalize idxL q (rs.map Pd.m) = M at *
 clear hF hr hq
 go_enter Tryz.func157, Tryz.ntmps157
 go_wp2_with fail
 refine (dU C1).mono ?_
 rintro e w1 ⟨rfl, b1⟩
 clear C1
 go_wp2
 go_ret
 exact ⟨dU R, b1⟩
theorem every1Reader_any (x : Value) (cs : Array Value) (hx : x = .agg cs) (F b : Nat) (caps : Array Value) (q : Bool) (w : World) (hF : ∀ args w, (callFunc F args).run Tryz.prog w = .ok (.enter F args) w) (hc : w.cell? ⟨b, 0, none⟩ = some (.func (.func F) #[] caps)) (hn : cs.size = 3)
  (hq : ∀ W, Below w.heap.size w W → Calls Tryz.prog F (#[x] ++ caps) W fun e w' => e = .returned (.bool q) ∧ Below W.heap.size W w') :
  Calls Tryz.prog 158 (#[x] ++ #[.pointer (some ⟨b, 0, none⟩)]) w fun e w' => e = .returned (.bool (!q)) ∧ Below w.heap.size w w' := by
 have C1 := dH hq
 subst hx
 obtain ⟨l⟩ := cs
 obtain ⟨x0, x1, x2, rfl⟩ := list3_of hn
 have B0 : Below w.heap.size w (w.alloc (.cells #[x0, x1, x2] 54)) := (Below.refl _ _).alloc (Nat.le_refl _) _
 have k0 := (B0.cell (p := ⟨b, 0, none⟩) (dCell_lt hc)).trans hc
 clear hq hc hn
 show Calls Tryz.prog 158 #[.agg #[x0, x1, x2], .pointer (some ⟨b, 0, none⟩)] w _
 go_enter Tryz.func158, Tryz.ntmps158
 go_wp2_with fail
 refine (dU C1 _ B0).mono ?_
 rintro e w1 ⟨rfl, b1⟩
 have B1 := bT B0 b1
 clear C1 k0 b1 B0
 cases q
 all_goals
  go_wp2
  go_ret
  exact ⟨rfl, B1⟩
theorem everyReader_any (v : Value) (ms : List Rr) (Rd : Value → Rr → World → Prop) (F : Nat) (caps : Array Value) (Q : Rr → Prop) (w : World) (hF : ∀ args w, (callFunc F args).run Tryz.prog w = .ok (.enter F args) w) (hr : RdD 3 Rd v ms w)
  (hR : ∀ {v : Value} {m : Rr} {W W' : World}, Rd v m W → Below W.heap.size W W' → Rd v m W')
  (hq : ∀ W, Below w.heap.size w W → ∀ u, ∀ x ∈ ms, Rd u x W → Calls Tryz.prog F (#[u] ++ caps) W fun e w' => RetB (Q x) e ∧ Below W.heap.size W w') :
  Calls Tryz.prog 82 #[v, .func (.func F) #[] caps] w fun e w' => RetB (∀ x ∈ ms, Q x) e ∧ Below w.heap.size w w' := by
 obtain ⟨rs, rfl, hr, hn⟩ := hr
 have B0 : Below w.heap.size w (w.alloc (.cells #[.func (.func F) #[] caps] 116)) := (Below.refl _ _).alloc (Nat.le_refl _) _
 have K0 := Bx.new w [.func (.func F) #[] caps] 116 0 _ rfl
 have C1 := dH (containsReader_any v rs 158 #[.pointer (some ⟨w.heap.size, 0, none⟩)] (fun x => !(bq (Q x))) _ (by intro args w; rfl) (hr.below B0) fun W hb k hk => every1Reader_any rs[k].val _ rfl F w.heap.size caps (bq (Q rs[k].m)) W hF ((hb.cell (p := ⟨w.heap.size, 0, none⟩) (dCell_lt K0)).trans K0) (by simpa using rs[k].l) fun W' hb' => (hq W' (bT (bT B0 hb) hb') rs[k].val rs[k].m (List.mem_map.2 ⟨_, List.getElem_mem hk, rfl⟩) (hR (hn _ (List.getElem_mem hk)) (bT (bT B0 hb) hb'))).mono fun e w' h => ⟨h.1.bq, h.2⟩)
 obtain ⟨-, a, cap, rfl, -, -⟩ := hr
 have FIN : Hid (∀ b : Bool, (b = true ↔ ∃ x ∈ rs.map Pd.m, (!(bq (Q x))) = true) → RetB (∀ x ∈ rs.map Pd.m, Q x) (.returned (.bool (!b)))) := fun b h => (all_not h).to fun x => bq_iff _
 clear hq hn K0
 go_enter Tryz.func82, Tryz.ntmps82
 go_wp2_with fail
 refine (dU C1).mono ?_
 rintro e w1 ⟨⟨b, rfl, h⟩, b1⟩
 have R := dH (dU FIN b h)
 have B1 := bT B0 b1
 clear C1 FIN h b1 B0
 cases b
 all_goals
  go_wp2
  go_ret
  exact ⟨dU R, B1⟩
set_option maxHeartbeats 2000000 in
theorem indexSent_any (v : Value) (rs : List (Pd 3 Se)) (F : Nat) (caps : Array Value) (q : Se → Bool) (w : World) (hF : ∀ args w, (callFunc F args).run Tryz.prog w = .ok (.enter F args) w) (hr : Rw 3 Pd.c w v rs)
  (hq : ∀ W, Below w.heap.size w W → ∀ k (hk : k < rs.length), Calls Tryz.prog F (#[rs[k].val] ++ caps) W fun e w' => e = .returned (.bool (q rs[k].m)) ∧ Below W.heap.size W w') :
  Calls Tryz.prog 242 #[v, .func (.func F) #[] caps] w fun e w' => e = .returned (.int .i64 (idxL q (rs.map Pd.m))) ∧ Below w.heap.size w w' := by
 have HV := dH fun W (hb : Below w.heap.size w W) => hr.below hb
 have HQ := dH hq
 have hl0 := hr.1
 obtain ⟨-, a, cap, rfl, -, -⟩ := hr
 have FN : Hid ((∀ i (h : i < rs.length), q rs[i].m = false) → idxL q (rs.map Pd.m) = -1) := fun h => idxL_none _ _ fun i hi => by rw [List.getElem_map]; exact h i (by simpa using hi)
 have FA : Hid (∀ k (hk : k < rs.length), (∀ i (h : i < rs.length), i < k → q rs[i].m = false) → q rs[k].m = true → idxL q (rs.map Pd.m) = (k : Int)) := fun k hk h1 h2 => idxL_at _ _ k (by simpa using hk) (fun i hi hik => by rw [List.getElem_map]; exact h1 i (by simpa using hi) hik) (by rw [List.getElem_map]; exact h2)
 generalize idxL q (rs.map Pd.m) = M at *
 clear hq
 go_enter Tryz.func242, Tryz.ntmps242
 go_wp2
 go_loopw [8] (fun x wr => ∃ k : Nat, x = .int .i64 (k : Int) ∧ k ≤ rs.length ∧ Hid (∀ i (h : i < rs.length), i < k → q rs[i].m = false) ∧ Below w.heap.size w wr) (fun x _ => rs.length - (intOf x).toNat)
 case atStart => exact ⟨0, rfl, Nat.zero_le _, fun i h h' => by omega, Below.refl _ _⟩
 case round =>
  obtain ⟨k, rfl, hk, hc, hb⟩ := hrel
  by_cases hlt : (k : Int) < (rs.length : Int)
  ·have hkl : k < rs.length := by omega
   obtain ⟨b, off, rfl, he⟩ := (dU HV _ hb).pd hkl
   have hck := he k hkl
   have CE := dH (dU HQ wr hb k hkl)
   have H2 : Hid (q rs[k].m = false → ∀ i (h : i < rs.length), i < k + 1 → q rs[i].m = false) := fun hcl i h hi => by
    by_cases e : i = k
    ·subst e; exact hcl
    ·exact dU hc i h (by omega)
   have H3 : Hid (q rs[k].m = true → M = (k : Int)) := fun hcl => dU FA k hkl (dU hc) hcl
   clear he hc
   generalize rs[k] = y at *
   obtain ⟨yc, yl, m⟩ := y
   obtain ⟨x0, x1, x2, rfl⟩ := list3_of yl
   unfold Pd.val at CE
   simp only at *
   have c0 := hck 0 _ rfl
   have c1 := hck 1 _ rfl
   have c2 := hck 2 _ rfl
   simp only [Nat.add_zero] at c0 c1 c2
   clear hck
   cases hcl : q m with
   | false =>
    rw [hcl] at CE
    have H4 := dH (dU H2 hcl)
    clear H2 H3
    go_wp2_with fail
    refine (dU CE).mono ?_
    rintro e w1 ⟨rfl, b1⟩
    clear CE c0 c1 c2
    go_wp2
    go_roundw
    case rel => exact ⟨k + 1, by go_num, by omega, dU H4, bT hb b1⟩
    case measure => simp [intOf]; omega
   | true =>
    rw [hcl] at CE
    have e1 := dU H3 hcl
    subst e1
    clear H2 H3 FA FN
    go_wp2_with fail
    refine (dU CE).mono ?_
    rintro e w1 ⟨rfl, b1⟩
    clear CE c0 c1 c2
    go_wp2
    go_ret
    exact ⟨rfl, bT hb b1⟩
  ·have e1 := dU FN fun i h => dU hc i h (by omega)
   subst e1
   clear hc FA FN
   go_wp2
   go_ret
   exact ⟨rfl, hb⟩
theorem containsSent_any (v : Value) (rs : List (Pd 3 Se)) (F : Nat) (caps : Array Value) (q : Se → Bool) (w : World) (hF : ∀ args w, (callFunc F args).run Tryz.prog w = .ok (.enter F args) w) (hr : Rw 3 Pd.c w v rs)
  (hq : ∀ W, Below w.heap.size w W → ∀ k (hk : k < rs.length), Calls Tryz.prog F (#[rs[k].val] ++ caps) W fun e w' => e = .returned (.bool (q rs[k].m)) ∧ Below W.heap.size W w') :
  Calls Tryz.prog 159 #[v, .func (.func F) #[] caps] w fun e w' => RetB (∃ x ∈ rs.map Pd.m, q x = true) e ∧ Below w.heap.size w w' := by
 have C1 := dH (indexSent_any v rs F caps q w hF hr hq)
 have R := dH (idxL_some q (rs.map Pd.m))
 have hg := idxL_ge q (rs.map Pd.m)
 have hl2 : (rs.map Pd.m).length ≤ 9223372036854775807 := by simpa using hr.1
 generalize (rs.map Pd.m).length = n at *
 generalize idxL q (rs.map Pd.m) = M at *
 clear hF hr hq
 go_enter Tryz.func159, Tryz.ntmps159
 go_wp2_with fail
 refine (dU C1).mono ?_
 rintro e w1 ⟨rfl, b1⟩
 clear C1
 go_wp2
 go_ret
 exact ⟨dU R, b1⟩
theorem every1Sent_any (x : Value) (cs : Array Value) (hx : x = .agg cs) (F b : Nat) (caps : Array Value) (q : Bool) (w : World) (hF : ∀ args w, (callFunc F args).run Tryz.prog w = .ok (.enter F args) w) (hc : w.cell? ⟨b, 0, none⟩ = some (.func (.func F) #[] caps)) (hn : cs.size = 3)
  (hq : ∀ W, Below w.heap.size w W → Calls Tryz.prog F (#[x] ++ caps) W fun e w' => e = .returned (.bool q) ∧ Below W.heap.size W w') :
  Calls Tryz.prog 160 (#[x] ++ #[.pointer (some ⟨b, 0, none⟩)]) w fun e w' => e = .returned (.bool (!q)) ∧ Below w.heap.size w w' := by
 have C1 := dH hq
 subst hx
 obtain ⟨l⟩ := cs
 obtain ⟨x0, x1, x2, rfl⟩ := list3_of hn
 have B0 : Below w.heap.size w (w.alloc (.cells #[x0, x1, x2] 97)) := (Below.refl _ _).alloc (Nat.le_refl _) _
 have k0 := (B0.cell (p := ⟨b, 0, none⟩) (dCell_lt hc)).trans hc
 clear hq hc hn
 show Calls Tryz.prog 160 #[.agg #[x0, x1, x2], .pointer (some ⟨b, 0, none⟩)] w _
 go_enter Tryz.func160, Tryz.ntmps160
 go_wp2_with fail
 refine (dU C1 _ B0).mono ?_
 rintro e w1 ⟨rfl, b1⟩
 have B1 := bT B0 b1
 clear C1 k0 b1 B0
 cases q
 all_goals
  go_wp2
  go_ret
  exact ⟨rfl, B1⟩
theorem everySent_any (v : Value) (ms : List Se) (Rd : Value → Se → World → Prop) (F : Nat) (caps : Array Value) (Q : Se → Prop) (w : World) (hF : ∀ args w, (callFunc F args).run Tryz.prog w = .ok (.enter F args) w) (hr : RdD 3 Rd v ms w)
  (hR : ∀ {v : Value} {m : Se} {W W' : World}, Rd v m W → Below W.heap.size W W' → Rd v m W')
  (hq : ∀ W, Below w.heap.size w W → ∀ u, ∀ x ∈ ms, Rd u x W → Calls Tryz.prog F (#[u] ++ caps) W fun e w' => RetB (Q x) e ∧ Below W.heap.size W w') :
  Calls Tryz.prog 85 #[v, .func (.func F) #[] caps] w fun e w' => RetB (∀ x ∈ ms, Q x) e ∧ Below w.heap.size w w' := by
 obtain ⟨rs, rfl, hr, hn⟩ := hr
 have B0 : Below w.heap.size w (w.alloc (.cells #[.func (.func F) #[] caps] 119)) := (Below.refl _ _).alloc (Nat.le_refl _) _
 have K0 := Bx.new w [.func (.func F) #[] caps] 119 0 _ rfl
 have C1 := dH (containsSent_any v rs 160 #[.pointer (some ⟨w.heap.size, 0, none⟩)] (fun x => !(bq (Q x))) _ (by intro args w; rfl) (hr.below B0) fun W hb k hk => every1Sent_any rs[k].val _ rfl F w.heap.size caps (bq (Q rs[k].m)) W hF ((hb.cell (p := ⟨w.heap.size, 0, none⟩) (dCell_lt K0)).trans K0) (by simpa using rs[k].l) fun W' hb' => (hq W' (bT (bT B0 hb) hb') rs[k].val rs[k].m (List.mem_map.2 ⟨_, List.getElem_mem hk, rfl⟩) (hR (hn _ (List.getElem_mem hk)) (bT (bT B0 hb) hb'))).mono fun e w' h => ⟨h.1.bq, h.2⟩)
 obtain ⟨-, a, cap, rfl, -, -⟩ := hr
 have FIN : Hid (∀ b : Bool, (b = true ↔ ∃ x ∈ rs.map Pd.m, (!(bq (Q x))) = true) → RetB (∀ x ∈ rs.map Pd.m, Q x) (.returned (.bool (!b)))) := fun b h => (all_not h).to fun x => bq_iff _
 clear hq hn K0
 go_enter Tryz.func85, Tryz.ntmps85
 go_wp2_with fail
 refine (dU C1).mono ?_
 rintro e w1 ⟨⟨b, rfl, h⟩, b1⟩
 have R := dH (dU FIN b h)
 have B1 := bT B0 b1
 clear C1 FIN h b1 B0
 cases b
 all_goals
  go_wp2
  go_ret
  exact ⟨dU R, B1⟩
end Go.Proofs.YtodfgehicpejgaaGreatDoor
