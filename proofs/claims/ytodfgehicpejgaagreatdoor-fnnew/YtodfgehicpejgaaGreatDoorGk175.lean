/- Several texts in one: RgG, RgE, ImGa, Q9O. -/
import Derived.Test.YtodfgehicpejgaaGreatDoorGk149
import Derived.Deep.RegionHeld3
import Derived.Lib.SliceRun
import Derived.Test.YtodfgehicpejgaaGreatDoorMnG
namespace Go.Proofs.YtodfgehicpejgaaGreatDoor
open Go.ChangeShapes Go.WideShapes Go.ChangeAt Go.RowKit
set_option linter.unusedSimpArgs false
set_option linter.unusedVariables false
set_option maxRecDepth 100000
def Full (w : World) (base : Nat) (v : Value) : Prop :=
 (∃ a, v = .slice a 0 0) ∨ ∃ g n cap cur, v = .slice (some ⟨g, 0, none⟩) n cap ∧ base ≤ g ∧ w.heap[g]? = some (.cells cur 137 (0, 0)) ∧ n ≤ cap ∧ cap ≤ maxLen ∧ cur.size = cap * 3
theorem Full.mono {w : World} {base base' : Nat} {v : Value} (h : Full w base v) (hb : base' ≤ base) : Full w base' v := by
 rcases h with h | ⟨g, n, cap, cur, rfl, h0, h⟩
 ·exact .inl h
 ·exact .inr ⟨g, n, cap, cur, rfl, by omega, h⟩
theorem Full.below {w w' : World} {base : Nat} {v : Value} (h : Full w base v) (hb : Below w.heap.size w w') : Full w' base v := by
 rcases h with h | ⟨g, n, cap, cur, rfl, h0, hg, h⟩
 ·exact .inl h
 ·exact .inr ⟨g, n, cap, cur, rfl, h0, (hb.block g (Array.getElem?_eq_some_iff.1 hg).1).trans hg, h⟩
theorem Full.drawn {bk : Nat} {w w' : World} {base : Nat} {v : Value} (h : Full w base v) (hd : Drawn bk w w') (hb : bk < base) : Full w' base v := by
 rcases h with h | ⟨g, n, cap, cur, rfl, h0, hg, h⟩
 ·exact .inl h
 ·exact .inr ⟨g, n, cap, cur, rfl, h0, (hd.block g (Array.getElem?_eq_some_iff.1 hg).1 (by omega)).trans hg, h⟩
theorem Full.set {w : World} {base : Nat} {v : Value} (h : Full w base v) (b o : Nat) (u : Value) : Full (w.setCell ⟨b, o, none⟩ u) base v := by
 rcases h with h | ⟨g, n, cap, cur, rfl, h0, hg, hn, hc, hs⟩
 ·exact .inl h
 ·by_cases e : b = g
  ·subst e
   refine .inr ⟨b, n, cap, cur.setIfInBounds o u, rfl, h0, ?_, hn, hc, by simpa using hs⟩
   simp only [World.setCell, Array.getElem?_modify, if_true, hg]
   rfl
  ·exact .inr ⟨g, n, cap, cur, rfl, h0, (Below.heap_setCell w ⟨b, o, none⟩ u g (fun e' => e e'.symm)).trans hg, hn, hc, hs⟩
theorem Full.drew {w : World} {base : Nat} {v : Value} (h : Full w base v) : Full w.drew base v := h.below (Below.refl _ _).drew
def FullR (w : World) (base : Nat) (v : Value) : Prop := ∃ sv t, v = .agg #[sv, t] ∧ Full w base sv
theorem FullR.below {w w' : World} {base : Nat} {v : Value} (h : FullR w base v) (hb : Below w.heap.size w w') : FullR w' base v := by
 obtain ⟨sv, t, h1, h2⟩ := h
 exact ⟨sv, t, h1, h2.below hb⟩
theorem OwK.put {lo hi : Nat} {a : Option Addr} {n cap : Nat} {ms : List Er} {w : World} (h : OwEraS lo hi (.slice a n cap) ms w) {k : Nat} (hk : k < ms.length) :
  ∃ b off, a = some ⟨b, off, none⟩ ∧ lo ≤ b ∧ b < hi ∧ (∃ q0 q1 q2, w.cell? ⟨b, off + k * 3, none⟩ = some q0 ∧ w.cell? ⟨b, off + k * 3 + 1, none⟩ = some q1 ∧ w.cell? ⟨b, off + k * 3 + 2, none⟩ = some q2) ∧ (∀ j, j < 3 → w.frozen? ⟨b, off + k * 3 + j, none⟩ = false) ∧
   (∀ x : Bool, OwEraS lo hi (.slice a n cap) (ms.set k ⟨ms[k].nodes, x, ms[k].last⟩) (w.setCell ⟨b, off + k * 3 + 1, none⟩ (.bool x))) ∧ (∀ x : Int, OwEraS lo hi (.slice a n cap) (ms.set k ⟨ms[k].nodes, ms[k].closed, x⟩) (w.setCell ⟨b, off + k * 3 + 2, none⟩ (.int .i64 x))) := by
 obtain ⟨rs, rfl, hO, hB, hN, hA⟩ := h
 have hkl : k < rs.length := by simpa using hk
 have hlen := hO.rw
 obtain ⟨hmx, a0, c0, e0, hcap, -⟩ := hlen
 cases e0
 obtain ⟨b, off, rfl, hb1, Z0⟩ := hO.rowG (by omega) zeroEr
 have hb2 : b < hi := by
  rcases hB with h | h
  ·subst h; simp at hkl
  ·exact h
 have e1 : rs.getD k zeroEr = rs[k] := getD_lt _ hkl
 have em : (rs.map Nst.m)[k] = rs[k].m := List.getElem_map ..
 have fin : ∀ (p : Nst Er) (W : World), p.a = rs[k].a → p.c = rs[k].c → p.m.nodes = rs[k].m.nodes → RowG 3 erCl W b off rs.length (putG (fun i => rs.getD i zeroEr) k p) → (∀ i (hi' : i < rs.length), OwN lo hi (Sv Er.nodes rs[i]) rs[i].m.nodes W) → OwEraS lo hi (.slice (some ⟨b, off, none⟩) rs.length cap) ((rs.map Nst.m).set k p.m) W := fun p W q1 q2 q3 hR hNW => by
  have eS : Sv Er.nodes p = Sv Er.nodes rs[k] := by unfold Sv; rw [q1, q2, q3]
  have fi : ∀ i (hi' : i < rs.length), Sv Er.nodes (putG (fun i => rs.getD i zeroEr) k p i) = Sv Er.nodes rs[i] ∧ (putG (fun i => rs.getD i zeroEr) k p i).m.nodes = rs[i].m.nodes := fun i hi' => by
   by_cases e : i = k
   ·subst e; rw [putG_same]; exact ⟨eS, q3⟩
   ·rw [putG_ne _ _ e, getD_lt _ hi']; exact ⟨rfl, rfl⟩
  have q := OwK.build (sub := Er.nodes) (lo := lo) (hi := hi) (cap := cap) hR hb1 (.inr hb2) hcap (fun i hi' => by rw [(fi i hi').1, (fi i hi').2]; exact hNW i hi') (fun i j hi' hj hij => by rw [(fi i hi').1, (fi i hi').2, (fi j hj).1, (fi j hj).2]; exact hA.1 i j hi' hj hij) (fun i hi' => by rw [(fi i hi').1, (fi i hi').2]; exact hA.2 i hi')
  rw [range_map_m (ms := (rs.map Nst.m).set k p.m) (by simp) (fun i hi' => by
   have hi2 : i < rs.length := by simpa using hi'
   rw [List.getElem_set]
   by_cases e : i = k
   ·subst e; rw [if_pos rfl, putG_same]
   ·rw [if_neg (Ne.symm e), putG_ne _ _ e, getD_lt _ hi2, List.getElem_map])] at q
  exact q
 have keep : ∀ (o : Nat) (u : Value) i (hi' : i < rs.length), OwN lo hi (Sv Er.nodes rs[i]) rs[i].m.nodes (w.setCell ⟨b, o, none⟩ u) := fun o u i hi' => (hN _ (List.getElem_mem hi')).putW (hA.2 i hi') u
 have c := fun j u hu => Z0 k hkl j u (by dsimp only; rw [e1]; exact hu)
 refine ⟨b, off, rfl, hb1, hb2, ⟨_, _, _, (c 0 _ rfl).1, (c 1 _ rfl).1, (c 2 _ rfl).1⟩, fun j hj => ?_, fun x => ?_, fun x => ?_⟩
 ·match j, hj with
  | 0, _ => exact (c 0 _ rfl).2
  | 1, _ => exact (c 1 _ rfl).2
  | 2, _ => exact (c 2 _ rfl).2
 ·have r := Z0.put erCl_len hkl 1 (by decide) (.bool x) ⟨rs[k].a, rs[k].c, rs[k].m.nodes, x, rs[k].m.last⟩ (by rw [e1]; rfl)
  rw [em]
  exact fin ⟨rs[k].a, rs[k].c, rs[k].m.nodes, x, rs[k].m.last⟩ _ rfl rfl rfl r (keep _ _)
 ·have r := Z0.put erCl_len hkl 2 (by decide) (.int .i64 x) ⟨rs[k].a, rs[k].c, rs[k].m.nodes, rs[k].m.closed, x⟩ (by rw [e1]; rfl)
  rw [em]
  exact fin ⟨rs[k].a, rs[k].c, rs[k].m.nodes, rs[k].m.closed, x⟩ _ rfl rfl rfl r (keep _ _)
def idxQ {α : Type} (q : α → Bool) : List α → Int
 | [] => -1
 | e :: l => if q e then 0 else (if idxQ q l = -1 then -1 else idxQ q l + 1)
theorem idxQ_ge {α : Type} (q : α → Bool) : ∀ l : List α, -1 ≤ idxQ q l ∧ idxQ q l < l.length
 | [] => by simp [idxQ]
 | e :: l => by
  have := idxQ_ge q l
  unfold idxQ
  split
  ·simp <;> omega
  ·split <;> simp <;> omega
theorem idxQ_none {α : Type} (q : α → Bool) : ∀ l : List α, (∀ i (h : i < l.length), q l[i] = false) → idxQ q l = -1
 | [], _ => rfl
 | e :: l, h => by
  have h0 : q e = false := h 0 (by simp)
  have h1 := idxQ_none q l fun i hi => h (i + 1) (by simpa using hi)
  unfold idxQ
  rw [h0, h1]
  rfl
theorem idxQ_at {α : Type} (q : α → Bool) : ∀ (l : List α) (k : Nat) (hk : k < l.length), (∀ i (h : i < l.length), i < k → q l[i] = false) → q l[k] = true → idxQ q l = (k : Int)
 | [], k, hk, _, _ => by simp at hk
 | e :: l, 0, hk, _, ho => by
  have h0 : q e = true := ho
  unfold idxQ
  rw [h0]
  rfl
 | e :: l, k + 1, hk, h, ho => by
  have h0 : q e = false := h 0 (by simp) (by omega)
  have h1 := idxQ_at q l k (by simpa using hk) (fun i hi hik => h (i + 1) (by simpa using hi) (by omega)) (by simpa using ho)
  unfold idxQ
  rw [h0, h1, if_neg (by simp), if_neg (by omega)]
  omega
theorem idxQ_neg {α : Type} {q : α → Bool} {l : List α} : idxQ q l = -1 ↔ ∀ e ∈ l, q e = false := by
 induction l with
 | nil => simp [idxQ]
 | cons e l ih =>
  have hg := idxQ_ge q l
  unfold idxQ
  cases hq : q e with
  | true => simp [hq]
  | false =>
   rw [if_neg (by simp)]
   by_cases h : idxQ q l = -1
   ·rw [if_pos h]
    simp only [List.mem_cons, true_iff]
    rintro x (rfl | hx)
    ·exact hq
    ·exact ih.1 h x hx
   ·rw [if_neg h]
    constructor
    ·intro h'; omega
    ·intro h'
     exact absurd (ih.2 fun x hx => h' x (List.mem_cons_of_mem _ hx)) h
set_option maxHeartbeats 2000000 in
theorem indexFunc_any (v : Value) (rs : List (Nst Er)) (F : Nat) (caps : Array Value) (q : Er → Bool) (w : World) (hF : ∀ args w, (callFunc F args).run Tryz.prog w = .ok (.enter F args) w) (hr : Rw 3 erCl w v rs)
  (hq : ∀ W, Below w.heap.size w W → ∀ k (hk : k < rs.length), Calls Tryz.prog F (#[.agg #[.slice rs[k].a rs[k].m.nodes.length rs[k].c, .bool rs[k].m.closed, .int .i64 rs[k].m.last]] ++ caps) W fun e w' => e = .returned (.bool (q rs[k].m)) ∧ Below W.heap.size W w') :
  Calls Tryz.prog 153 #[v, .func (.func F) #[] caps] w fun e w' => e = .returned (.int .i64 (idxQ q (rs.map Nst.m))) ∧ Below w.heap.size w w' := by
 have HV := dH fun W (hb : Below w.heap.size w W) => hr.below hb
 have HQ := dH hq
 have hl0 := hr.1
 obtain ⟨-, a, cap, rfl, -, -⟩ := hr
 have FN : Hid ((∀ i (h : i < rs.length), q rs[i].m = false) → idxQ q (rs.map Nst.m) = -1) := fun h => idxQ_none _ _ fun i hi => by rw [List.getElem_map]; exact h i (by simpa using hi)
 have FA : Hid (∀ k (hk : k < rs.length), (∀ i (h : i < rs.length), i < k → q rs[i].m = false) → q rs[k].m = true → idxQ q (rs.map Nst.m) = (k : Int)) := fun k hk h1 h2 => idxQ_at _ _ k (by simpa using hk) (fun i hi hik => by rw [List.getElem_map]; exact h1 i (by simpa using hi) hik) (by rw [List.getElem_map]; exact h2)
 generalize idxQ q (rs.map Nst.m) = M at *
 clear hq
 go_enter Tryz.func153, Tryz.ntmps153
 go_wp2
 go_loopw [8] (fun x wr => ∃ k : Nat, x = .int .i64 (k : Int) ∧ k ≤ rs.length ∧ Hid (∀ i (h : i < rs.length), i < k → q rs[i].m = false) ∧ Below w.heap.size w wr) (fun x _ => rs.length - (intOf x).toNat)
 case atStart => exact ⟨0, rfl, Nat.zero_le _, fun i h h' => by omega, Below.refl _ _⟩
 case round =>
  obtain ⟨k, rfl, hk, hc, hb⟩ := hrel
  by_cases hlt : (k : Int) < (rs.length : Int)
  ·have hkl : k < rs.length := by omega
   obtain ⟨b, off, rfl, he⟩ := (dU HV _ hb).era hkl
   obtain ⟨c0, c1, c2⟩ := he k hkl
   have CE := dH (dU HQ wr hb k hkl)
   cases hcl : q rs[k].m with
   | false =>
    rw [hcl] at CE
    have H2 : Hid (∀ i (h : i < rs.length), i < k + 1 → q rs[i].m = false) := fun i h hi => by
     by_cases e : i = k
     ·subst e; exact hcl
     ·exact dU hc i h (by omega)
    generalize rs[k] = y at *
    obtain ⟨ya, yc, yn, yb, yl⟩ := y
    simp only at *
    clear hc he
    go_wp2_with fail
    refine (dU CE).mono ?_
    rintro e w1 ⟨rfl, b1⟩
    clear CE c0 c1 c2
    go_wp2
    go_roundw
    case rel => exact ⟨k + 1, by go_num, by omega, H2, bT hb b1⟩
    case measure => simp [intOf]; omega
   | true =>
    rw [hcl] at CE
    have e1 := dU FA k hkl (dU hc) hcl
    subst e1
    generalize rs[k] = y at *
    obtain ⟨ya, yc, yn, yb, yl⟩ := y
    simp only at *
    clear hc he FN FA
    go_wp2_with fail
    refine (dU CE).mono ?_
    rintro e w1 ⟨rfl, b1⟩
    clear CE c0 c1 c2
    go_wp2
    go_ret
    exact ⟨rfl, bT hb b1⟩
  ·have e1 := dU FN fun i h => dU hc i h (by omega)
   subst e1
   clear hc FN FA
   go_wp2
   go_ret
   exact ⟨rfl, hb⟩
theorem firstOpenFn (p : Nst Er) (w : World) : Calls Tryz.prog 154 #[.agg #[.slice p.a p.m.nodes.length p.c, .bool p.m.closed, .int .i64 p.m.last]] w fun e w' => e = .returned (.bool (!p.m.closed)) ∧ Below w.heap.size w w' := by
 obtain ⟨pa, pc, yn, yb, yl⟩ := p
 simp only at *
 go_enter Tryz.func154, Tryz.ntmps154
 go_wp2
 go_ret
 exact ⟨rfl, (Below.refl _ _).alloc (Nat.le_refl _) _⟩
theorem idxQ_first (ms : List Er) : idxQ (fun e => !e.closed) ms + 1 = (firstO ms : Int) := by
 induction ms with
 | nil => rfl
 | cons e l ih =>
  have hg := idxQ_ge (fun e : Er => !e.closed) l
  unfold idxQ firstO
  cases hc : e.closed with
  | false => rfl
  | true =>
   simp only [Bool.not_true, if_true]
   rw [if_neg (by decide)]
   by_cases h0 : firstO l = 0
   ·rw [if_pos h0, if_pos (by omega)]; rfl
   ·rw [if_neg h0, if_neg (by omega)]; omega
set_option maxHeartbeats 1000000 in
theorem implFirst_any (v : Value) (m : Rg) (w : World) (hv : RdRegister v m w) (hs : m.eras.length ≤ 1048576) :
  Calls Tryz.prog 80 #[v] w fun e w' => e = .returned (.int .i64 (firstO m.eras : Int)) ∧ Below w.heap.size w w' := by
 obtain ⟨sv, rfl, rs, hm, hr, -⟩ := hv
 have ba : ∀ o, Below w.heap.size w (w.alloc o) := fun o => (Below.refl _ _).alloc (Nat.le_refl _) o
 have C1 := dH fun W (hb : Below w.heap.size w W) => indexFunc_any sv rs 154 #[] (fun e => !e.closed) W Tryz.call154 (hr.below hb) (fun W' _ k hk => firstOpenFn rs[k] W')
 rw [hm] at C1
 have e1 := idxQ_first m.eras
 have h1 := idxQ_ge (fun e : Er => !e.closed) m.eras
 obtain ⟨-, a, cap, rfl, -, -⟩ := hr
 have e2 : Hid ((firstO m.eras : Int) = 1 + idxQ (fun e => !e.closed) m.eras) := by rw [Hid]; omega
 rw [dU e2]
 generalize idxQ (fun e : Er => !e.closed) m.eras = M at *
 generalize m.trim = tr at *
 clear e1 e2 hm
 go_enter Tryz.func80, Tryz.ntmps80
 go_wp2_with fail
 refine (dU C1 _ (ba _)).mono ?_
 rintro e w1 ⟨rfl, b1⟩
 have B1 := bT (ba _) b1
 clear b1 ba C1
 go_wp2
 go_ret
 exact ⟨rfl, B1⟩
theorem lastEpoch_any (v : Value) (m : Rg) (w : World) (hv : RdRegister v m w) :
  Calls Tryz.prog 79 #[v] w fun e w' => e = .returned (.int .i64 (m.eras.length : Int)) ∧ Below w.heap.size w w' := by
 obtain ⟨a, cap, rfl, -⟩ := formRegister hv
 clear hv
 go_enter Tryz.func79, Tryz.ntmps79
 go_wp2
 go_ret
 exact ⟨rfl, (Below.refl _ _).alloc (Nat.le_refl _) _⟩
set_option maxHeartbeats 1000000 in
theorem hasEpoch_any (v : Value) (m : Rg) (x : Int) (w : World) (hv : RdRegister v m w) (ok : okInt x) (hs : m.eras.length ≤ 1048576) :
  Calls Tryz.prog 75 #[v, .int .i64 x] w fun e w' => RetB (1 ≤ x ∧ x ≤ (m.eras.length : Int)) e ∧ Below w.heap.size w w' := by
 have ba : ∀ o, Below w.heap.size w (w.alloc o) := fun o => (Below.refl _ _).alloc (Nat.le_refl _) o
 have C1 := dH fun W (hb : Below w.heap.size w W) => lastEpoch_any v m W (hv.below hb)
 obtain ⟨a, cap, rfl, -⟩ := formRegister hv
 obtain ⟨o1, o2⟩ := ok
 generalize m.trim = tr at *
 clear hv
 by_cases h1 : x ≥ 1
 ·go_enter Tryz.func75, Tryz.ntmps75
  go_wp2_with fail
  refine (dU C1 _ (ba _)).mono ?_
  rintro e w1 ⟨rfl, b1⟩
  have B1 := bT (ba _) b1
  clear b1 ba C1
  have R : RetB (1 ≤ x ∧ x ≤ (m.eras.length : Int)) (.returned (.bool (decide (x ≤ (m.eras.length : Int))))) := ⟨_, rfl, by rw [decide_eq_true_iff]; exact ⟨fun h => ⟨h1, h⟩, fun h => h.2⟩⟩
  go_wp2
  go_ret
  exact ⟨R, B1⟩
 ·have R : RetB (1 ≤ x ∧ x ≤ (m.eras.length : Int)) (.returned (.bool false)) := RetB.no fun h => h1 h.1
  go_enter Tryz.func75, Tryz.ntmps75
  go_wp2
  go_ret
  exact ⟨R, ba _⟩
set_option maxHeartbeats 1000000 in
theorem cloneN_any (v : Value) (xs : List Int) (w : World) (hv : Ns w v xs) (hl : xs.length ≤ 1048576) :
  Calls Tryz.prog 16 #[v] w fun e w' => (∃ u, e = .returned u ∧ OwnN w' w.heap.size u xs) ∧ Below w.heap.size w w' := by
 have HV := dH fun W (hb : Below w.heap.size w W) => hv.below hb
 have hv' := hv
 obtain ⟨-, a, cap, rfl, hcap, hc⟩ := hv'
 cases a with
 | none =>
  have e0 : xs = [] := by
   rcases hc with h | ⟨b, off, h, -⟩
   ·exact h
   ·cases h
  subst e0
  have hnil : ∀ w, (binOp .eql 24 (.slice none 0 cap) (.slice none 0 0)).run Tryz.prog w = .ok (.bool true) w := fun w => Go.Lib.run_eql_slice_nil w 24 3 none _ _ 0 0 Tryz.underlying24
  have O : OwnN w w.heap.size (.slice none 0 0) [] := ⟨by simp, _, _, rfl, by simp, .inl rfl⟩
  clear hv HV hc
  simp only [List.length_nil]
  go_enter Tryz.func16, Tryz.ntmps16
  go_wp2
  go_ret
  exact ⟨⟨_, rfl, O⟩, Below.refl _ _⟩
 | some ad =>
  have B1 := (Below.refl w.heap.size w).alloc (Nat.le_refl _) (.cells #[] 3)
  have hN := dU HV _ B1
  have hnil : ∀ w, (binOp .eql 24 (.slice (some ad) xs.length cap) (.slice none 0 0)).run Tryz.prog w = .ok (.bool false) w := fun w => Go.Lib.run_eql_slice_nil w 24 3 (some ad) _ _ 0 0 Tryz.underlying24
  clear hv HV hc
  go_enter Tryz.func16, Tryz.ntmps16
  go_wp2_with (at_builtin; refine wp_cpN rfl _ _ rfl _ rfl _ xs rfl hN (by omega) ?_; intro u w2 O2 b2)
  go_ret
  exact ⟨⟨_, rfl, O2.mono B1.size⟩, bT B1 b2⟩
theorem mn_at (ds : List Int) (cop : Int) (m : Mn) : mnP ds cop m ↔ atP ds cop m (if m.planned then 1 else 0) := by
 have hw : (∀ i (h : i < m.wrote.length), nodesP ds cop m.wrote[i]) ↔ ∀ l ∈ m.wrote, nodesP ds cop l := ⟨fun h l hl => by obtain ⟨i, hi, rfl⟩ := List.getElem_of_mem hl; exact h i hi, fun h i hi => h _ (List.getElem_mem hi)⟩
 unfold mnP mnH wroteP atP
 rw [hw]
 cases hp : m.planned with
 | true =>
  simp only [if_pos]
  constructor
  ·rintro ⟨⟨h1, h2, h3, h4, h5⟩, h6, h7, h8⟩
   exact ⟨by omega, by simp, by simpa using h8, ⟨h2, h3⟩, ⟨h4, h7⟩, h6, h5⟩
  ·rintro ⟨-, -, h8, ⟨h2, h3⟩, ⟨h4, h7⟩, h6, h5⟩
   exact ⟨⟨h4.1, h2, h3, h4, h5⟩, h6, h7, by simpa using h8⟩
 | false =>
  constructor
  ·rintro ⟨⟨h1, h2, h3, h4, h5⟩, h6, h7, h8⟩
   exact ⟨by intro h; simp at h, by intro h; simp at h, by simpa using h8, ⟨h2, h3⟩, ⟨h4, h7⟩, h6, h5⟩
  ·rintro ⟨-, -, h8, ⟨h2, h3⟩, ⟨h4, h7⟩, h6, h5⟩
   exact ⟨⟨h4.1, h2, h3, h4, h5⟩, h6, h7, by simpa using h8⟩
set_option maxHeartbeats 4000000 in
theorem implMendOk_any (cv v : Value) (c : List Int × Int) (m : Mn) (w : World) (hc : RdConfig cv c w) (hv : RdMend v m w) (okc : okConfig c) (ok : okMend m) (hsc : sizConfig c ≤ 1048576) (hs : sizMend m ≤ 1048576) :
  Calls Tryz.prog 81 #[cv, v] w fun e w' => RetB (mnP c.1 c.2 m) e ∧ Below w.heap.size w w' := by
 have ba : ∀ (w : World) o, Below w.heap.size w (w.alloc o) := fun w o => (Below.refl _ _).alloc (Nat.le_refl _) o
 have CS := dH fun W (hb : Below w.heap.size w W) => implStep_any v m W (hv.below hb)
 have CA : Hid (∀ W, Below w.heap.size w W → Calls Tryz.prog 155 #[v, cv, .int .i64 (if m.planned then 1 else 0)] W fun e w' => RetB (mnP c.1 c.2 m) e ∧ Below W.heap.size W w') := fun W hb => by
  rw [mn_at]
  cases hp : m.planned with
  | true => exact implAt1_any cv v c m W (hc.below hb) (hv.below hb) okc ok hsc (smlM_of hs)
  | false => exact implAt0_any cv v c m W (hc.below hb) (hv.below hb) okc ok hsc (smlM_of hs)
 obtain ⟨ds, cop⟩ := c
 obtain ⟨ca, cc, rfl, -⟩ := formConfig hc
 obtain ⟨sa, sc, ea, ec, wa, wc, rfl, hl1, hl2, hl3⟩ := formMend hv
 simp only at *
 generalize mnP ds cop m = P at *
 generalize (if m.planned = true then (1 : Int) else 0) = sp at *
 generalize m.bye = f0 at *
 generalize m.epoch = f1 at *
 generalize m.planned = f4 at *
 generalize m.sealed.length = l2 at *
 generalize m.seen.length = l3 at *
 generalize m.wrote.length = l5 at *
 clear hc hv okc ok hs
 have bA := bT (ba w (.cells #[.slice ca ds.length cc, .int .i64 cop] 26)) (ba _ (.cells #[.int .i64 f0, .int .i64 f1, .slice sa l2 sc, .slice ea l3 ec, .bool f4, .slice wa l5 wc] 90))
 have X0 := (Bx.new w [.slice ca ds.length cc, .int .i64 cop] 26).below (ba _ (.cells #[.int .i64 f0, .int .i64 f1, .slice sa l2 sc, .slice ea l3 ec, .bool f4, .slice wa l5 wc] 90))
 have Y0 := Bx.new (w.alloc (.cells #[.slice ca ds.length cc, .int .i64 cop] 26)) [.int .i64 f0, .int .i64 f1, .slice sa l2 sc, .slice ea l3 ec, .bool f4, .slice wa l5 wc] 90
 have e1 : (w.alloc (.cells #[.slice ca ds.length cc, .int .i64 cop] 26)).heap.size = w.heap.size + 1 := by simp
 rw [e1] at Y0
 clear e1
 go_enter Tryz.func81, Tryz.ntmps81
 go_wp2_with fail
 generalize (w.alloc (.cells #[.slice ca ds.length cc, .int .i64 cop] 26)).alloc (.cells #[.int .i64 f0, .int .i64 f1, .slice sa l2 sc, .slice ea l3 ec, .bool f4, .slice wa l5 wc] 90) = w0 at *
 have PP : Hid (∀ W, Below w0.heap.size w0 W → (W.cell? ⟨w.heap.size, 0, none⟩ = some (.slice ca ds.length cc) ∧ W.cell? ⟨w.heap.size, 1, none⟩ = some (.int .i64 cop)) ∧ W.cell? ⟨w.heap.size + 1, 0, none⟩ = some (.int .i64 f0) ∧ W.cell? ⟨w.heap.size + 1, 1, none⟩ = some (.int .i64 f1) ∧ W.cell? ⟨w.heap.size + 1, 2, none⟩ = some (.slice sa l2 sc) ∧ W.cell? ⟨w.heap.size + 1, 3, none⟩ = some (.slice ea l3 ec) ∧ W.cell? ⟨w.heap.size + 1, 4, none⟩ = some (.bool f4) ∧ W.cell? ⟨w.heap.size + 1, 5, none⟩ = some (.slice wa l5 wc)) := fun W hW => ⟨⟨X0.below hW 0 _ rfl, X0.below hW 1 _ rfl⟩, Y0.below hW 0 _ rfl, Y0.below hW 1 _ rfl, Y0.below hW 2 _ rfl, Y0.below hW 3 _ rfl, Y0.below hW 4 _ rfl, Y0.below hW 5 _ rfl⟩
 have bd : Below w0.heap.size w0 w0.drew := (Below.refl _ _).drew
 clear X0 Y0
 go_region_held3 (fun W => (W.cell? ⟨w.heap.size, 0, none⟩ = some (.slice ca ds.length cc) ∧ W.cell? ⟨w.heap.size, 1, none⟩ = some (.int .i64 cop)) ∧ W.cell? ⟨w.heap.size + 1, 0, none⟩ = some (.int .i64 f0) ∧ W.cell? ⟨w.heap.size + 1, 1, none⟩ = some (.int .i64 f1) ∧ W.cell? ⟨w.heap.size + 1, 2, none⟩ = some (.slice sa l2 sc) ∧ W.cell? ⟨w.heap.size + 1, 3, none⟩ = some (.slice ea l3 ec) ∧ W.cell? ⟨w.heap.size + 1, 4, none⟩ = some (.bool f4) ∧ W.cell? ⟨w.heap.size + 1, 5, none⟩ = some (.slice wa l5 wc)) (first | exact dU PP _ hb6 | exact dU PP _ hb5 | exact dU PP _ (Below.refl _ _) | exact dU PP _ bd | go_keep)
  (first
   | (go_at_call 156; refine (dU CS _ (bT bA bd)).mono ?_; rintro e w5 ⟨rfl, b5⟩; have hb5 := bT bd b5)
   | (go_at_call 155; refine (dU CA _ (bT bA hb5)).mono ?_; rintro e w6 ⟨⟨b6, rfl, h6⟩, bl6⟩; have hb6 := bT hb5 bl6))
 all_goals
  have R : Hid (RetB P (.returned (.bool b6))) := ⟨_, rfl, h6⟩
  clear h6 CS CA
  go_wp2
  go_ret
  exact ⟨dU R, bT bA hb6⟩
end Go.Proofs.YtodfgehicpejgaaGreatDoor
