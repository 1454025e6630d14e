/- impl's: slices.IndexFunc, slices.ContainsFunc over eras; FirstOpen; slices.Clone of ints; lastEpoch, hasEpoch, EraNodes. -/
import Derived.Test.YtjkjmapibcfcdaaGreatGz16
import Derived.Test.YtjkjmapibcfcdaaGreatGz14
import Derived.Lib.SliceRun
namespace Go.Proofs.YtjkjmapibcfcdaaGreat
open Go.ChangeShapes Go.WideShapes Go.ChangeAt Go.RowKit
set_option linter.unusedVariables false
set_option linter.unusedSimpArgs false
set_option maxRecDepth 100000

def idxQ {α : Type} (q : α → Bool) : List α → Int
 | [] => -1
 | e :: l => if q e then 0 else (if idxQ q l = -1 then -1 else idxQ q l + 1)
theorem idxQ_ge {α : Type} (q : α → Bool) : ∀ l : List α, -1 ≤ idxQ q l ∧ idxQ q l < l.length
 | [] => by simp [idxQ]
 | e :: l => by
  have := idxQ_ge q l
  unfold idxQ
  split
  ·simp <;> omega
  ·split <;> simp <;> omega
theorem idxQ_none {α : Type} (q : α → Bool) : ∀ l : List α, (∀ i (h : i < l.length), q l[i] = false) → idxQ q l = -1
 | [], _ => rfl
 | e :: l, h => by
  have h0 : q e = false := h 0 (by simp)
  have h1 := idxQ_none q l fun i hi => h (i + 1) (by simpa using hi)
  unfold idxQ
  rw [h0, h1]
  rfl
theorem idxQ_at {α : Type} (q : α → Bool) : ∀ (l : List α) (k : Nat) (hk : k < l.length), (∀ i (h : i < l.length), i < k → q l[i] = false) → q l[k] = true → idxQ q l = (k : Int)
 | [], k, hk, _, _ => by simp at hk
 | e :: l, 0, hk, _, ho => by
  have h0 : q e = true := ho
  unfold idxQ
  rw [h0]
  rfl
 | e :: l, k + 1, hk, h, ho => by
  have h0 : q e = false := h 0 (by simp) (by omega)
  have h1 := idxQ_at q l k (by simpa using hk) (fun i hi hik => h (i + 1) (by simpa using hi) (by omega)) (by simpa using ho)
  unfold idxQ
  rw [h0, h1, if_neg (by simp), if_neg (by omega)]
  omega
theorem idxQ_neg {α : Type} {q : α → Bool} {l : List α} : idxQ q l = -1 ↔ ∀ e ∈ l, q e = false := by
 induction l with
 | nil => simp [idxQ]
 | cons e l ih =>
  have hg := idxQ_ge q l
  unfold idxQ
  cases hq : q e with
  | true => simp [hq]
  | false =>
   rw [if_neg (by simp)]
   by_cases h : idxQ q l = -1
   ·rw [if_pos h]
    simp only [List.mem_cons, true_iff]
    rintro x (rfl | hx)
    ·exact hq
    ·exact ih.1 h x hx
   ·rw [if_neg h]
    constructor
    ·intro h'; omega
    ·intro h'
     exact absurd (ih.2 fun x hx => h' x (List.mem_cons_of_mem _ hx)) h
set_option maxHeartbeats 2000000 in
theorem indexFunc_any (v : Value) (rs : List (Nst Er)) (F : Nat) (caps : Array Value) (q : Er → Bool) (w : World) (hF : ∀ args w, (callFunc F args).run Tryz.prog w = .ok (.enter F args) w) (hr : Rw 3 erCl w v rs)
  (hq : ∀ W, Below w.heap.size w W → ∀ k (hk : k < rs.length), Calls Tryz.prog F (#[.agg #[.slice rs[k].a rs[k].m.nodes.length rs[k].c, .bool rs[k].m.closed, .int .i64 rs[k].m.last]] ++ caps) W fun e w' => e = .returned (.bool (q rs[k].m)) ∧ Below W.heap.size W w') :
  Calls Tryz.prog 133 #[v, .func (.func F) #[] caps] w fun e w' => e = .returned (.int .i64 (idxQ q (rs.map Nst.m))) ∧ Below w.heap.size w w' := by
 have HV := dH fun W (hb : Below w.heap.size w W) => hr.below hb
 have HQ := dH hq
 have hl0 := hr.1
 obtain ⟨-, a, cap, rfl, -, -⟩ := hr
 have FN : Hid ((∀ i (h : i < rs.length), q rs[i].m = false) → idxQ q (rs.map Nst.m) = -1) := fun h => idxQ_none _ _ fun i hi => by rw [List.getElem_map]; exact h i (by simpa using hi)
 have FA : Hid (∀ k (hk : k < rs.length), (∀ i (h : i < rs.length), i < k → q rs[i].m = false) → q rs[k].m = true → idxQ q (rs.map Nst.m) = (k : Int)) := fun k hk h1 h2 => idxQ_at _ _ k (by simpa using hk) (fun i hi hik => by rw [List.getElem_map]; exact h1 i (by simpa using hi) hik) (by rw [List.getElem_map]; exact h2)
 generalize idxQ q (rs.map Nst.m) = M at *
 clear hq
 go_enter Tryz.func133, Tryz.ntmps133
 go_wp2
 go_loopw [8] (fun x wr => ∃ k : Nat, x = .int .i64 (k : Int) ∧ k ≤ rs.length ∧ Hid (∀ i (h : i < rs.length), i < k → q rs[i].m = false) ∧ Below w.heap.size w wr) (fun x _ => rs.length - (intOf x).toNat)
 case atStart => exact ⟨0, rfl, Nat.zero_le _, fun i h h' => by omega, Below.refl _ _⟩
 case round =>
  obtain ⟨k, rfl, hk, hc, hb⟩ := hrel
  by_cases hlt : (k : Int) < (rs.length : Int)
  ·have hkl : k < rs.length := by omega
   obtain ⟨b, off, rfl, he⟩ := (dU HV _ hb).era hkl
   obtain ⟨c0, c1, c2⟩ := he k hkl
   have CE := dH (dU HQ wr hb k hkl)
   cases hcl : q rs[k].m with
   | false =>
    rw [hcl] at CE
    have H2 : Hid (∀ i (h : i < rs.length), i < k + 1 → q rs[i].m = false) := fun i h hi => by
     by_cases e : i = k
     ·subst e; exact hcl
     ·exact dU hc i h (by omega)
    generalize rs[k] = y at *
    obtain ⟨ya, yc, yn, yb, yl⟩ := y
    simp only at *
    clear hc he
    go_wp2_with fail
    refine (dU CE).mono ?_
    rintro e w1 ⟨rfl, b1⟩
    clear CE c0 c1 c2
    go_wp2
    go_roundw
    case rel => exact ⟨k + 1, by go_num, by omega, H2, bT hb b1⟩
    case measure => simp [intOf]; omega
   | true =>
    rw [hcl] at CE
    have e1 := dU FA k hkl (dU hc) hcl
    subst e1
    generalize rs[k] = y at *
    obtain ⟨ya, yc, yn, yb, yl⟩ := y
    simp only at *
    clear hc he FN FA
    go_wp2_with fail
    refine (dU CE).mono ?_
    rintro e w1 ⟨rfl, b1⟩
    clear CE c0 c1 c2
    go_wp2
    go_ret
    exact ⟨rfl, bT hb b1⟩
  ·have e1 := dU FN fun i h => dU hc i h (by omega)
   subst e1
   clear hc FN FA
   go_wp2
   go_ret
   exact ⟨rfl, hb⟩
theorem firstOpenFn (p : Nst Er) (w : World) : Calls Tryz.prog 158 #[.agg #[.slice p.a p.m.nodes.length p.c, .bool p.m.closed, .int .i64 p.m.last]] w fun e w' => e = .returned (.bool (!p.m.closed)) ∧ Below w.heap.size w w' := by
 obtain ⟨pa, pc, yn, yb, yl⟩ := p
 simp only at *
 go_enter Tryz.func158, Tryz.ntmps158
 go_wp2
 go_ret
 exact ⟨rfl, (Below.refl _ _).alloc (Nat.le_refl _) _⟩
theorem idxQ_first (ms : List Er) : idxQ (fun e => !e.closed) ms + 1 = (firstO ms : Int) := by
 induction ms with
 | nil => rfl
 | cons e l ih =>
  have hg := idxQ_ge (fun e : Er => !e.closed) l
  unfold idxQ firstO
  cases hc : e.closed with
  | false => rfl
  | true =>
   simp only [Bool.not_true, if_true]
   rw [if_neg (by decide)]
   by_cases h0 : firstO l = 0
   ·rw [if_pos h0, if_pos (by omega)]; rfl
   ·rw [if_neg h0, if_neg (by omega)]; omega
set_option maxHeartbeats 1000000 in
theorem implFirst_any (v : Value) (m : Rg) (w : World) (hv : RdRegister v m w) (hs : m.eras.length ≤ 1048576) :
  Calls Tryz.prog 131 #[v] w fun e w' => e = .returned (.int .i64 (firstO m.eras : Int)) ∧ Below w.heap.size w w' := by
 obtain ⟨sv, rfl, rs, hm, hr, -⟩ := hv
 have ba : ∀ o, Below w.heap.size w (w.alloc o) := fun o => (Below.refl _ _).alloc (Nat.le_refl _) o
 have C1 := dH fun W (hb : Below w.heap.size w W) => indexFunc_any sv rs 158 #[] (fun e => !e.closed) W Tryz.call158 (hr.below hb) (fun W' _ k hk => firstOpenFn rs[k] W')
 rw [hm] at C1
 have e1 := idxQ_first m.eras
 have h1 := idxQ_ge (fun e : Er => !e.closed) m.eras
 obtain ⟨-, a, cap, rfl, -, -⟩ := hr
 have e2 : Hid ((firstO m.eras : Int) = 1 + idxQ (fun e => !e.closed) m.eras) := by rw [Hid]; omega
 rw [dU e2]
 generalize idxQ (fun e : Er => !e.closed) m.eras = M at *
 generalize m.trim = tr at *
 clear e1 e2 hm
 go_enter Tryz.func131, Tryz.ntmps131
 go_wp2_with fail
 refine (dU C1 _ (ba _)).mono ?_
 rintro e w1 ⟨rfl, b1⟩
 have B1 := bT (ba _) b1
 clear b1 ba C1
 go_wp2
 go_ret
 exact ⟨rfl, B1⟩
theorem lastEpoch_any (v : Value) (m : Rg) (w : World) (hv : RdRegister v m w) :
  Calls Tryz.prog 109 #[v] w fun e w' => e = .returned (.int .i64 (m.eras.length : Int)) ∧ Below w.heap.size w w' := by
 obtain ⟨a, cap, rfl, -⟩ := formRegister hv
 clear hv
 go_enter Tryz.func109, Tryz.ntmps109
 go_wp2
 go_ret
 exact ⟨rfl, (Below.refl _ _).alloc (Nat.le_refl _) _⟩
set_option maxHeartbeats 1000000 in
theorem hasEpoch_any (v : Value) (m : Rg) (x : Int) (w : World) (hv : RdRegister v m w) (ok : okInt x) (hs : m.eras.length ≤ 1048576) :
  Calls Tryz.prog 58 #[v, .int .i64 x] w fun e w' => RetB (1 ≤ x ∧ x ≤ (m.eras.length : Int)) e ∧ Below w.heap.size w w' := by
 have ba : ∀ o, Below w.heap.size w (w.alloc o) := fun o => (Below.refl _ _).alloc (Nat.le_refl _) o
 have C1 := dH fun W (hb : Below w.heap.size w W) => lastEpoch_any v m W (hv.below hb)
 obtain ⟨a, cap, rfl, -⟩ := formRegister hv
 obtain ⟨o1, o2⟩ := ok
 generalize m.trim = tr at *
 clear hv
 by_cases h1 : x ≥ 1
 ·go_enter Tryz.func58, Tryz.ntmps58
  go_wp2_with fail
  refine (dU C1 _ (ba _)).mono ?_
  rintro e w1 ⟨rfl, b1⟩
  have B1 := bT (ba _) b1
  clear b1 ba C1
  have R : RetB (1 ≤ x ∧ x ≤ (m.eras.length : Int)) (.returned (.bool (decide (x ≤ (m.eras.length : Int))))) := ⟨_, rfl, by rw [decide_eq_true_iff]; exact ⟨fun h => ⟨h1, h⟩, fun h => h.2⟩⟩
  go_wp2
  go_ret
  exact ⟨R, B1⟩
 ·have R : RetB (1 ≤ x ∧ x ≤ (m.eras.length : Int)) (.returned (.bool false)) := RetB.no fun h => h1 h.1
  go_enter Tryz.func58, Tryz.ntmps58
  go_wp2
  go_ret
  exact ⟨R, ba _⟩
set_option maxHeartbeats 1000000 in
theorem cloneN_any (v : Value) (xs : List Int) (w : World) (hv : Ns w v xs) (hl : xs.length ≤ 1048576) :
  Calls Tryz.prog 59 #[v] w fun e w' => (∃ u, e = .returned u ∧ OwnN w' w.heap.size u xs) ∧ Below w.heap.size w w' := by
 have HV := dH fun W (hb : Below w.heap.size w W) => hv.below hb
 have hv' := hv
 obtain ⟨-, a, cap, rfl, hcap, hc⟩ := hv'
 cases a with
 | none =>
  have e0 : xs = [] := by
   rcases hc with h | ⟨b, off, h, -⟩
   ·exact h
   ·cases h
  subst e0
  have hnil : ∀ w, (binOp .eql 24 (.slice none 0 cap) (.slice none 0 0)).run Tryz.prog w = .ok (.bool true) w := fun w => Go.Lib.run_eql_slice_nil w 24 3 none _ _ 0 0 Tryz.underlying24
  have O : OwnN w w.heap.size (.slice none 0 0) [] := ⟨by simp, _, _, rfl, by simp, .inl rfl⟩
  clear hv HV hc
  simp only [List.length_nil]
  go_enter Tryz.func59, Tryz.ntmps59
  go_wp2
  go_ret
  exact ⟨⟨_, rfl, O⟩, Below.refl _ _⟩
 | some ad =>
  have B1 := (Below.refl w.heap.size w).alloc (Nat.le_refl _) (.cells #[] 3)
  have hN := dU HV _ B1
  have hnil : ∀ w, (binOp .eql 24 (.slice (some ad) xs.length cap) (.slice none 0 0)).run Tryz.prog w = .ok (.bool false) w := fun w => Go.Lib.run_eql_slice_nil w 24 3 (some ad) _ _ 0 0 Tryz.underlying24
  clear hv HV hc
  go_enter Tryz.func59, Tryz.ntmps59
  go_wp2_with (at_builtin; refine wp_cpN rfl _ _ rfl _ rfl _ xs rfl hN (by omega) ?_; intro u w2 O2 b2)
  go_ret
  exact ⟨⟨_, rfl, O2.mono B1.size⟩, bT B1 b2⟩
set_option maxHeartbeats 2000000 in
theorem implEraNodes_any (v : Value) (m : Rg) (x : Int) (w : World) (hv : RdRegister v m w) (hs : sizRegister m ≤ 1048576) (ok : okInt x) :
  Calls Tryz.prog 18 #[v, .int .i64 x] w fun e w' => (∃ u, e = .returned u ∧ OwnN w' w.heap.size u (eraN m x)) ∧ Below w.heap.size w w' := by
 have ba : ∀ o, Below w.heap.size w (w.alloc o) := fun o => (Below.refl _ _).alloc (Nat.le_refl _) o
 have hle : m.eras.length ≤ 1048576 := by unfold sizRegister sizEraS at hs; omega
 have C1 := dH fun W (hb : Below w.heap.size w W) => hasEpoch_any v m x W (hv.below hb) ok hle
 obtain ⟨sv, rfl, hv⟩ := hv
 obtain ⟨rs, hm, hr, hn⟩ := hv
 have hl0 : rs.length ≤ 1048576 := by rw [← hm, List.length_map] at hle; exact hle
 have em : m.eras.length = rs.length := by rw [← hm, List.length_map]
 by_cases hx : 1 ≤ x ∧ x ≤ (m.eras.length : Int)
 ·replace C1 := dH fun W hb => retB_yes (dU C1 W hb) hx
  obtain ⟨k, rfl⟩ : ∃ k : Nat, x = (k : Int) + 1 := ⟨(x - 1).toNat, by omega⟩
  have hk : k < rs.length := by omega
  have ee : eraN m ((k : Int) + 1) = rs[k].m.nodes := by
   rw [eraN_at (by omega)]
   have : m.eras[k]'(by omega) = rs[k].m := by simp only [← hm, List.getElem_map]
   rw [this]
  have hlen : rs[k].m.nodes.length ≤ 1048576 := by
   have h1 := sumN_mem (ms := m.eras) (k := k) (by omega)
   have e2 : m.eras[k]'(by omega) = rs[k].m := by simp only [← hm, List.getElem_map]
   rw [e2] at h1
   unfold sizRegister sizEraS at hs
   omega
  obtain ⟨yn, hyn⟩ : ∃ yn, yn = rs[k].m.nodes := ⟨_, rfl⟩
  rw [ee, ← hyn]
  rw [← hyn] at hlen
  have HR := dH fun W (hb : Below w.heap.size w W) => hr.below hb
  have HN := dH fun W (hb : Below w.heap.size w W) => (hn rs[k] (List.getElem_mem hk)).below hb
  obtain ⟨-, a, cap, rfl, -, -⟩ := hr
  generalize m.trim = tr at *
  have X0 := Bx.new w [.slice a rs.length cap, .int .i64 tr] 42
  clear hs ok hm em hx ee hle
  go_enter Tryz.func18, Tryz.ntmps18
  go_wp2_with fail
  refine (dU C1 _ (ba _)).mono ?_
  rintro e w1 ⟨rfl, b1⟩
  have k0 := X0.below b1 0 _ rfl
  have B1 := bT (ba _) b1
  obtain ⟨b, off, rfl, he⟩ := (dU HR _ B1).era hk
  obtain ⟨c0, c1, c2⟩ := he k hk
  have hN := dU HN _ B1
  unfold Sv at hN
  rw [← hyn] at hN c0
  have ek : (k : Int) + 1 - 1 = (k : Int) := by omega
  have C2 := dH (cloneN_any _ yn w1 hN hlen)
  clear he C1 HR HN c1 c2 hyn b1 ba X0 hN
  go_wp2_with fail
  refine (dU C2).mono ?_
  rintro e w2 ⟨⟨u, rfl, O2⟩, b2⟩
  have B2 := bT B1 b2
  go_wp2
  go_ret
  exact ⟨⟨_, rfl, O2.mono B1.size⟩, B2⟩
 ·replace C1 := dH fun W hb => retB_no (dU C1 W hb) hx
  rw [eraN_no hx]
  obtain ⟨-, a, cap, rfl, -, -⟩ := hr
  generalize m.trim = tr at *
  clear hs ok hm em hn hx hle
  go_enter Tryz.func18, Tryz.ntmps18
  go_wp2_with fail
  refine (dU C1 _ (ba _)).mono ?_
  rintro e w1 ⟨rfl, b1⟩
  have B1 := bT (ba _) b1
  clear C1 b1 ba
  go_wp2
  go_ret
  exact ⟨⟨_, rfl, ⟨by simp, _, _, rfl, by simp, .inl rfl⟩⟩, B1⟩
end Go.Proofs.YtjkjmapibcfcdaaGreat
