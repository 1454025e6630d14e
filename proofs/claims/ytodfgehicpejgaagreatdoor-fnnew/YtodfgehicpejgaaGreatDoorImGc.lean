/- impl's: slices.Clone of eras; copied. -/
import Derived.Test.YtodfgehicpejgaaGreatDoorGk175
import Derived.Test.YtodfgehicpejgaaGreatDoorImGb
import Derived.Lib.SliceRun
import Derived.Deep.RegionHeld3
import Derived.Deep.DeepCutAuto
namespace Go.Proofs.YtodfgehicpejgaaGreatDoor
open Go.ChangeShapes Go.WideShapes Go.ChangeAt Go.RowKit
set_option linter.unusedVariables false
set_option linter.unusedSimpArgs false
set_option maxRecDepth 100000

theorem fcells_set {α : Type} {cl : α → List Value} {sz : Nat} (hcl : ∀ a, (cl a).length = sz) : ∀ (ms : List α) (k : Nat) (h : k < ms.length) (j : Nat) (hj : j < sz) (u : Value) (p : α), cl p = (cl ms[k]).set j u → (fcells cl ms).set (k * sz + j) u = fcells cl (ms.set k p)
 | [], k, h, _, _, _, _, _ => by simp at h
 | a :: l, 0, h, j, hj, u, p, hp => by
  have e : ∀ (x : α) (y : List α), fcells cl (x :: y) = cl x ++ fcells cl y := fun _ _ => rfl
  simp only [List.getElem_cons_zero] at hp
  rw [Nat.zero_mul, Nat.zero_add, List.set_cons_zero, e, e, List.set_append_left _ _ (by rw [hcl]; exact hj), hp]
 | a :: l, k + 1, h, j, hj, u, p, hp => by
  have e : ∀ (x : α) (y : List α), fcells cl (x :: y) = cl x ++ fcells cl y := fun _ _ => rfl
  have ih := fcells_set hcl l k (by simpa using h) j hj u p (by simpa using hp)
  rw [List.set_cons_succ, e, e, List.set_append_right _ _ (by rw [hcl, Nat.add_mul]; omega), hcl]
  have e2 : (k + 1) * sz + j - sz = k * sz + j := by rw [Nat.add_mul]; omega
  rw [e2, ih]
theorem ApR.store {w : World} {base g n cap k j : Nat} {rs : List (Nst Er)} (h : ApR 137 3 erCl w base (.slice (some ⟨g, 0, none⟩) n cap) rs) (hk : k < rs.length) (hj : j < 3) (u : Value) (p : Nst Er) (hp : erCl p = (erCl rs[k]).set j u) : ApR 137 3 erCl (w.setCell ⟨g, k * 3 + j, none⟩ u) base (.slice (some ⟨g, 0, none⟩) n cap) (rs.set k p) := by
 rcases h with ⟨rfl, -⟩ | h
 ·simp at hk
 ·have hn : n = rs.length := by
   obtain ⟨a, c, e⟩ := rowR_slice h
   simp only [Value.slice.injEq] at e
   exact e.2.1
  subst hn
  have s := (h.stored (k * 3 + j) u).1
  rw [fcells_set erCl_len rs k hk j hj u p hp] at s
  refine .inr ?_
  rw [List.length_set]
  exact s
theorem cloneR_any (v : Value) (rs : List (Nst Er)) (w : World) (hv : Rw 3 erCl w v rs) (hl : rs.length ≤ 1048576) :
  Calls Tryz.prog 96 #[v] w fun e w' => (∃ u, e = .returned u ∧ ApR 137 3 erCl w' w.heap.size u rs) ∧ Below w.heap.size w w' := by
 have HV := dH fun W (hb : Below w.heap.size w W) => hv.below hb
 have hv' := hv
 obtain ⟨-, a, cap, rfl, hcap, hc⟩ := hv'
 cases a with
 | none =>
  have e0 : rs = [] := by
   rcases hc with h | ⟨b, off, h, -⟩
   ·exact h
   ·cases h
  subst e0
  have hnil : ∀ w, (binOp .eql 29 (.slice none 0 cap) (.slice none 0 0)).run Tryz.prog w = .ok (.bool true) w := fun w => Go.Lib.run_eql_slice_nil w 29 137 none _ _ 0 0 Tryz.underlying29
  have O : ApR 137 3 erCl w w.heap.size (.slice none 0 0) ([] : List (Nst Er)) := .inl ⟨rfl, none, rfl⟩
  clear hv HV hc
  simp only [List.length_nil]
  go_enter Tryz.func96, Tryz.ntmps96
  go_wp2
  go_ret
  exact ⟨⟨_, rfl, O⟩, Below.refl _ _⟩
 | some ad =>
  have B1 := (Below.refl w.heap.size w).alloc (Nat.le_refl _) (.cells #[] 137)
  have hN := dU HV _ B1
  have hnil : ∀ w, (binOp .eql 29 (.slice (some ad) rs.length cap) (.slice none 0 0)).run Tryz.prog w = .ok (.bool false) w := fun w => Go.Lib.run_eql_slice_nil w 29 137 (some ad) _ _ 0 0 Tryz.underlying29
  clear hv HV hc
  go_enter Tryz.func96, Tryz.ntmps96
  go_wp2_with (at_builtin; refine wp_cpR elemR rfl _ _ rfl _ rfl _ rs rfl hN (by omega) ?_; intro u w2 O2 b2)
  go_ret
  exact ⟨⟨_, rfl, O2.mono B1.size⟩, bT B1 b2⟩
def CpI (wr : World) (base : Nat) (u : Value) (rs : List (Nst Er)) (k : Nat) (ss : List (Nst Er)) : Prop :=
 ss.length = rs.length ∧ ApR 137 3 erCl wr base u ss ∧ (∀ i (h : i < rs.length) (h' : i < ss.length), ss[i].m = rs[i].m) ∧ (∀ i (h : i < rs.length) (h' : i < ss.length), k ≤ i → ss[i] = rs[i]) ∧
  (∀ i (h' : i < ss.length), i < k → OwnN wr base (Sv Er.nodes ss[i]) ss[i].m.nodes) ∧ (∀ i j (hi : i < ss.length) (hj : j < ss.length), i < k → j < k → i ≠ j → ss[i].m.nodes = [] ∨ ss[j].m.nodes = [] ∨ bO (Sv Er.nodes ss[i]) ≠ bO (Sv Er.nodes ss[j])) ∧
  ∀ i (hi : i < ss.length), i < k → ss[i].m.nodes = [] ∨ touch u ≠ some (bO (Sv Er.nodes ss[i]))
theorem CpI.step {wr w2 : World} {base g n cap k : Nat} {rs ss : List (Nst Er)} (h : CpI wr base (.slice (some ⟨g, 0, none⟩) n cap) rs k ss) (hk : k < rs.length) (hb2 : Below wr.heap.size wr w2) (hbw : base ≤ wr.heap.size) (hgw : g < wr.heap.size) {qa : Option Addr} {qc : Nat} (ho : OwnN w2 wr.heap.size (.slice qa rs[k].m.nodes.length qc) rs[k].m.nodes) :
  CpI (w2.setCell ⟨g, k * 3, none⟩ (.slice qa rs[k].m.nodes.length qc)) base (.slice (some ⟨g, 0, none⟩) n cap) rs (k + 1) (ss.set k ⟨qa, qc, rs[k].m⟩) := by
 obtain ⟨h1, h2, h3, h4, h5, h6, h7⟩ := h
 have hks : k < ss.length := by omega
 have ek := h4 k hk hks (Nat.le_refl _)
 have at_ : ∀ i (hi : i < (ss.set k ⟨qa, qc, rs[k].m⟩).length) (hi' : i < ss.length), i ≠ k → (ss.set k ⟨qa, qc, rs[k].m⟩)[i] = ss[i] := fun i hi hi' hne => List.getElem_set_ne (Ne.symm hne) _
 have atk : ∀ (hi : k < (ss.set k ⟨qa, qc, rs[k].m⟩).length), (ss.set k ⟨qa, qc, rs[k].m⟩)[k] = ⟨qa, qc, rs[k].m⟩ := fun hi => List.getElem_set_self _
 have old : ∀ i (hi : i < ss.length), i < k → ss[i].m.nodes = [] ∨ bO (Sv Er.nodes ss[i]) < wr.heap.size := fun i hi hik => (h5 i hi hik).bs.lt
 have eS : bO (Sv Er.nodes (⟨qa, qc, rs[k].m⟩ : Nst Er)) = bO (.slice qa rs[k].m.nodes.length qc) := rfl
 refine ⟨by rw [List.length_set]; exact h1, ?_, fun i hi hi' => ?_, fun i hi hi' hki => ?_, fun i hi hik => ?_, fun i j hi hj hik hjk hij => ?_, fun i hi hik => ?_⟩
 ·exact ApR.store (j := 0) (h2.below hb2) hks (by decide) _ ⟨qa, qc, rs[k].m⟩ (by rw [ek]; rfl)
 ·rw [List.length_set] at hi'
  by_cases e : i = k
  ·subst e; rw [atk]
  ·rw [at_ i (by rw [List.length_set]; exact hi') hi' e]; exact h3 i hi hi'
 ·rw [List.length_set] at hi'
  rw [at_ i (by rw [List.length_set]; exact hi') hi' (by omega)]
  exact h4 i hi hi' (by omega)
 ·rw [List.length_set] at hi
  by_cases e : i = k
  ·subst e
   rw [atk]
   refine ((ho.mono hbw).grown (grown_set w2 g (i * 3) _) ?_)
   rcases ho.ge with h | h
   ·exact .inl h
   ·exact .inr fun e => by have := Option.some.inj e; omega
  ·rw [at_ i (by rw [List.length_set]; exact hi) hi e]
   refine ((h5 i hi (by omega)).below hb2).grown (grown_set w2 g (k * 3) _) ?_
   rcases h7 i hi (by omega) with h | h
   ·exact .inl h
   ·right
    intro e'
    apply h
    have hg : cap ≠ 0 := by
     intro e0
     obtain ⟨-, a9, c9, e9, q9, -⟩ := (ApR.own elemR h2).rw
     simp only [Value.slice.injEq] at e9
     have q7 := e9.2.1
     have q8 := e9.2.2
     omega
    simp only [touch, hg, if_false]
    exact e'
 ·have hi2 : i < ss.length := by rw [List.length_set] at hi; exact hi
  have hj2 : j < ss.length := by rw [List.length_set] at hj; exact hj
  by_cases e : i = k
  ·subst e
   have e2 : j ≠ i := Ne.symm hij
   simp only [atk, at_ j hj hj2 e2, eS]
   rcases old j hj2 (by omega) with h | h
   ·exact .inr (.inl h)
   ·rcases ho.ge with h' | h'
    ·exact .inl h'
    ·exact .inr (.inr (by omega))
  ·by_cases e2 : j = k
   ·subst e2
    simp only [atk, at_ i hi hi2 e, eS]
    rcases old i hi2 (by omega) with h | h
    ·exact .inl h
    ·rcases ho.ge with h' | h'
     ·exact .inr (.inl h')
     ·exact .inr (.inr (by omega))
   ·simp only [at_ i hi hi2 e, at_ j hj hj2 e2]
    exact h6 i j hi2 hj2 (by omega) (by omega) hij
 ·rw [List.length_set] at hi
  by_cases e : i = k
  ·subst e
   simp only [atk, eS]
   rcases ho.ge with h' | h'
   ·exact .inl h'
   ·right
    intro e'
    have := (h2.touched elemR e').2
    omega
  ·simp only [at_ i (by rw [List.length_set]; exact hi) hi e]
   exact h7 i hi (by omega)
theorem CpI.done {wr : World} {base : Nat} {u : Value} {rs ss : List (Nst Er)} (h : CpI wr base u rs rs.length ss) : NAp wr base u (rs.map Nst.m) := by
 obtain ⟨h1, h2, h3, h4, h5, h6, h7⟩ := h
 refine ⟨ss, ?_, h2, fun p hp => ?_, fun i j hi hj hij => h6 i j hi hj (by omega) (by omega) hij, fun i hi => h7 i hi (by omega)⟩
 ·apply List.ext_getElem
  ·simp [h1]
  ·intro i a b
   simp only [List.getElem_map]
   exact h3 i (by simpa using b) (by simpa using a)
 ·obtain ⟨i, hi, rfl⟩ := List.mem_iff_getElem.1 hp
  exact h5 i hi (by omega)
theorem CpI.start {wr : World} {base : Nat} {u : Value} {rs : List (Nst Er)} (h : ApR 137 3 erCl wr base u rs) : CpI wr base u rs 0 rs := ⟨rfl, h, fun _ _ _ => rfl, fun _ _ _ _ => rfl, fun i _ h => by omega, fun i j _ _ h => by omega, fun i _ h => by omega⟩
theorem CpI.below {wr w' : World} {base k : Nat} {u : Value} {rs ss : List (Nst Er)} (h : CpI wr base u rs k ss) (hb : Below wr.heap.size wr w') : CpI w' base u rs k ss := by
 obtain ⟨h1, h2, h3, h4, h5, h6, h7⟩ := h
 exact ⟨h1, h2.below hb, h3, h4, fun i hi hik => (h5 i hi hik).below hb, h6, h7⟩
set_option maxHeartbeats 8000000 in
theorem copiedRg_any (v : Value) (m : Rg) (w : World) (hv : RdRegister v m w) (hs : sizRegister m ≤ 1048576) :
  Calls Tryz.prog 40 #[v] w fun e w' => (∃ u, e = .returned (.agg #[u, .int .i64 m.trim]) ∧ NAp w' w.heap.size u m.eras) ∧ Below w.heap.size w w' := by
 obtain ⟨sv, rfl, rs, hm, hr, hn⟩ := hv
 have hle : rs.length ≤ 1048576 := by unfold sizRegister sizEraS at hs; rw [← hm, List.length_map] at hs; omega
 have HL : Hid (∀ k (hk : k < rs.length), rs[k].m.nodes.length ≤ 1048576) := fun k hk => by
  have h1 := sumN_mem (ms := rs.map Nst.m) (k := k) (by simpa using hk)
  rw [List.getElem_map] at h1
  unfold sizRegister sizEraS at hs
  rw [← hm] at hs
  omega
 have HN := dH fun W (hb : Below w.heap.size w W) k (hk : k < rs.length) => (hn _ (List.getElem_mem hk)).below hb
 have CC := dH fun W (hb : Below w.heap.size w W) => cloneR_any sv rs W (hr.below hb) hle
 obtain ⟨-, a, cap, rfl, -, -⟩ := hr
 generalize m.trim = tr at *
 rw [← hm]
 have ba : ∀ (w : World) o, Below w.heap.size w (w.alloc o) := fun w o => (Below.refl _ _).alloc (Nat.le_refl _) o
 clear hm hn hs
 have B0 := bT (ba w (.cells #[.slice a rs.length cap, .int .i64 tr] 31)) (ba _ (.cells #[.slice none 0 0, .int .i64 0] 31))
 have X0 := dH ((Bx.new w [.slice a rs.length cap, .int .i64 tr] 31).below (ba _ (.cells #[.slice none 0 0, .int .i64 0] 31)))
 have Y0 := BxZ.new (B := w.heap.size) (w.alloc (.cells #[.slice a rs.length cap, .int .i64 tr] 31)) [.slice none 0 0, .int .i64 0] 31 (by simp)
 have e1 : (w.alloc (.cells #[.slice a rs.length cap, .int .i64 tr] 31)).heap.size = w.heap.size + 1 := by simp
 rw [e1] at Y0
 replace Y0 := dH Y0
 clear e1
 have hs0 : Hid (w.heap.size + 1 + 1 = ((w.alloc (.cells #[.slice a rs.length cap, .int .i64 tr] 31)).alloc (.cells #[.slice none 0 0, .int .i64 0] 31)).heap.size) := by simp [Hid]
 go_enter Tryz.func40, Tryz.ntmps40
 go_wp2_with fail
 generalize (w.alloc (.cells #[.slice a rs.length cap, .int .i64 tr] 31)).alloc (.cells #[.slice none 0 0, .int .i64 0] 31) = w0 at *
 have hbr := Below.refl w0.heap.size w0
 go_cut [3] (fun sv wx => ∃ bv ua uc, sv = .pointer (some ⟨bv, 0, none⟩) ∧ ApR 137 3 erCl wx w0.heap.size (.slice ua rs.length uc) rs ∧ BxZ wx w.heap.size bv [.slice ua rs.length uc, .int .i64 tr] ∧ touch (.slice ua rs.length uc) ≠ some bv ∧ w0.heap.size ≤ bv ∧ Below w0.heap.size w0 wx)
 case first =>
  refine wp_region_noPanic ?_
  refine wp_region_held_drew (S := fun W => W.cell? ⟨w.heap.size, 0, none⟩ = some (.slice a rs.length cap) ∧ W.cell? ⟨w.heap.size, 1, none⟩ = some (.int .i64 tr)) (by kernel_rfl) (by first | exact ⟨dU X0 0 _ rfl, dU X0 1 _ rfl⟩ | exact ⟨q0, q1⟩ | exact ⟨(dU X0).below (bT hbr.drew (ba _ _)) 0 _ rfl, (dU X0).below (bT hbr.drew (ba _ _)) 1 _ rfl⟩ | exact ⟨(dU X0).below (bT hb5 (ba _ _)) 0 _ rfl, (dU X0).below (bT hb5 (ba _ _)) 1 _ rfl⟩ | exact ⟨sO (sO q0 (.inl (by have := dU hs0; omega))) (.inl (by have := dU hs0; omega)), sO (sO q1 (.inl (by have := dU hs0; omega))) (.inl (by have := dU hs0; omega))⟩ | go_keep) (fun hHeld => ?_)
  refine tY 0 (v := ?_) rfl (by kernel_rfl) (.inl ⟨by rfl, ?_⟩) ‹_› ?_
  rotate_left 1
  ·intro w hSw
   (try dsimp only at hSw)
   first | (go_simp; done) | (go_simp; with_reducible rfl)
  try simp only [Act.put, sA, sB, sC]
  refine tY 1 (v := ?_) rfl (by kernel_rfl) (.inl ⟨by rfl, ?_⟩) ‹_› ?_
  rotate_left 1
  ·intro w hSw
   (try dsimp only at hSw)
   first | (go_simp; done) | (go_simp; with_reducible rfl)
  try simp only [Act.put, sA, sB, sC]
  refine tY 3 (v := ?_) rfl (by kernel_rfl) (.inl ⟨by rfl, ?_⟩) ‹_› ?_
  rotate_left 1
  ·intro w hSw
   (try dsimp only at hSw)
   first | (go_simp; done) | (go_simp; with_reducible rfl)
  try simp only [Act.put, sA, sB, sC]
  refine tY 4 (v := ?_) rfl (by kernel_rfl) (.inl ⟨by rfl, ?_⟩) ‹_› ?_
  rotate_left 1
  ·intro w hSw
   (try dsimp only at hSw)
   first | (go_simp; done) | (go_simp; with_reducible rfl)
  try simp only [Act.put, sA, sB, sC]
  refine wpAnyH_ready (rs := [2, 6]) (by kernel_rfl) (by simp) ?_
  refine rC rfl (fun K hK => ?_) (rC rfl (fun K hK => ?_) AllReadyH.nil)
  ·go_simp
   refine (dU CC _ (bT B0 (by first | exact hbr.drew | exact bT hbr.drew (ba _ _)))).mono ?_
   rintro e w5 ⟨⟨u5, rfl, P5⟩, b5⟩
   have hb5 : Below w0.heap.size w0 w5 := by first | exact bT hbr.drew b5 | exact bT (bT hbr.drew (ba _ _)) b5
   obtain ⟨ua, uc, rfl⟩ := ApR.slice elemR P5
   have sz5 := hb5.size
   have q0 := (dU X0).below hb5 0 _ rfl
   have q1 := (dU X0).below hb5 1 _ rfl
   have HP5 := dH P5
   have Hb5 := dH b5
   (first | (have zz : BxZ w5 w.heap.size w0.heap.size [.slice none 0 0, .int .i64 0] := (BxZ.new (B := w.heap.size) w0.drew [.slice none 0 0, .int .i64 0] 31 (by have := dU hs0; simp; omega)).below b5; obtain ⟨z0, f0⟩ := zz.2 0 _ rfl; obtain ⟨z1, f1⟩ := zz.2 1 _ rfl) | skip)
   clear P5 b5
   (try go_wp2_with fail)
   refine hK.out _ _ (by first | exact ⟨dU X0 0 _ rfl, dU X0 1 _ rfl⟩ | exact ⟨q0, q1⟩ | exact ⟨(dU X0).below (bT hbr.drew (ba _ _)) 0 _ rfl, (dU X0).below (bT hbr.drew (ba _ _)) 1 _ rfl⟩ | exact ⟨(dU X0).below (bT hb5 (ba _ _)) 0 _ rfl, (dU X0).below (bT hb5 (ba _ _)) 1 _ rfl⟩ | exact ⟨sO (sO q0 (.inl (by have := dU hs0; omega))) (.inl (by have := dU hs0; omega)), sO (sO q1 (.inl (by have := dU hs0; omega))) (.inl (by have := dU hs0; omega))⟩ | go_keep) (fun hHeld => ?_)
   clear hK K
   try simp only [Act.put, sA, sB, sC]
   refine tY 5 (v := ?_) rfl (by kernel_rfl) (.inl ⟨by rfl, ?_⟩) ‹_› ?_
   rotate_left 1
   ·intro w hSw
    (try dsimp only at hSw)
    first | (go_simp; done) | (go_simp; with_reducible rfl)
   try simp only [Act.put, sA, sB, sC]
   refine wpAnyH_ready (rs := [6]) (by kernel_rfl) (by simp) ?_
   refine rC rfl (fun K hK => ?_) AllReadyH.nil
   go_simp
   refine hK.out _ _ (by first | exact ⟨dU X0 0 _ rfl, dU X0 1 _ rfl⟩ | exact ⟨q0, q1⟩ | exact ⟨(dU X0).below (bT hbr.drew (ba _ _)) 0 _ rfl, (dU X0).below (bT hbr.drew (ba _ _)) 1 _ rfl⟩ | exact ⟨(dU X0).below (bT hb5 (ba _ _)) 0 _ rfl, (dU X0).below (bT hb5 (ba _ _)) 1 _ rfl⟩ | exact ⟨sO (sO q0 (.inl (by have := dU hs0; omega))) (.inl (by have := dU hs0; omega)), sO (sO q1 (.inl (by have := dU hs0; omega))) (.inl (by have := dU hs0; omega))⟩ | go_keep) (fun hHeld => ?_)
   clear hK K
   try simp only [Act.put, sA, sB, sC]
   refine wpAnyH_ready (rs := [7]) (by kernel_rfl) (by simp) ?_
   refine rC rfl (fun K hK => ?_) AllReadyH.nil
   go_simp
   refine hK.out _ _ (by first | exact ⟨dU X0 0 _ rfl, dU X0 1 _ rfl⟩ | exact ⟨q0, q1⟩ | exact ⟨(dU X0).below (bT hbr.drew (ba _ _)) 0 _ rfl, (dU X0).below (bT hbr.drew (ba _ _)) 1 _ rfl⟩ | exact ⟨(dU X0).below (bT hb5 (ba _ _)) 0 _ rfl, (dU X0).below (bT hb5 (ba _ _)) 1 _ rfl⟩ | exact ⟨sO (sO q0 (.inl (by have := dU hs0; omega))) (.inl (by have := dU hs0; omega)), sO (sO q1 (.inl (by have := dU hs0; omega))) (.inl (by have := dU hs0; omega))⟩ | go_keep) (fun hHeld => ?_)
   clear hK K
   try simp only [Act.put, sA, sB, sC]
   refine wpAnyH_done (by kernel_rfl) ?_ _
   refine NoPanic.normal ?_
   go_wp2_with fail
   go_meet
   case rel => first
    | exact ⟨_, ua, uc, rfl, ((dU HP5).mono (by simp)).below (ba _ _), BxZ.new (B := w.heap.size) w5 [.slice ua rs.length uc, .int .i64 tr] 31 (by have := dU hs0; omega), (fun e => by have := (ApR.touched elemR (dU HP5) e).2; omega), by omega, hb5.alloc hb5.size _⟩
    | exact ⟨w0.heap.size, ua, uc, rfl, ((((dU HP5).mono (by simp)).put elemR (fun e => by have := (ApR.touched elemR (dU HP5) e).1; simp at this; omega) _).put elemR (fun e => by have := (ApR.touched elemR (dU HP5) e).1; simp at this; omega) _), (zz.put 0 (.slice ua rs.length uc)).put 1 (.int .i64 tr), (fun e => by have := (ApR.touched elemR (dU HP5) e).1; simp at this; omega), Nat.le_refl _, (hb5.setCell (p := ⟨w0.heap.size, 0, none⟩) (Nat.le_refl _) _).setCell (p := ⟨w0.heap.size, 1, none⟩) (Nat.le_refl _) _⟩
  ·go_simp
   refine hK.out _ _ (by first | exact ⟨dU X0 0 _ rfl, dU X0 1 _ rfl⟩ | exact ⟨q0, q1⟩ | exact ⟨(dU X0).below (bT hbr.drew (ba _ _)) 0 _ rfl, (dU X0).below (bT hbr.drew (ba _ _)) 1 _ rfl⟩ | exact ⟨(dU X0).below (bT hb5 (ba _ _)) 0 _ rfl, (dU X0).below (bT hb5 (ba _ _)) 1 _ rfl⟩ | exact ⟨sO (sO q0 (.inl (by have := dU hs0; omega))) (.inl (by have := dU hs0; omega)), sO (sO q1 (.inl (by have := dU hs0; omega))) (.inl (by have := dU hs0; omega))⟩ | go_keep) (fun hHeld => ?_)
   clear hK K
   try simp only [Act.put, sA, sB, sC]
   refine wpAnyH_ready (rs := [2]) (by kernel_rfl) (by simp) ?_
   refine rC rfl (fun K hK => ?_) AllReadyH.nil
   go_simp
   refine (dU CC _ (bT B0 (by first | exact hbr.drew | exact bT hbr.drew (ba _ _)))).mono ?_
   rintro e w5 ⟨⟨u5, rfl, P5⟩, b5⟩
   have hb5 : Below w0.heap.size w0 w5 := by first | exact bT hbr.drew b5 | exact bT (bT hbr.drew (ba _ _)) b5
   obtain ⟨ua, uc, rfl⟩ := ApR.slice elemR P5
   have sz5 := hb5.size
   have q0 := (dU X0).below hb5 0 _ rfl
   have q1 := (dU X0).below hb5 1 _ rfl
   have HP5 := dH P5
   have Hb5 := dH b5
   (first | (have zz : BxZ w5 w.heap.size w0.heap.size [.slice none 0 0, .int .i64 0] := (BxZ.new (B := w.heap.size) w0.drew [.slice none 0 0, .int .i64 0] 31 (by have := dU hs0; simp; omega)).below b5; obtain ⟨z0, f0⟩ := zz.2 0 _ rfl; obtain ⟨z1, f1⟩ := zz.2 1 _ rfl) | skip)
   clear P5 b5
   (try go_wp2_with fail)
   refine hK.out _ _ (by first | exact ⟨dU X0 0 _ rfl, dU X0 1 _ rfl⟩ | exact ⟨q0, q1⟩ | exact ⟨(dU X0).below (bT hbr.drew (ba _ _)) 0 _ rfl, (dU X0).below (bT hbr.drew (ba _ _)) 1 _ rfl⟩ | exact ⟨(dU X0).below (bT hb5 (ba _ _)) 0 _ rfl, (dU X0).below (bT hb5 (ba _ _)) 1 _ rfl⟩ | exact ⟨sO (sO q0 (.inl (by have := dU hs0; omega))) (.inl (by have := dU hs0; omega)), sO (sO q1 (.inl (by have := dU hs0; omega))) (.inl (by have := dU hs0; omega))⟩ | go_keep) (fun hHeld => ?_)
   clear hK K
   try simp only [Act.put, sA, sB, sC]
   refine tY 5 (v := ?_) rfl (by kernel_rfl) (.inl ⟨by rfl, ?_⟩) ‹_› ?_
   rotate_left 1
   ·intro w hSw
    (try dsimp only at hSw)
    first | (go_simp; done) | (go_simp; with_reducible rfl)
   try simp only [Act.put, sA, sB, sC]
   refine wpAnyH_ready (rs := [7]) (by kernel_rfl) (by simp) ?_
   refine rC rfl (fun K hK => ?_) AllReadyH.nil
   go_simp
   refine hK.out _ _ (by first | exact ⟨dU X0 0 _ rfl, dU X0 1 _ rfl⟩ | exact ⟨q0, q1⟩ | exact ⟨(dU X0).below (bT hbr.drew (ba _ _)) 0 _ rfl, (dU X0).below (bT hbr.drew (ba _ _)) 1 _ rfl⟩ | exact ⟨(dU X0).below (bT hb5 (ba _ _)) 0 _ rfl, (dU X0).below (bT hb5 (ba _ _)) 1 _ rfl⟩ | exact ⟨sO (sO q0 (.inl (by have := dU hs0; omega))) (.inl (by have := dU hs0; omega)), sO (sO q1 (.inl (by have := dU hs0; omega))) (.inl (by have := dU hs0; omega))⟩ | go_keep) (fun hHeld => ?_)
   clear hK K
   try simp only [Act.put, sA, sB, sC]
   refine wpAnyH_done (by kernel_rfl) ?_ _
   refine NoPanic.normal ?_
   go_wp2_with fail
   go_meet
   case rel => first
    | exact ⟨_, ua, uc, rfl, ((dU HP5).mono (by simp)).below (ba _ _), BxZ.new (B := w.heap.size) w5 [.slice ua rs.length uc, .int .i64 tr] 31 (by have := dU hs0; omega), (fun e => by have := (ApR.touched elemR (dU HP5) e).2; omega), by omega, hb5.alloc hb5.size _⟩
    | exact ⟨w0.heap.size, ua, uc, rfl, ((((dU HP5).mono (by simp)).put elemR (fun e => by have := (ApR.touched elemR (dU HP5) e).1; simp at this; omega) _).put elemR (fun e => by have := (ApR.touched elemR (dU HP5) e).1; simp at this; omega) _), (zz.put 0 (.slice ua rs.length uc)).put 1 (.int .i64 tr), (fun e => by have := (ApR.touched elemR (dU HP5) e).1; simp at this; omega), Nat.le_refl _, (hb5.setCell (p := ⟨w0.heap.size, 0, none⟩) (Nat.le_refl _) _).setCell (p := ⟨w0.heap.size, 1, none⟩) (Nat.le_refl _) _⟩
 case rest =>
  obtain ⟨bv, ua, uc, rfl, PA, OB, nt, gb, bc⟩ := hcut
  generalize wc = w1 at *
  have hs0' := dU hs0
  have B1 := bT B0 bc
  have Y1 := dH ((dU Y0).below bc)
  have C0 := dH (CpI.start PA)
  have HOB := dH OB
  have hw1 := bc.size
  have NT := dH nt
  have hlt := OB.lt
  have p0 := (OB.2 0 _ rfl).1
  clear PA OB nt bc hbr X0 Y0 B0 CC hs0
  go_wp2
  go_loopw [14] (fun x wr => ∃ (k : Nat) (ss : List (Nst Er)), x = .int .i64 (k : Int) ∧ k ≤ rs.length ∧ Hid (CpI wr w0.heap.size (.slice ua rs.length uc) rs k ss) ∧ Hid (BxZ wr w.heap.size bv [.slice ua rs.length uc, .int .i64 tr]) ∧ Hid (BxZ wr w.heap.size (w.heap.size + 1) [.slice none 0 0, .int .i64 0]) ∧ bv < wr.heap.size ∧ Below w.heap.size w wr) (fun x _ => rs.length - (intOf x).toNat)
  case atStart => exact ⟨0, rs, rfl, Nat.zero_le _, C0, HOB, Y1, hlt, B1⟩
  case round =>
   obtain ⟨k, ss, rfl, hk, hC, hO, hY, hbv, hb⟩ := hrel
   clear C0 HOB Y1 B1 p0
   by_cases hlt : (k : Int) < (rs.length : Int)
   ·have hkl : k < rs.length := by omega
    obtain ⟨g, rfl⟩ : ∃ g, ua = some ⟨g, 0, none⟩ := by
     rcases (dU hC).2.1 with ⟨h, -⟩ | h
     ·have := (dU hC).1; rw [h] at this; simp at this; omega
     ·rcases h.2 with ⟨h', h0⟩ | ⟨g, cap', cur, h', -⟩
      ·have := (dU hC).1; omega
      ·simp only [Value.slice.injEq] at h'
       exact ⟨g, h'.1⟩
    have hks : k < ss.length := by have := (dU hC).1; omega
    have ek := (dU hC).2.2.2.1 k hkl hks (Nat.le_refl _)
    have RW := (ApR.own elemR (dU hC).2.1)
    obtain ⟨-, a', c', e', hcp, hcc⟩ := RW
    simp only [Value.slice.injEq] at e'
    obtain ⟨b', off', ea', hgb, hce⟩ := orR_of_lt hcc hks
    have eb : (⟨b', off', none⟩ : Addr) = ⟨g, 0, none⟩ := by have := e'.1; rw [ea'] at this; exact (Option.some.inj this).symm
    cases eb
    obtain ⟨n0, fz⟩ := hce k hks 0 _ rfl
    rw [ek] at n0
    simp only [Nat.zero_add, Nat.add_zero, Sv] at n0 fz
    have hgne : g ≠ bv := by
     intro e
     apply dU NT
     have hc : uc ≠ 0 := by have := e'.2.2; have := e'.2.1; omega
     simp [touch, hc, e]
    have hgl : g < wr.heap.size := dCell_lt n0
    have CL := dH fun W (hB : Below wr.heap.size wr W) => cloneN_any _ rs[k].m.nodes W (dU HN W (bT hb hB) k hkl) (dU HL k hkl)
    have ST := dH fun (w2 : World) (qa : Option Addr) (qc : Nat) (hB : Below wr.heap.size wr w2) (ho : OwnN w2 wr.heap.size (.slice qa rs[k].m.nodes.length qc) rs[k].m.nodes) => (dU hC).step hkl hB (by omega) hgl ho
    have NZ : Hid (∀ W, Below wr.heap.size wr W → W.cell? ⟨g, k * 3, none⟩ = some (.slice rs[k].a rs[k].m.nodes.length rs[k].c) ∧ W.frozen? ⟨g, k * 3, none⟩ = false) := fun W hB => ⟨(hB.cell (p := ⟨g, k * 3, none⟩) (dCell_lt n0)).trans n0, (hB.frozen (p := ⟨g, k * 3, none⟩) (dCell_lt n0)).trans fz⟩
    unfold Sv at CL
    generalize rs[k] = y at *
    obtain ⟨ya, yc, yn, yb, yl⟩ := y
    simp only at CL ST NZ n0
    have o0 := ((dU hO).2 0 _ rfl).1
    have hbr := Below.refl wr.heap.size wr
    clear hce hcc ek e' ea'
    go_wp2_with fail
    refine wp_region_noPanic ?_
    refine wp_region_held_drew (S := fun W => W.cell? ⟨bv, 0, none⟩ = some (.slice (some ⟨g, 0, none⟩) rs.length uc)) (by kernel_rfl) (by first | exact o0 | exact o5 | exact sO o5 (.inl (Ne.symm hgne)) | go_keep) (fun hHeld => ?_)
    refine tY 0 (v := ?_) rfl (by kernel_rfl) (.inl ⟨by rfl, ?_⟩) ‹_› ?_
    rotate_left 1
    ·intro w hSw
     (try dsimp only at hSw)
     first | (go_simp; done) | (go_simp; with_reducible rfl)
    try simp only [Act.put, sA, sB, sC]
    refine tY 1 (v := ?_) rfl (by kernel_rfl) (.inl ⟨by rfl, ?_⟩) ‹_› ?_
    rotate_left 1
    ·intro w hSw
     (try dsimp only at hSw)
     first | (go_simp; done) | (go_simp; with_reducible rfl)
    try simp only [Act.put, sA, sB, sC]
    refine tY 2 (v := ?_) rfl (by kernel_rfl) (.inl ⟨by rfl, ?_⟩) ‹_› ?_
    rotate_left 1
    ·intro w hSw
     (try dsimp only at hSw)
     first | (go_simp; done) | (go_simp; with_reducible rfl)
    try simp only [Act.put, sA, sB, sC]
    refine tY 3 (v := ?_) rfl (by kernel_rfl) (.inl ⟨by rfl, ?_⟩) ‹_› ?_
    rotate_left 1
    ·intro w hSw
     (try dsimp only at hSw)
     first | (go_simp; done) | (go_simp; with_reducible rfl)
    try simp only [Act.put, sA, sB, sC]
    refine tY 4 (v := ?_) rfl (by kernel_rfl) (.inl ⟨by rfl, ?_⟩) ‹_› ?_
    rotate_left 1
    ·intro w hSw
     (try dsimp only at hSw)
     first | (go_simp; done) | (go_simp; with_reducible rfl)
    try simp only [Act.put, sA, sB, sC]
    refine tY 5 (v := ?_) rfl (by kernel_rfl) (.inl ⟨by rfl, ?_⟩) ‹_› ?_
    rotate_left 1
    ·intro w hSw
     (try dsimp only at hSw)
     first | (go_simp; done) | (go_simp; with_reducible rfl)
    try simp only [Act.put, sA, sB, sC]
    refine tY 6 (v := ?_) rfl (by kernel_rfl) (.inl ⟨by rfl, ?_⟩) ‹_› ?_
    rotate_left 1
    ·intro w hSw
     (try dsimp only at hSw)
     first | (go_simp; done) | (go_simp; with_reducible rfl)
    try simp only [Act.put, sA, sB, sC]
    refine tY 7 (v := ?_) rfl (by kernel_rfl) (.inl ⟨by rfl, ?_⟩) ‹_› ?_
    rotate_left 1
    ·intro w hSw
     (try dsimp only at hSw)
     first | (go_simp; done) | (go_simp; with_reducible rfl)
    try simp only [Act.put, sA, sB, sC]
    refine wpAnyH_ready (rs := [8]) (by kernel_rfl) (by simp) ?_
    refine rC rfl (fun K hK => ?_) AllReadyH.nil
    go_simp
    refine hK.out _ _ (by first | exact o0 | exact o5 | exact sO o5 (.inl (Ne.symm hgne)) | go_keep) (fun hHeld => ?_)
    clear hK K
    try simp only [Act.put, sA, sB, sC]
    refine wpAnyH_ready (rs := [9]) (by kernel_rfl) (by simp) ?_
    refine rC rfl (fun K hK => ?_) AllReadyH.nil
    go_simp
    refine (dU CL _ hbr.drew).mono ?_
    rintro e w5 ⟨⟨u5, rfl, O5'⟩, b5⟩
    obtain ⟨-, qa, qc, rfl, -, -⟩ := O5'.bs
    have hb5 : Below wr.heap.size wr w5 := bT hbr.drew b5
    have S5 := dH (dU ST w5 qa qc hb5 O5')
    have O5 := dH ((dU hO).below hb5)
    have Y5 := dH ((dU hY).below hb5)
    have B5 := dH (bT hb hb5)
    have sz5 := hb5.size
    obtain ⟨c5, f5⟩ := dU NZ w5 hb5
    have o5 := ((dU O5).2 0 _ rfl).1
    (try go_wp2_with fail)
    refine hK.out _ _ (by first | exact o0 | exact o5 | exact sO o5 (.inl (Ne.symm hgne)) | go_keep) (fun hHeld => ?_)
    clear hK K
    try simp only [Act.put, sA, sB, sC]
    refine tY 10 (v := ?_) rfl (by kernel_rfl) (.inl ⟨by rfl, ?_⟩) ‹_› ?_
    rotate_left 1
    ·intro w hSw
     (try dsimp only at hSw)
     first | (go_simp; done) | (go_simp; with_reducible rfl)
    try simp only [Act.put, sA, sB, sC]
    refine tY 11 (v := ?_) rfl (by kernel_rfl) (.inl ⟨by rfl, ?_⟩) ‹_› ?_
    rotate_left 1
    ·intro w hSw
     (try dsimp only at hSw)
     first | (go_simp; done) | (go_simp; with_reducible rfl)
    try simp only [Act.put, sA, sB, sC]
    refine wpAnyH_ready (rs := [12]) (by kernel_rfl) (by simp) ?_
    refine rC rfl (fun K hK => ?_) AllReadyH.nil
    go_simp
    refine hK.out _ _ (by first | exact o0 | exact o5 | exact sO o5 (.inl (Ne.symm hgne)) | go_keep) (fun hHeld => ?_)
    clear hK K
    try simp only [Act.put, sA, sB, sC]
    refine wpAnyH_done (by kernel_rfl) ?_ _
    refine NoPanic.normal ?_
    go_wp2_with fail
    go_roundw
    case rel => exact ⟨k + 1, _, by go_num, by omega, S5, (dU O5).far (by omega) _, (dU Y5).far (by omega) _, by rw [World.size_setCell]; omega, (dU B5).setCell (p := ⟨g, k * 3, none⟩) (by simp only; omega) _⟩
    case measure => simp [intOf]; omega
   ·have ek : k = rs.length := by omega
    subst ek
    have NF := dH ((dU hC).done)
    obtain ⟨z0, s0⟩ := (dU hO).2 0 _ rfl
    obtain ⟨z1, s1⟩ := (dU hO).2 1 _ rfl
    obtain ⟨y0, p0⟩ := (dU hY).2 0 _ rfl
    obtain ⟨y1, p1⟩ := (dU hY).2 1 _ rfl
    have YY := dH (((dU hY).put 0 (.slice ua rs.length uc)).put 1 (.int .i64 tr))
    have OO := dH (((dU NF).far (b := w.heap.size + 1) (o := 0) (by omega) (.slice ua rs.length uc)).far (b := w.heap.size + 1) (o := 1) (by omega) (.int .i64 tr))
    have BB := dH ((hb.setCell (p := ⟨w.heap.size + 1, 0, none⟩) (by simp only; omega) (.slice ua rs.length uc)).setCell (p := ⟨w.heap.size + 1, 1, none⟩) (by simp only; omega) (.int .i64 tr))
    clear hC HN HL NF
    go_wp2_with fail
    generalize (wr.setCell ⟨w.heap.size + 1, 0, none⟩ (.slice ua rs.length uc)).setCell ⟨w.heap.size + 1, 1, none⟩ (.int .i64 tr) = V at *
    have q0 := ((dU YY).2 0 _ rfl).1
    have q1 := ((dU YY).2 1 _ rfl).1
    clear z0 z1 s0 s1 y0 y1 p0 p1
    refine bodyPost_ret (v := .agg #[.slice ua rs.length uc, .int .i64 tr]) (by simp [results, Tryz.results40, go_sem, q0, q1]) rfl ⟨⟨_, rfl, (dU OO).mono (by omega)⟩, dU BB⟩
end Go.Proofs.YtodfgehicpejgaaGreatDoor
