/- impl's: slices.Clone of words; copied. -/
import Derived.Test.YtjbfpmackocgnaaWrG
import Derived.Test.YtjbfpmackocgnaaWrF
import Derived.Lib.SliceRun
import Derived.Deep.RegionHeld3
import Derived.Deep.DeepCutAuto
namespace Go.Proofs.Ytjbfpmackocgnaa
open Go.ChangeShapes Go.WideShapes Go.ChangeAt Go.RowKit
set_option linter.unusedVariables false
set_option linter.unusedSimpArgs false
set_option maxRecDepth 100000

theorem fcells_setW {α : Type} {cl : α → List Value} {sz : Nat} (hcl : ∀ a, (cl a).length = sz) : ∀ (ms : List α) (k : Nat) (h : k < ms.length) (j : Nat) (hj : j < sz) (u : Value) (p : α), cl p = (cl ms[k]).set j u → (fcells cl ms).set (k * sz + j) u = fcells cl (ms.set k p)
  | [], k, h, _, _, _, _, _ => by simp at h
  | a :: l, 0, h, j, hj, u, p, hp => by
    have e : ∀ (x : α) (y : List α), fcells cl (x :: y) = cl x ++ fcells cl y := fun _ _ => rfl
    simp only [List.getElem_cons_zero] at hp
    rw [Nat.zero_mul, Nat.zero_add, List.set_cons_zero, e, e, List.set_append_left _ _ (by rw [hcl]; exact hj), hp]
  | a :: l, k + 1, h, j, hj, u, p, hp => by
    have e : ∀ (x : α) (y : List α), fcells cl (x :: y) = cl x ++ fcells cl y := fun _ _ => rfl
    have ih := fcells_setW hcl l k (by simpa using h) j hj u p (by simpa using hp)
    rw [List.set_cons_succ, e, e, List.set_append_right _ _ (by rw [hcl, Nat.add_mul]; omega), hcl]
    have e2 : (k + 1) * sz + j - sz = k * sz + j := by rw [Nat.add_mul]; omega
    rw [e2, ih]
/-- One cell of one word of a row that may be appended to is written. -/
theorem ApR.storeW {w : World} {base g n cap k j : Nat} {rs : List (Nst Wd)} (h : ApR 35 3 wdCl w base (.slice (some ⟨g, 0, none⟩) n cap) rs) (hk : k < rs.length) (hj : j < 3) (u : Value) (p : Nst Wd) (hp : wdCl p = (wdCl rs[k]).set j u) : ApR 35 3 wdCl (w.setCell ⟨g, k * 3 + j, none⟩ u) base (.slice (some ⟨g, 0, none⟩) n cap) (rs.set k p) := by
  rcases h with ⟨rfl, -⟩ | h
  · simp at hk
  · have hn : n = rs.length := by
      obtain ⟨a, c, e⟩ := rowR_slice h
      simp only [Value.slice.injEq] at e
      exact e.2.1
    subst hn
    have s := (h.stored (k * 3 + j) u).1
    rw [fcells_setW wdCl_len rs k hk j hj u p hp] at s
    refine .inr ?_
    rw [List.length_set]
    exact s
theorem cloneW_any (v : Value) (rs : List (Nst Wd)) (w : World) (hv : Rw 3 wdCl w v rs) (hl : rs.length ≤ 1048576) :
    Calls Try.prog 144 #[v] w fun e w' => (∃ u, e = .returned u ∧ ApR 35 3 wdCl w' w.heap.size u rs) ∧ Below w.heap.size w w' := by
  have HV := dHide fun W (hb : Below w.heap.size w W) => hv.below hb
  have hv' := hv
  obtain ⟨-, a, cap, rfl, hcap, hc⟩ := hv'
  cases a with
  | none =>
    have e0 : rs = [] := by
      rcases hc with h | ⟨b, off, h, -⟩
      · exact h
      · cases h
    subst e0
    have hnil : ∀ w, (binOp .eql 27 (.slice none 0 cap) (.slice none 0 0)).run Try.prog w = .ok (.bool true) w := fun w => Go.Lib.run_eql_slice_nil w 27 35 none _ _ 0 0 Try.underlying27
    have O : ApR 35 3 wdCl w w.heap.size (.slice none 0 0) ([] : List (Nst Wd)) := .inl ⟨rfl, none, rfl⟩
    clear hv HV hc
    simp only [List.length_nil]
    go_enter Try.func144, Try.ntmps144
    go_wp2
    go_ret
    exact ⟨⟨_, rfl, O⟩, Below.refl _ _⟩
  | some ad =>
    have B1 := (Below.refl w.heap.size w).alloc (Nat.le_refl _) (.cells #[] 35)
    have hN := dUnhide HV _ B1
    have hnil : ∀ w, (binOp .eql 27 (.slice (some ad) rs.length cap) (.slice none 0 0)).run Try.prog w = .ok (.bool false) w := fun w => Go.Lib.run_eql_slice_nil w 27 35 (some ad) _ _ 0 0 Try.underlying27
    clear hv HV hc
    go_enter Try.func144, Try.ntmps144
    go_wp2_with (at_builtin; refine wp_cpR elemW rfl _ _ rfl _ rfl _ rs rfl hN (by omega) ?_; intro u w2 O2 b2)
    go_ret
    exact ⟨⟨_, rfl, O2.mono B1.size⟩, belowThen B1 b2⟩
/-- A list of ints that may be appended to, and has no room where it is empty. -/
def RmN (w : World) (base : Nat) (v : Value) (xs : List Int) : Prop := ApR 3 1 (fun x => [.int .i64 x]) w base v xs ∧ (xs = [] → touch v = none)
section
variable {w w' : World} {base base' : Nat} {v : Value} {xs : List Int}
theorem RmN.own (h : RmN w base v xs) : OwnN w base v xs := (ApR.own elemN h.1).n1
theorem RmN.bs (h : RmN w base v xs) : Ns w v xs := h.own.bs
theorem RmN.ge (h : RmN w base v xs) : xs = [] ∨ base ≤ blockOf v := h.own.ge
theorem RmN.mono (h : RmN w base v xs) (hb : base' ≤ base) : RmN w base' v xs := ⟨h.1.mono hb, h.2⟩
theorem RmN.below (h : RmN w base v xs) (hb : Below w.heap.size w w') : RmN w' base v xs := ⟨h.1.below hb, h.2⟩
theorem RmN.touch (h : RmN w base v xs) {j : Nat} (ht : touch v = some j) : xs ≠ [] ∧ j = blockOf v := by
  refine ⟨(fun e => by rw [h.2 e] at ht; cases ht), ?_⟩
  rcases h.1 with ⟨-, a, rfl⟩ | h'
  · cases a <;> simp [Go.Proofs.Ytjbfpmackocgnaa.touch] at ht
  · rcases h'.2 with ⟨rfl, -⟩ | ⟨g, cap, cur, rfl, -⟩
    · simp [Go.Proofs.Ytjbfpmackocgnaa.touch] at ht
    · by_cases hc : cap = 0
      · simp [Go.Proofs.Ytjbfpmackocgnaa.touch, hc] at ht
      · simp [Go.Proofs.Ytjbfpmackocgnaa.touch, hc] at ht
        exact ht.symm
theorem RmN.grown {row : Option Nat} (h : RmN w base v xs) (g : w.grownBy w' row) (hn : xs = [] ∨ row ≠ some (blockOf v)) : RmN w' base v xs := by
  refine ⟨h.1.kept elemN g ?_, h.2⟩
  cases row with
  | none => exact .inl rfl
  | some j =>
    right
    intro ht
    obtain ⟨h1, h2⟩ := h.touch ht
    rcases hn with hn | hn
    · exact h1 hn
    · exact hn (by rw [h2])
theorem RmN.far {b o : Nat} (h : RmN w base v xs) (hb : b < base) (u : Value) : RmN (w.setCell ⟨b, o, none⟩ u) base v xs := ⟨h.1.far elemN hb u, h.2⟩
end
set_option maxHeartbeats 1000000 in
theorem cloneI_any (v : Value) (xs : List Int) (w : World) (hv : Ns w v xs) (hl : xs.length ≤ 1048576) :
    Calls Try.prog 145 #[v] w fun e w' => (∃ u, e = .returned u ∧ RmN w' w.heap.size u xs) ∧ Below w.heap.size w w' := by
  have HV := dHide fun W (hb : Below w.heap.size w W) => hv.below hb
  have hv' := hv
  obtain ⟨-, a, cap, rfl, hcap, hc⟩ := hv'
  cases a with
  | none =>
    have e0 : xs = [] := by
      rcases hc with h | ⟨b, off, h, -⟩
      · exact h
      · cases h
    subst e0
    have hnil : ∀ w, (binOp .eql 24 (.slice none 0 cap) (.slice none 0 0)).run Try.prog w = .ok (.bool true) w := fun w => Go.Lib.run_eql_slice_nil w 24 3 none _ _ 0 0 Try.underlying24
    have O : RmN w w.heap.size (.slice none 0 0) [] := ⟨.inl ⟨rfl, none, rfl⟩, fun _ => rfl⟩
    clear hv HV hc
    simp only [List.length_nil]
    go_enter Try.func145, Try.ntmps145
    go_wp2
    go_ret
    exact ⟨⟨_, rfl, O⟩, Below.refl _ _⟩
  | some ad =>
    have B1 := (Below.refl w.heap.size w).alloc (Nat.le_refl _) (.cells #[] 3)
    have hN := dUnhide HV _ B1
    have hnil : ∀ w, (binOp .eql 24 (.slice (some ad) xs.length cap) (.slice none 0 0)).run Try.prog w = .ok (.bool false) w := fun w => Go.Lib.run_eql_slice_nil w 24 3 (some ad) _ _ 0 0 Try.underlying24
    clear hv HV hc
    by_cases he : xs = []
    · subst he
      simp only [List.length_nil] at *
      clear hN
      go_enter Try.func145, Try.ntmps145
      go_wp2
      go_ret
      exact ⟨⟨_, rfl, .inl ⟨rfl, _, rfl⟩, fun _ => by simp [touch]⟩, B1⟩
    · have HE := dHide he
      clear he
      go_enter Try.func145, Try.ntmps145
      go_wp2_with (at_builtin; refine wp_cpR elemN rfl _ _ rfl _ rfl _ xs rfl hN.rw1 (by omega) ?_; intro u w2 O2 b2)
      go_ret
      exact ⟨⟨_, rfl, O2.mono B1.size, fun e => absurd e (dUnhide HE)⟩, belowThen B1 b2⟩
/-- A row of words of which the first k have lists of their own. -/
def CpW (wr : World) (base : Nat) (u : Value) (rs : List (Nst Wd)) (k : Nat) (ss : List (Nst Wd)) : Prop :=
  ss.length = rs.length ∧ ApR 35 3 wdCl wr base u ss ∧ (∀ i (h : i < rs.length) (h' : i < ss.length), ss[i].m = rs[i].m) ∧ (∀ i (h : i < rs.length) (h' : i < ss.length), k ≤ i → ss[i] = rs[i]) ∧
    (∀ i (h' : i < ss.length), i < k → RmN wr base (Sv Wd.acks ss[i]) ss[i].m.acks) ∧ (∀ i j (hi : i < ss.length) (hj : j < ss.length), i < k → j < k → i ≠ j → ss[i].m.acks = [] ∨ ss[j].m.acks = [] ∨ blockOf (Sv Wd.acks ss[i]) ≠ blockOf (Sv Wd.acks ss[j])) ∧
    ∀ i (hi : i < ss.length), i < k → ss[i].m.acks = [] ∨ touch u ≠ some (blockOf (Sv Wd.acks ss[i]))
theorem CpW.step {wr w2 : World} {base g n cap k : Nat} {rs ss : List (Nst Wd)} (h : CpW wr base (.slice (some ⟨g, 0, none⟩) n cap) rs k ss) (hk : k < rs.length) (hb2 : Below wr.heap.size wr w2) (hbw : base ≤ wr.heap.size) (hgw : g < wr.heap.size) {qa : Option Addr} {qc : Nat} (ho : RmN w2 wr.heap.size (.slice qa rs[k].m.acks.length qc) rs[k].m.acks) :
    CpW (w2.setCell ⟨g, k * 3 + 1, none⟩ (.slice qa rs[k].m.acks.length qc)) base (.slice (some ⟨g, 0, none⟩) n cap) rs (k + 1) (ss.set k ⟨qa, qc, rs[k].m⟩) := by
  obtain ⟨h1, h2, h3, h4, h5, h6, h7⟩ := h
  have hks : k < ss.length := by omega
  have ek := h4 k hk hks (Nat.le_refl _)
  have at_ : ∀ i (hi : i < (ss.set k ⟨qa, qc, rs[k].m⟩).length) (hi' : i < ss.length), i ≠ k → (ss.set k ⟨qa, qc, rs[k].m⟩)[i] = ss[i] := fun i hi hi' hne => List.getElem_set_ne (Ne.symm hne) _
  have atk : ∀ (hi : k < (ss.set k ⟨qa, qc, rs[k].m⟩).length), (ss.set k ⟨qa, qc, rs[k].m⟩)[k] = ⟨qa, qc, rs[k].m⟩ := fun hi => List.getElem_set_self _
  have old : ∀ i (hi : i < ss.length), i < k → ss[i].m.acks = [] ∨ blockOf (Sv Wd.acks ss[i]) < wr.heap.size := fun i hi hik => (h5 i hi hik).bs.lt
  have eS : blockOf (Sv Wd.acks (⟨qa, qc, rs[k].m⟩ : Nst Wd)) = blockOf (.slice qa rs[k].m.acks.length qc) := rfl
  refine ⟨by rw [List.length_set]; exact h1, ?_, fun i hi hi' => ?_, fun i hi hi' hki => ?_, fun i hi hik => ?_, fun i j hi hj hik hjk hij => ?_, fun i hi hik => ?_⟩
  · exact ApR.storeW (j := 1) (h2.below hb2) hks (by decide) _ ⟨qa, qc, rs[k].m⟩ (by rw [ek]; rfl)
  · rw [List.length_set] at hi'
    by_cases e : i = k
    · subst e; rw [atk]
    · rw [at_ i (by rw [List.length_set]; exact hi') hi' e]; exact h3 i hi hi'
  · rw [List.length_set] at hi'
    rw [at_ i (by rw [List.length_set]; exact hi') hi' (by omega)]
    exact h4 i hi hi' (by omega)
  · rw [List.length_set] at hi
    by_cases e : i = k
    · subst e
      rw [atk]
      refine ((ho.mono hbw).grown (grown_set w2 g (i * 3 + 1) _) ?_)
      rcases ho.ge with h | h
      · exact .inl h
      · exact .inr fun e => by have := Option.some.inj e; omega
    · rw [at_ i (by rw [List.length_set]; exact hi) hi e]
      refine ((h5 i hi (by omega)).below hb2).grown (grown_set w2 g (k * 3 + 1) _) ?_
      rcases h7 i hi (by omega) with h | h
      · exact .inl h
      · right
        intro e'
        apply h
        have hg : cap ≠ 0 := by
          intro e0
          obtain ⟨-, a9, c9, e9, q9, -⟩ := (ApR.own elemW h2).rw
          simp only [Value.slice.injEq] at e9
          have q7 := e9.2.1
          have q8 := e9.2.2
          omega
        simp only [touch, hg, if_false]
        exact e'
  · have hi2 : i < ss.length := by rw [List.length_set] at hi; exact hi
    have hj2 : j < ss.length := by rw [List.length_set] at hj; exact hj
    by_cases e : i = k
    · subst e
      have e2 : j ≠ i := Ne.symm hij
      simp only [atk, at_ j hj hj2 e2, eS]
      rcases old j hj2 (by omega) with h | h
      · exact .inr (.inl h)
      · rcases ho.ge with h' | h'
        · exact .inl h'
        · exact .inr (.inr (by omega))
    · by_cases e2 : j = k
      · subst e2
        simp only [atk, at_ i hi hi2 e, eS]
        rcases old i hi2 (by omega) with h | h
        · exact .inl h
        · rcases ho.ge with h' | h'
          · exact .inr (.inl h')
          · exact .inr (.inr (by omega))
      · simp only [at_ i hi hi2 e, at_ j hj hj2 e2]
        exact h6 i j hi2 hj2 (by omega) (by omega) hij
  · rw [List.length_set] at hi
    by_cases e : i = k
    · subst e
      simp only [atk, eS]
      rcases ho.ge with h' | h'
      · exact .inl h'
      · right
        intro e'
        have := (h2.touched elemW e').2
        omega
    · simp only [at_ i (by rw [List.length_set]; exact hi) hi e]
      exact h7 i hi (by omega)
/-- Words that may be appended to, each list too. -/
def WApR (w : World) (base : Nat) (v : Value) (ms : List Wd) : Prop :=
  ∃ rs : List (Nst Wd), rs.map Nst.m = ms ∧ ApR 35 3 wdCl w base v rs ∧ (∀ p ∈ rs, RmN w base (Sv Wd.acks p) p.m.acks) ∧
    (∀ i j (hi : i < rs.length) (hj : j < rs.length), i ≠ j → rs[i].m.acks = [] ∨ rs[j].m.acks = [] ∨ blockOf (Sv Wd.acks rs[i]) ≠ blockOf (Sv Wd.acks rs[j])) ∧ ∀ i (hi : i < rs.length), rs[i].m.acks = [] ∨ touch v ≠ some (blockOf (Sv Wd.acks rs[i]))
theorem WApR.wap {w : World} {base : Nat} {v : Value} {ms : List Wd} (h : WApR w base v ms) : WAp w base v ms := by
  obtain ⟨rs, h1, h2, h3, h4, h5⟩ := h
  exact ⟨rs, h1, h2, fun p hp => (h3 p hp).own, h4, h5⟩
theorem WApR.below {w w' : World} {base : Nat} {v : Value} {ms : List Wd} (h : WApR w base v ms) (hb : Below w.heap.size w w') : WApR w' base v ms := by
  obtain ⟨rs, h1, h2, h3, h4, h5⟩ := h
  exact ⟨rs, h1, h2.below hb, fun p hp => (h3 p hp).below hb, h4, h5⟩
theorem WApR.mono {w : World} {base base' : Nat} {v : Value} {ms : List Wd} (h : WApR w base v ms) (hb : base' ≤ base) : WApR w base' v ms := by
  obtain ⟨rs, h1, h2, h3, h4, h5⟩ := h
  exact ⟨rs, h1, h2.mono hb, fun p hp => (h3 p hp).mono hb, h4, h5⟩
theorem WApR.far {w : World} {base b o : Nat} {v : Value} {ms : List Wd} (h : WApR w base v ms) (hb : b < base) (u : Value) : WApR (w.setCell ⟨b, o, none⟩ u) base v ms := by
  obtain ⟨rs, h1, h2, h3, h4, h5⟩ := h
  exact ⟨rs, h1, ApR.far elemW h2 hb u, fun p hp => (h3 p hp).far hb u, h4, h5⟩
theorem CpW.done {wr : World} {base : Nat} {u : Value} {rs ss : List (Nst Wd)} (h : CpW wr base u rs rs.length ss) : WApR wr base u (rs.map Nst.m) := by
  obtain ⟨h1, h2, h3, h4, h5, h6, h7⟩ := h
  refine ⟨ss, ?_, h2, fun p hp => ?_, fun i j hi hj hij => h6 i j hi hj (by omega) (by omega) hij, fun i hi => h7 i hi (by omega)⟩
  · apply List.ext_getElem
    · simp [h1]
    · intro i a b
      simp only [List.getElem_map]
      exact h3 i (by simpa using b) (by simpa using a)
  · obtain ⟨i, hi, rfl⟩ := List.mem_iff_getElem.1 hp
    exact h5 i hi (by omega)
theorem CpW.start {wr : World} {base : Nat} {u : Value} {rs : List (Nst Wd)} (h : ApR 35 3 wdCl wr base u rs) : CpW wr base u rs 0 rs := ⟨rfl, h, fun _ _ _ => rfl, fun _ _ _ _ => rfl, fun i _ h => by omega, fun i j _ _ h => by omega, fun i _ h => by omega⟩
theorem CpW.below {wr w' : World} {base k : Nat} {u : Value} {rs ss : List (Nst Wd)} (h : CpW wr base u rs k ss) (hb : Below wr.heap.size wr w') : CpW w' base u rs k ss := by
  obtain ⟨h1, h2, h3, h4, h5, h6, h7⟩ := h
  exact ⟨h1, h2.below hb, h3, h4, fun i hi hik => (h5 i hi hik).below hb, h6, h7⟩
set_option maxHeartbeats 8000000 in
theorem copiedW_any (v : Value) (m : Wt) (w : World) (hv : RdWriter v m w) (hs : sizWriter m ≤ 1048576) :
    Calls Try.prog 112 #[v] w fun e w' => (∃ u, e = .returned (.agg #[.int .i64 m.epoch, u]) ∧ WApR w' w.heap.size u m.words) ∧ Below w.heap.size w w' := by
  obtain ⟨sv, rfl, rs, hm, hr, hn⟩ := hv
  have hle : rs.length ≤ 1048576 := by unfold sizWriter sizWordS at hs; rw [← hm, List.length_map] at hs; omega
  have HL : Hid (∀ k (hk : k < rs.length), rs[k].m.acks.length ≤ 1048576) := fun k hk => by
    have h1 := sumW_mem (ms := rs.map Nst.m) (k := k) (by simpa using hk)
    rw [List.getElem_map] at h1
    unfold sizWriter sizWordS at hs
    rw [← hm] at hs
    omega
  have HN := dHide fun W (hb : Below w.heap.size w W) k (hk : k < rs.length) => (hn _ (List.getElem_mem hk)).below hb
  have CC := dHide fun W (hb : Below w.heap.size w W) => cloneW_any sv rs W (hr.below hb) hle
  obtain ⟨-, a, cap, rfl, -, -⟩ := hr
  generalize m.epoch = tr at *
  rw [← hm]
  have ba : ∀ (w : World) o, Below w.heap.size w (w.alloc o) := fun w o => (Below.refl _ _).alloc (Nat.le_refl _) o
  clear hm hn hs
  have B0 := belowThen (ba w (.cells #[.int .i64 tr, .slice a rs.length cap] 29)) (ba _ (.cells #[.int .i64 0, .slice none 0 0] 29))
  have X0 := dHide ((Bx.new w [.int .i64 tr, .slice a rs.length cap] 29).below (ba _ (.cells #[.int .i64 0, .slice none 0 0] 29)))
  have Y0 := BxZ.new (B := w.heap.size) (w.alloc (.cells #[.int .i64 tr, .slice a rs.length cap] 29)) [.int .i64 0, .slice none 0 0] 29 (by simp)
  have e1 : (w.alloc (.cells #[.int .i64 tr, .slice a rs.length cap] 29)).heap.size = w.heap.size + 1 := by simp
  rw [e1] at Y0
  replace Y0 := dHide Y0
  clear e1
  have hs0 : Hid (w.heap.size + 1 + 1 = ((w.alloc (.cells #[.int .i64 tr, .slice a rs.length cap] 29)).alloc (.cells #[.int .i64 0, .slice none 0 0] 29)).heap.size) := by simp [Hid]
  go_enter Try.func112, Try.ntmps112
  go_wp2_with fail
  generalize (w.alloc (.cells #[.int .i64 tr, .slice a rs.length cap] 29)).alloc (.cells #[.int .i64 0, .slice none 0 0] 29) = w0 at *
  have hbr := Below.refl w0.heap.size w0
  go_cut [3] (fun sv wx => ∃ bv ua uc, sv = .pointer (some ⟨bv, 0, none⟩) ∧ ApR 35 3 wdCl wx w0.heap.size (.slice ua rs.length uc) rs ∧ BxZ wx w.heap.size bv [.int .i64 tr, .slice ua rs.length uc] ∧ touch (.slice ua rs.length uc) ≠ some bv ∧ w0.heap.size ≤ bv ∧ Below w0.heap.size w0 wx)
  case first =>
    refine wp_region_noPanic ?_
    refine wp_region_held_drew (S := fun W => W.cell? ⟨w.heap.size, 0, none⟩ = some (.int .i64 tr) ∧ W.cell? ⟨w.heap.size, 1, none⟩ = some (.slice a rs.length cap)) (by kernel_rfl) (by first | exact ⟨dUnhide X0 0 _ rfl, dUnhide X0 1 _ rfl⟩ | exact ⟨q0, q1⟩ | exact ⟨(dUnhide X0).below (belowThen hbr.drew (ba _ _)) 0 _ rfl, (dUnhide X0).below (belowThen hbr.drew (ba _ _)) 1 _ rfl⟩ | exact ⟨(dUnhide X0).below (belowThen hb5 (ba _ _)) 0 _ rfl, (dUnhide X0).below (belowThen hb5 (ba _ _)) 1 _ rfl⟩ | exact ⟨set_other (set_other q0 (.inl (by have := dUnhide hs0; omega))) (.inl (by have := dUnhide hs0; omega)), set_other (set_other q1 (.inl (by have := dUnhide hs0; omega))) (.inl (by have := dUnhide hs0; omega))⟩ | go_keep) (fun hHeld => ?_)
    refine wpAnyH_take (i := 0) (oi := { dst := some 5, op := Op.fieldAddr 29 (Operand.tmp 1) 0, type := 0, pos := "l08_writer.go:134", after := #[], guard := none }) (v := ?_) rfl (by kernel_rfl) (by kernel_rfl) (by kernel_rfl) (fun _ _ _ h => h) (Or.inl ⟨by rfl, ?_⟩) (by assumption) ?_
    rotate_left 1
    · intro w hSw
      (try dsimp only at hSw)
      first | (go_simp; done) | (go_simp; with_reducible rfl)
    try simp only [Act.put, List.setIfInBounds_toArray, List.set_cons_zero, List.set_cons_succ]
    refine wpAnyH_take (i := 1) (oi := { dst := some 6, op := Op.load 3 (Operand.tmp 5), type := 3, pos := "l08_writer.go:134", after := #[{ on := 0, ground := Ground.data }], guard := none }) (v := ?_) rfl (by kernel_rfl) (by kernel_rfl) (by kernel_rfl) (fun _ _ _ h => h) (Or.inl ⟨by rfl, ?_⟩) (by assumption) ?_
    rotate_left 1
    · intro w hSw
      (try dsimp only at hSw)
      first | (go_simp; done) | (go_simp; with_reducible rfl)
    try simp only [Act.put, List.setIfInBounds_toArray, List.set_cons_zero, List.set_cons_succ]
    refine wpAnyH_take (i := 2) (oi := { dst := some 7, op := Op.fieldAddr 29 (Operand.tmp 1) 1, type := 0, pos := "l08_writer.go:134", after := #[], guard := none }) (v := ?_) rfl (by kernel_rfl) (by kernel_rfl) (by kernel_rfl) (fun _ _ _ h => h) (Or.inl ⟨by rfl, ?_⟩) (by assumption) ?_
    rotate_left 1
    · intro w hSw
      (try dsimp only at hSw)
      first | (go_simp; done) | (go_simp; with_reducible rfl)
    try simp only [Act.put, List.setIfInBounds_toArray, List.set_cons_zero, List.set_cons_succ]
    refine wpAnyH_take (i := 3) (oi := { dst := some 8, op := Op.load 27 (Operand.tmp 7), type := 27, pos := "l08_writer.go:134", after := #[{ on := 2, ground := Ground.data }], guard := none }) (v := ?_) rfl (by kernel_rfl) (by kernel_rfl) (by kernel_rfl) (fun _ _ _ h => h) (Or.inl ⟨by rfl, ?_⟩) (by assumption) ?_
    rotate_left 1
    · intro w hSw
      (try dsimp only at hSw)
      first | (go_simp; done) | (go_simp; with_reducible rfl)
    try simp only [Act.put, List.setIfInBounds_toArray, List.set_cons_zero, List.set_cons_succ]
    refine wpAnyH_ready (rs := [4, 6]) (by kernel_rfl) (by simp) ?_
    refine AllReadyH.cons (o := { dst := some 9, op := Op.call { callee := Callee.value (Operand.func 144), args := #[Operand.tmp 8], argTypes := #[27] }, type := 27, pos := "l08_writer.go:134", after := #[{ on := 3, ground := Ground.data }], guard := none }) rfl (fun K hK => ?_) (AllReadyH.cons (o := { dst := some 3, op := Op.alloc 29, type := 0, pos := "l08_writer.go:134", after := #[], guard := none }) rfl (fun K hK => ?_) AllReadyH.nil)
    · go_simp
      refine (dUnhide CC _ (belowThen B0 (by first | exact hbr.drew | exact belowThen hbr.drew (ba _ _)))).mono ?_
      rintro e w5 ⟨⟨u5, rfl, P5⟩, b5⟩
      have hb5 : Below w0.heap.size w0 w5 := by first | exact belowThen hbr.drew b5 | exact belowThen (belowThen hbr.drew (ba _ _)) b5
      obtain ⟨ua, uc, rfl⟩ := ApR.slice elemW P5
      have sz5 := hb5.size
      have q0 := (dUnhide X0).below hb5 0 _ rfl
      have q1 := (dUnhide X0).below hb5 1 _ rfl
      have HP5 := dHide P5
      have Hb5 := dHide b5
      (first | (have zz : BxZ w5 w.heap.size w0.heap.size [.int .i64 0, .slice none 0 0] := (BxZ.new (B := w.heap.size) w0.drew [.int .i64 0, .slice none 0 0] 29 (by have := dUnhide hs0; simp; omega)).below b5; obtain ⟨z0, f0⟩ := zz.2 0 _ rfl; obtain ⟨z1, f1⟩ := zz.2 1 _ rfl) | skip)
      clear P5 b5
      (try go_wp2_with fail)
      refine hK.out _ _ (by first | exact ⟨dUnhide X0 0 _ rfl, dUnhide X0 1 _ rfl⟩ | exact ⟨q0, q1⟩ | exact ⟨(dUnhide X0).below (belowThen hbr.drew (ba _ _)) 0 _ rfl, (dUnhide X0).below (belowThen hbr.drew (ba _ _)) 1 _ rfl⟩ | exact ⟨(dUnhide X0).below (belowThen hb5 (ba _ _)) 0 _ rfl, (dUnhide X0).below (belowThen hb5 (ba _ _)) 1 _ rfl⟩ | exact ⟨set_other (set_other q0 (.inl (by have := dUnhide hs0; omega))) (.inl (by have := dUnhide hs0; omega)), set_other (set_other q1 (.inl (by have := dUnhide hs0; omega))) (.inl (by have := dUnhide hs0; omega))⟩ | go_keep) (fun hHeld => ?_)
      clear hK K
      try simp only [Act.put, List.setIfInBounds_toArray, List.set_cons_zero, List.set_cons_succ]
      refine wpAnyH_take (i := 5) (oi := { dst := some 10, op := Op.build 29 #[(0, Operand.tmp 6), (1, Operand.tmp 9)], type := 29, pos := "l08_writer.go:134", after := #[{ on := 1, ground := Ground.data }, { on := 4, ground := Ground.data }], guard := none }) (v := ?_) rfl (by kernel_rfl) (by kernel_rfl) (by kernel_rfl) (fun _ _ _ h => h) (Or.inl ⟨by rfl, ?_⟩) (by assumption) ?_
      rotate_left 1
      · intro w hSw
        (try dsimp only at hSw)
        first | (go_simp; done) | (go_simp; with_reducible rfl)
      try simp only [Act.put, List.setIfInBounds_toArray, List.set_cons_zero, List.set_cons_succ]
      refine wpAnyH_ready (rs := [6]) (by kernel_rfl) (by simp) ?_
      refine AllReadyH.cons (o := { dst := some 3, op := Op.alloc 29, type := 0, pos := "l08_writer.go:134", after := #[], guard := none }) rfl (fun K hK => ?_) AllReadyH.nil
      go_simp
      refine hK.out _ _ (by first | exact ⟨dUnhide X0 0 _ rfl, dUnhide X0 1 _ rfl⟩ | exact ⟨q0, q1⟩ | exact ⟨(dUnhide X0).below (belowThen hbr.drew (ba _ _)) 0 _ rfl, (dUnhide X0).below (belowThen hbr.drew (ba _ _)) 1 _ rfl⟩ | exact ⟨(dUnhide X0).below (belowThen hb5 (ba _ _)) 0 _ rfl, (dUnhide X0).below (belowThen hb5 (ba _ _)) 1 _ rfl⟩ | exact ⟨set_other (set_other q0 (.inl (by have := dUnhide hs0; omega))) (.inl (by have := dUnhide hs0; omega)), set_other (set_other q1 (.inl (by have := dUnhide hs0; omega))) (.inl (by have := dUnhide hs0; omega))⟩ | go_keep) (fun hHeld => ?_)
      clear hK K
      try simp only [Act.put, List.setIfInBounds_toArray, List.set_cons_zero, List.set_cons_succ]
      refine wpAnyH_ready (rs := [7]) (by kernel_rfl) (by simp) ?_
      refine AllReadyH.cons (o := { dst := none, op := Op.store 29 (Operand.tmp 3) (Operand.tmp 10), type := 0, pos := "l08_writer.go:134", after := #[{ on := 6, ground := Ground.data }, { on := 5, ground := Ground.data }, { on := 4, ground := Ground.chain }, { on := 0, ground := Ground.phase }, { on := 1, ground := Ground.phase }, { on := 2, ground := Ground.phase }, { on := 3, ground := Ground.phase }, { on := 4, ground := Ground.phase }, { on := 5, ground := Ground.phase }, { on := 6, ground := Ground.phase }], guard := none }) rfl (fun K hK => ?_) AllReadyH.nil
      go_simp
      refine hK.out _ _ (by first | exact ⟨dUnhide X0 0 _ rfl, dUnhide X0 1 _ rfl⟩ | exact ⟨q0, q1⟩ | exact ⟨(dUnhide X0).below (belowThen hbr.drew (ba _ _)) 0 _ rfl, (dUnhide X0).below (belowThen hbr.drew (ba _ _)) 1 _ rfl⟩ | exact ⟨(dUnhide X0).below (belowThen hb5 (ba _ _)) 0 _ rfl, (dUnhide X0).below (belowThen hb5 (ba _ _)) 1 _ rfl⟩ | exact ⟨set_other (set_other q0 (.inl (by have := dUnhide hs0; omega))) (.inl (by have := dUnhide hs0; omega)), set_other (set_other q1 (.inl (by have := dUnhide hs0; omega))) (.inl (by have := dUnhide hs0; omega))⟩ | go_keep) (fun hHeld => ?_)
      clear hK K
      try simp only [Act.put, List.setIfInBounds_toArray, List.set_cons_zero, List.set_cons_succ]
      refine wpAnyH_done (by kernel_rfl) ?_ _
      refine NoPanic.normal ?_
      go_wp2_with fail
      go_meet
      case rel => first
        | exact ⟨_, ua, uc, rfl, ((dUnhide HP5).mono (by simp)).below (ba _ _), BxZ.new (B := w.heap.size) w5 [.int .i64 tr, .slice ua rs.length uc] 29 (by have := dUnhide hs0; omega), (fun e => by have := (ApR.touched elemW (dUnhide HP5) e).2; omega), by omega, hb5.alloc hb5.size _⟩
        | exact ⟨w0.heap.size, ua, uc, rfl, ((((dUnhide HP5).mono (by simp)).put elemW (fun e => by have := (ApR.touched elemW (dUnhide HP5) e).1; simp at this; omega) _).put elemW (fun e => by have := (ApR.touched elemW (dUnhide HP5) e).1; simp at this; omega) _), (zz.put 0 (.int .i64 tr)).put 1 (.slice ua rs.length uc), (fun e => by have := (ApR.touched elemW (dUnhide HP5) e).1; simp at this; omega), Nat.le_refl _, (hb5.setCell (p := ⟨w0.heap.size, 0, none⟩) (Nat.le_refl _) _).setCell (p := ⟨w0.heap.size, 1, none⟩) (Nat.le_refl _) _⟩
    · go_simp
      refine hK.out _ _ (by first | exact ⟨dUnhide X0 0 _ rfl, dUnhide X0 1 _ rfl⟩ | exact ⟨q0, q1⟩ | exact ⟨(dUnhide X0).below (belowThen hbr.drew (ba _ _)) 0 _ rfl, (dUnhide X0).below (belowThen hbr.drew (ba _ _)) 1 _ rfl⟩ | exact ⟨(dUnhide X0).below (belowThen hb5 (ba _ _)) 0 _ rfl, (dUnhide X0).below (belowThen hb5 (ba _ _)) 1 _ rfl⟩ | exact ⟨set_other (set_other q0 (.inl (by have := dUnhide hs0; omega))) (.inl (by have := dUnhide hs0; omega)), set_other (set_other q1 (.inl (by have := dUnhide hs0; omega))) (.inl (by have := dUnhide hs0; omega))⟩ | go_keep) (fun hHeld => ?_)
      clear hK K
      try simp only [Act.put, List.setIfInBounds_toArray, List.set_cons_zero, List.set_cons_succ]
      refine wpAnyH_ready (rs := [4]) (by kernel_rfl) (by simp) ?_
      refine AllReadyH.cons (o := { dst := some 9, op := Op.call { callee := Callee.value (Operand.func 144), args := #[Operand.tmp 8], argTypes := #[27] }, type := 27, pos := "l08_writer.go:134", after := #[{ on := 3, ground := Ground.data }], guard := none }) rfl (fun K hK => ?_) AllReadyH.nil
      go_simp
      refine (dUnhide CC _ (belowThen B0 (by first | exact hbr.drew | exact belowThen hbr.drew (ba _ _)))).mono ?_
      rintro e w5 ⟨⟨u5, rfl, P5⟩, b5⟩
      have hb5 : Below w0.heap.size w0 w5 := by first | exact belowThen hbr.drew b5 | exact belowThen (belowThen hbr.drew (ba _ _)) b5
      obtain ⟨ua, uc, rfl⟩ := ApR.slice elemW P5
      have sz5 := hb5.size
      have q0 := (dUnhide X0).below hb5 0 _ rfl
      have q1 := (dUnhide X0).below hb5 1 _ rfl
      have HP5 := dHide P5
      have Hb5 := dHide b5
      (first | (have zz : BxZ w5 w.heap.size w0.heap.size [.int .i64 0, .slice none 0 0] := (BxZ.new (B := w.heap.size) w0.drew [.int .i64 0, .slice none 0 0] 29 (by have := dUnhide hs0; simp; omega)).below b5; obtain ⟨z0, f0⟩ := zz.2 0 _ rfl; obtain ⟨z1, f1⟩ := zz.2 1 _ rfl) | skip)
      clear P5 b5
      (try go_wp2_with fail)
      refine hK.out _ _ (by first | exact ⟨dUnhide X0 0 _ rfl, dUnhide X0 1 _ rfl⟩ | exact ⟨q0, q1⟩ | exact ⟨(dUnhide X0).below (belowThen hbr.drew (ba _ _)) 0 _ rfl, (dUnhide X0).below (belowThen hbr.drew (ba _ _)) 1 _ rfl⟩ | exact ⟨(dUnhide X0).below (belowThen hb5 (ba _ _)) 0 _ rfl, (dUnhide X0).below (belowThen hb5 (ba _ _)) 1 _ rfl⟩ | exact ⟨set_other (set_other q0 (.inl (by have := dUnhide hs0; omega))) (.inl (by have := dUnhide hs0; omega)), set_other (set_other q1 (.inl (by have := dUnhide hs0; omega))) (.inl (by have := dUnhide hs0; omega))⟩ | go_keep) (fun hHeld => ?_)
      clear hK K
      try simp only [Act.put, List.setIfInBounds_toArray, List.set_cons_zero, List.set_cons_succ]
      refine wpAnyH_take (i := 5) (oi := { dst := some 10, op := Op.build 29 #[(0, Operand.tmp 6), (1, Operand.tmp 9)], type := 29, pos := "l08_writer.go:134", after := #[{ on := 1, ground := Ground.data }, { on := 4, ground := Ground.data }], guard := none }) (v := ?_) rfl (by kernel_rfl) (by kernel_rfl) (by kernel_rfl) (fun _ _ _ h => h) (Or.inl ⟨by rfl, ?_⟩) (by assumption) ?_
      rotate_left 1
      · intro w hSw
        (try dsimp only at hSw)
        first | (go_simp; done) | (go_simp; with_reducible rfl)
      try simp only [Act.put, List.setIfInBounds_toArray, List.set_cons_zero, List.set_cons_succ]
      refine wpAnyH_ready (rs := [7]) (by kernel_rfl) (by simp) ?_
      refine AllReadyH.cons (o := { dst := none, op := Op.store 29 (Operand.tmp 3) (Operand.tmp 10), type := 0, pos := "l08_writer.go:134", after := #[{ on := 6, ground := Ground.data }, { on := 5, ground := Ground.data }, { on := 4, ground := Ground.chain }, { on := 0, ground := Ground.phase }, { on := 1, ground := Ground.phase }, { on := 2, ground := Ground.phase }, { on := 3, ground := Ground.phase }, { on := 4, ground := Ground.phase }, { on := 5, ground := Ground.phase }, { on := 6, ground := Ground.phase }], guard := none }) rfl (fun K hK => ?_) AllReadyH.nil
      go_simp
      refine hK.out _ _ (by first | exact ⟨dUnhide X0 0 _ rfl, dUnhide X0 1 _ rfl⟩ | exact ⟨q0, q1⟩ | exact ⟨(dUnhide X0).below (belowThen hbr.drew (ba _ _)) 0 _ rfl, (dUnhide X0).below (belowThen hbr.drew (ba _ _)) 1 _ rfl⟩ | exact ⟨(dUnhide X0).below (belowThen hb5 (ba _ _)) 0 _ rfl, (dUnhide X0).below (belowThen hb5 (ba _ _)) 1 _ rfl⟩ | exact ⟨set_other (set_other q0 (.inl (by have := dUnhide hs0; omega))) (.inl (by have := dUnhide hs0; omega)), set_other (set_other q1 (.inl (by have := dUnhide hs0; omega))) (.inl (by have := dUnhide hs0; omega))⟩ | go_keep) (fun hHeld => ?_)
      clear hK K
      try simp only [Act.put, List.setIfInBounds_toArray, List.set_cons_zero, List.set_cons_succ]
      refine wpAnyH_done (by kernel_rfl) ?_ _
      refine NoPanic.normal ?_
      go_wp2_with fail
      go_meet
      case rel => first
        | exact ⟨_, ua, uc, rfl, ((dUnhide HP5).mono (by simp)).below (ba _ _), BxZ.new (B := w.heap.size) w5 [.int .i64 tr, .slice ua rs.length uc] 29 (by have := dUnhide hs0; omega), (fun e => by have := (ApR.touched elemW (dUnhide HP5) e).2; omega), by omega, hb5.alloc hb5.size _⟩
        | exact ⟨w0.heap.size, ua, uc, rfl, ((((dUnhide HP5).mono (by simp)).put elemW (fun e => by have := (ApR.touched elemW (dUnhide HP5) e).1; simp at this; omega) _).put elemW (fun e => by have := (ApR.touched elemW (dUnhide HP5) e).1; simp at this; omega) _), (zz.put 0 (.int .i64 tr)).put 1 (.slice ua rs.length uc), (fun e => by have := (ApR.touched elemW (dUnhide HP5) e).1; simp at this; omega), Nat.le_refl _, (hb5.setCell (p := ⟨w0.heap.size, 0, none⟩) (Nat.le_refl _) _).setCell (p := ⟨w0.heap.size, 1, none⟩) (Nat.le_refl _) _⟩
  case rest =>
    obtain ⟨bv, ua, uc, rfl, PA, OB, nt, gb, bc⟩ := hcut
    generalize wc = w1 at *
    have hs0' := dUnhide hs0
    have B1 := belowThen B0 bc
    have Y1 := dHide ((dUnhide Y0).below bc)
    have C0 := dHide (CpW.start PA)
    have HOB := dHide OB
    have hw1 := bc.size
    have NT := dHide nt
    have hlt := OB.lt
    have p0 := (OB.2 1 _ rfl).1
    clear PA OB nt bc hbr X0 Y0 B0 CC hs0
    go_wp2
    go_loopw [14] (fun x wr => ∃ (k : Nat) (ss : List (Nst Wd)), x = .int .i64 (k : Int) ∧ k ≤ rs.length ∧ Hid (CpW wr w0.heap.size (.slice ua rs.length uc) rs k ss) ∧ Hid (BxZ wr w.heap.size bv [.int .i64 tr, .slice ua rs.length uc]) ∧ Hid (BxZ wr w.heap.size (w.heap.size + 1) [.int .i64 0, .slice none 0 0]) ∧ bv < wr.heap.size ∧ Below w.heap.size w wr) (fun x _ => rs.length - (intOf x).toNat)
    case atStart => exact ⟨0, rs, rfl, Nat.zero_le _, C0, HOB, Y1, hlt, B1⟩
    case round =>
      obtain ⟨k, ss, rfl, hk, hC, hO, hY, hbv, hb⟩ := hrel
      clear C0 HOB Y1 B1 p0
      by_cases hlt : (k : Int) < (rs.length : Int)
      · have hkl : k < rs.length := by omega
        obtain ⟨g, rfl⟩ : ∃ g, ua = some ⟨g, 0, none⟩ := by
          rcases (dUnhide hC).2.1 with ⟨h, -⟩ | h
          · have := (dUnhide hC).1; rw [h] at this; simp at this; omega
          · rcases h.2 with ⟨h', h0⟩ | ⟨g, cap', cur, h', -⟩
            · have := (dUnhide hC).1; omega
            · simp only [Value.slice.injEq] at h'
              exact ⟨g, h'.1⟩
        have hks : k < ss.length := by have := (dUnhide hC).1; omega
        have ek := (dUnhide hC).2.2.2.1 k hkl hks (Nat.le_refl _)
        have RW := (ApR.own elemW (dUnhide hC).2.1)
        obtain ⟨-, a', c', e', hcp, hcc⟩ := RW
        simp only [Value.slice.injEq] at e'
        obtain ⟨b', off', ea', hgb, hce⟩ := orR_of_lt hcc hks
        have eb : (⟨b', off', none⟩ : Addr) = ⟨g, 0, none⟩ := by have := e'.1; rw [ea'] at this; exact (Option.some.inj this).symm
        cases eb
        obtain ⟨n0, fz⟩ := hce k hks 1 _ rfl
        rw [ek] at n0
        simp only [Nat.zero_add, Nat.add_zero, Sv] at n0 fz
        have hgne : g ≠ bv := by
          intro e
          apply dUnhide NT
          have hc : uc ≠ 0 := by have := e'.2.2; have := e'.2.1; omega
          simp [touch, hc, e]
        have hgl : g < wr.heap.size := dCell_lt n0
        have CL := dHide fun W (hB : Below wr.heap.size wr W) => cloneI_any _ rs[k].m.acks W (dUnhide HN W (belowThen hb hB) k hkl) (dUnhide HL k hkl)
        have ST := dHide fun (w2 : World) (qa : Option Addr) (qc : Nat) (hB : Below wr.heap.size wr w2) (ho : RmN w2 wr.heap.size (.slice qa rs[k].m.acks.length qc) rs[k].m.acks) => (dUnhide hC).step hkl hB (by omega) hgl ho
        have NZ : Hid (∀ W, Below wr.heap.size wr W → W.cell? ⟨g, k * 3 + 1, none⟩ = some (.slice rs[k].a rs[k].m.acks.length rs[k].c) ∧ W.frozen? ⟨g, k * 3 + 1, none⟩ = false) := fun W hB => ⟨(hB.cell (p := ⟨g, k * 3 + 1, none⟩) (dCell_lt n0)).trans n0, (hB.frozen (p := ⟨g, k * 3 + 1, none⟩) (dCell_lt n0)).trans fz⟩
        unfold Sv at CL
        generalize rs[k] = y at *
        obtain ⟨ya, yc, yd, yn, yb⟩ := y
        simp only at CL ST NZ n0
        have o0 := ((dUnhide hO).2 1 _ rfl).1
        have hbr := Below.refl wr.heap.size wr
        clear hce hcc ek e' ea'
        go_wp2_with fail
        refine wp_region_noPanic ?_
        refine wp_region_held_drew (S := fun W => W.cell? ⟨bv, 1, none⟩ = some (.slice (some ⟨g, 0, none⟩) rs.length uc)) (by kernel_rfl) (by first | exact o0 | exact o5 | exact set_other o5 (.inl (Ne.symm hgne)) | go_keep) (fun hHeld => ?_)
        refine wpAnyH_take (i := 0) (oi := { dst := some 17, op := Op.fieldAddr 29 (Operand.tmp 3) 1, type := 0, pos := "l08_writer.go:136", after := #[], guard := none }) (v := ?_) rfl (by kernel_rfl) (by kernel_rfl) (by kernel_rfl) (fun _ _ _ h => h) (Or.inl ⟨by rfl, ?_⟩) (by assumption) ?_
        rotate_left 1
        · intro w hSw
          (try dsimp only at hSw)
          first | (go_simp; done) | (go_simp; with_reducible rfl)
        try simp only [Act.put, List.setIfInBounds_toArray, List.set_cons_zero, List.set_cons_succ]
        refine wpAnyH_take (i := 1) (oi := { dst := some 18, op := Op.load 27 (Operand.tmp 17), type := 27, pos := "l08_writer.go:136", after := #[{ on := 0, ground := Ground.data }], guard := none }) (v := ?_) rfl (by kernel_rfl) (by kernel_rfl) (by kernel_rfl) (fun _ _ _ h => h) (Or.inl ⟨by rfl, ?_⟩) (by assumption) ?_
        rotate_left 1
        · intro w hSw
          (try dsimp only at hSw)
          first | (go_simp; done) | (go_simp; with_reducible rfl)
        try simp only [Act.put, List.setIfInBounds_toArray, List.set_cons_zero, List.set_cons_succ]
        refine wpAnyH_take (i := 2) (oi := { dst := some 19, op := Op.move (Operand.tmp 4), type := 3, pos := "l08_writer.go:136", after := #[], guard := none }) (v := ?_) rfl (by kernel_rfl) (by kernel_rfl) (by kernel_rfl) (fun _ _ _ h => h) (Or.inl ⟨by rfl, ?_⟩) (by assumption) ?_
        rotate_left 1
        · intro w hSw
          (try dsimp only at hSw)
          first | (go_simp; done) | (go_simp; with_reducible rfl)
        try simp only [Act.put, List.setIfInBounds_toArray, List.set_cons_zero, List.set_cons_succ]
        refine wpAnyH_take (i := 3) (oi := { dst := some 20, op := Op.fieldAddr 29 (Operand.tmp 3) 1, type := 0, pos := "l08_writer.go:136", after := #[], guard := none }) (v := ?_) rfl (by kernel_rfl) (by kernel_rfl) (by kernel_rfl) (fun _ _ _ h => h) (Or.inl ⟨by rfl, ?_⟩) (by assumption) ?_
        rotate_left 1
        · intro w hSw
          (try dsimp only at hSw)
          first | (go_simp; done) | (go_simp; with_reducible rfl)
        try simp only [Act.put, List.setIfInBounds_toArray, List.set_cons_zero, List.set_cons_succ]
        refine wpAnyH_take (i := 4) (oi := { dst := some 21, op := Op.load 27 (Operand.tmp 20), type := 27, pos := "l08_writer.go:136", after := #[{ on := 3, ground := Ground.data }], guard := none }) (v := ?_) rfl (by kernel_rfl) (by kernel_rfl) (by kernel_rfl) (fun _ _ _ h => h) (Or.inl ⟨by rfl, ?_⟩) (by assumption) ?_
        rotate_left 1
        · intro w hSw
          (try dsimp only at hSw)
          first | (go_simp; done) | (go_simp; with_reducible rfl)
        try simp only [Act.put, List.setIfInBounds_toArray, List.set_cons_zero, List.set_cons_succ]
        refine wpAnyH_take (i := 5) (oi := { dst := some 22, op := Op.move (Operand.tmp 4), type := 3, pos := "l08_writer.go:136", after := #[], guard := none }) (v := ?_) rfl (by kernel_rfl) (by kernel_rfl) (by kernel_rfl) (fun _ _ _ h => h) (Or.inl ⟨by rfl, ?_⟩) (by assumption) ?_
        rotate_left 1
        · intro w hSw
          (try dsimp only at hSw)
          first | (go_simp; done) | (go_simp; with_reducible rfl)
        try simp only [Act.put, List.setIfInBounds_toArray, List.set_cons_zero, List.set_cons_succ]
        refine wpAnyH_take (i := 6) (oi := { dst := some 23, op := Op.indexAddr 27 (Operand.tmp 21) (Operand.tmp 22), type := 0, pos := "l08_writer.go:136", after := #[{ on := 4, ground := Ground.data }, { on := 5, ground := Ground.data }], guard := none }) (v := ?_) rfl (by kernel_rfl) (by kernel_rfl) (by kernel_rfl) (fun _ _ _ h => h) (Or.inl ⟨by rfl, ?_⟩) (by assumption) ?_
        rotate_left 1
        · intro w hSw
          (try dsimp only at hSw)
          first | (go_simp; done) | (go_simp; with_reducible rfl)
        try simp only [Act.put, List.setIfInBounds_toArray, List.set_cons_zero, List.set_cons_succ]
        refine wpAnyH_take (i := 7) (oi := { dst := some 24, op := Op.fieldAddr 35 (Operand.tmp 23) 1, type := 0, pos := "l08_writer.go:136", after := #[{ on := 6, ground := Ground.data }], guard := none }) (v := ?_) rfl (by kernel_rfl) (by kernel_rfl) (by kernel_rfl) (fun _ _ _ h => h) (Or.inl ⟨by rfl, ?_⟩) (by assumption) ?_
        rotate_left 1
        · intro w hSw
          (try dsimp only at hSw)
          first | (go_simp; done) | (go_simp; with_reducible rfl)
        try simp only [Act.put, List.setIfInBounds_toArray, List.set_cons_zero, List.set_cons_succ]
        refine wpAnyH_ready (rs := [8]) (by kernel_rfl) (by simp) ?_
        refine AllReadyH.cons (o := { dst := some 25, op := Op.load 24 (Operand.tmp 24), type := 24, pos := "l08_writer.go:136", after := #[{ on := 7, ground := Ground.data }], guard := none }) rfl (fun K hK => ?_) AllReadyH.nil
        go_simp
        refine hK.out _ _ (by first | exact o0 | exact o5 | exact set_other o5 (.inl (Ne.symm hgne)) | go_keep) (fun hHeld => ?_)
        clear hK K
        try simp only [Act.put, List.setIfInBounds_toArray, List.set_cons_zero, List.set_cons_succ]
        refine wpAnyH_ready (rs := [9]) (by kernel_rfl) (by simp) ?_
        refine AllReadyH.cons (o := { dst := some 26, op := Op.call { callee := Callee.value (Operand.func 145), args := #[Operand.tmp 25], argTypes := #[24] }, type := 24, pos := "l08_writer.go:136", after := #[{ on := 8, ground := Ground.data }], guard := none }) rfl (fun K hK => ?_) AllReadyH.nil
        go_simp
        refine (dUnhide CL _ hbr.drew).mono ?_
        rintro e w5 ⟨⟨u5, rfl, O5'⟩, b5⟩
        obtain ⟨-, qa, qc, rfl, -, -⟩ := O5'.bs
        have hb5 : Below wr.heap.size wr w5 := belowThen hbr.drew b5
        have S5 := dHide (dUnhide ST w5 qa qc hb5 O5')
        have O5 := dHide ((dUnhide hO).below hb5)
        have Y5 := dHide ((dUnhide hY).below hb5)
        have B5 := dHide (belowThen hb hb5)
        have sz5 := hb5.size
        obtain ⟨c5, f5⟩ := dUnhide NZ w5 hb5
        have o5 := ((dUnhide O5).2 1 _ rfl).1
        (try go_wp2_with fail)
        refine hK.out _ _ (by first | exact o0 | exact o5 | exact set_other o5 (.inl (Ne.symm hgne)) | go_keep) (fun hHeld => ?_)
        clear hK K
        try simp only [Act.put, List.setIfInBounds_toArray, List.set_cons_zero, List.set_cons_succ]
        refine wpAnyH_take (i := 10) (oi := { dst := some 27, op := Op.indexAddr 27 (Operand.tmp 18) (Operand.tmp 19), type := 0, pos := "l08_writer.go:136", after := #[{ on := 1, ground := Ground.data }, { on := 2, ground := Ground.data }, { on := 0, ground := Ground.phase }, { on := 1, ground := Ground.phase }, { on := 2, ground := Ground.phase }, { on := 3, ground := Ground.phase }, { on := 4, ground := Ground.phase }, { on := 5, ground := Ground.phase }, { on := 6, ground := Ground.phase }, { on := 7, ground := Ground.phase }, { on := 8, ground := Ground.phase }, { on := 9, ground := Ground.phase }], guard := none }) (v := ?_) rfl (by kernel_rfl) (by kernel_rfl) (by kernel_rfl) (fun _ _ _ h => h) (Or.inl ⟨by rfl, ?_⟩) (by assumption) ?_
        rotate_left 1
        · intro w hSw
          (try dsimp only at hSw)
          first | (go_simp; done) | (go_simp; with_reducible rfl)
        try simp only [Act.put, List.setIfInBounds_toArray, List.set_cons_zero, List.set_cons_succ]
        refine wpAnyH_take (i := 11) (oi := { dst := some 28, op := Op.fieldAddr 35 (Operand.tmp 27) 1, type := 0, pos := "l08_writer.go:136", after := #[{ on := 10, ground := Ground.data }, { on := 0, ground := Ground.phase }, { on := 1, ground := Ground.phase }, { on := 2, ground := Ground.phase }, { on := 3, ground := Ground.phase }, { on := 4, ground := Ground.phase }, { on := 5, ground := Ground.phase }, { on := 6, ground := Ground.phase }, { on := 7, ground := Ground.phase }, { on := 8, ground := Ground.phase }, { on := 9, ground := Ground.phase }], guard := none }) (v := ?_) rfl (by kernel_rfl) (by kernel_rfl) (by kernel_rfl) (fun _ _ _ h => h) (Or.inl ⟨by rfl, ?_⟩) (by assumption) ?_
        rotate_left 1
        · intro w hSw
          (try dsimp only at hSw)
          first | (go_simp; done) | (go_simp; with_reducible rfl)
        try simp only [Act.put, List.setIfInBounds_toArray, List.set_cons_zero, List.set_cons_succ]
        refine wpAnyH_ready (rs := [12]) (by kernel_rfl) (by simp) ?_
        refine AllReadyH.cons (o := { dst := none, op := Op.store 24 (Operand.tmp 28) (Operand.tmp 26), type := 0, pos := "l08_writer.go:136", after := #[{ on := 11, ground := Ground.data }, { on := 9, ground := Ground.data }, { on := 9, ground := Ground.chain }, { on := 0, ground := Ground.phase }, { on := 1, ground := Ground.phase }, { on := 2, ground := Ground.phase }, { on := 3, ground := Ground.phase }, { on := 4, ground := Ground.phase }, { on := 5, ground := Ground.phase }, { on := 6, ground := Ground.phase }, { on := 7, ground := Ground.phase }, { on := 8, ground := Ground.phase }, { on := 9, ground := Ground.phase }], guard := none }) rfl (fun K hK => ?_) AllReadyH.nil
        go_simp
        refine hK.out _ _ (by first | exact o0 | exact o5 | exact set_other o5 (.inl (Ne.symm hgne)) | go_keep) (fun hHeld => ?_)
        clear hK K
        try simp only [Act.put, List.setIfInBounds_toArray, List.set_cons_zero, List.set_cons_succ]
        refine wpAnyH_done (by kernel_rfl) ?_ _
        refine NoPanic.normal ?_
        skip
        go_wp2_with fail
        go_roundw
        case rel => exact ⟨k + 1, _, by go_num, by omega, S5, (dUnhide O5).far (by omega) _, (dUnhide Y5).far (by omega) _, by rw [World.size_setCell]; omega, (dUnhide B5).setCell (p := ⟨g, k * 3 + 1, none⟩) (by simp only; omega) _⟩
        case measure => simp [intOf]; omega
      · have ek : k = rs.length := by omega
        subst ek
        have NF := dHide ((dUnhide hC).done)
        obtain ⟨z0, s0⟩ := (dUnhide hO).2 0 _ rfl
        obtain ⟨z1, s1⟩ := (dUnhide hO).2 1 _ rfl
        obtain ⟨y0, p0⟩ := (dUnhide hY).2 0 _ rfl
        obtain ⟨y1, p1⟩ := (dUnhide hY).2 1 _ rfl
        have YY := dHide (((dUnhide hY).put 0 (.int .i64 tr)).put 1 (.slice ua rs.length uc))
        have OO := dHide (((dUnhide NF).far (b := w.heap.size + 1) (o := 0) (by omega) (.int .i64 tr)).far (b := w.heap.size + 1) (o := 1) (by omega) (.slice ua rs.length uc))
        have BB := dHide ((hb.setCell (p := ⟨w.heap.size + 1, 0, none⟩) (by simp only; omega) (.int .i64 tr)).setCell (p := ⟨w.heap.size + 1, 1, none⟩) (by simp only; omega) (.slice ua rs.length uc))
        clear hC HN HL NF
        go_wp2_with fail
        generalize (wr.setCell ⟨w.heap.size + 1, 0, none⟩ (.int .i64 tr)).setCell ⟨w.heap.size + 1, 1, none⟩ (.slice ua rs.length uc) = V at *
        have q0 := ((dUnhide YY).2 0 _ rfl).1
        have q1 := ((dUnhide YY).2 1 _ rfl).1
        clear z0 z1 s0 s1 y0 y1 p0 p1
        refine bodyPost_ret (v := .agg #[.int .i64 tr, .slice ua rs.length uc]) (by simp [results, Try.results112, go_sem, q0, q1]) rfl ⟨⟨_, rfl, (dUnhide OO).mono (by omega)⟩, dUnhide BB⟩
end Go.Proofs.Ytjbfpmackocgnaa
