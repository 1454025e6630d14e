/- impl's mergeAll, by halves. -/
import Derived.Test.YtoeamgcoeoaijaaUnM
import Derived.Test.YtoeamgcoeoaijaaImFg
import Derived.Test.YtoeamgcoeoaijaaGaB
namespace Go.Proofs.Ytoeamgcoeoaijaa
open Go.ChangeShapes Go.WideShapes Go.ChangeAt Go.RowKit
set_option linter.unusedVariables false
set_option linter.unusedSimpArgs false
set_option maxRecDepth 100000

/-- A list as one cell of a row. -/
def plCl (p : Nst (List Ent)) : List Value := [.slice p.a p.m.length p.c]
theorem plCl_len (p : Nst (List Ent)) : (plCl p).length = 1 := rfl
/-- A row of lists. -/
def RdLs (w : World) (v : Value) (rs : List (Nst (List Ent))) : Prop := Rw 1 plCl w v rs ∧ ∀ p ∈ rs, Rw 4 Ent.cl w (.slice p.a p.m.length p.c) p.m
theorem RdLs.below {w w' : World} {v : Value} {rs : List (Nst (List Ent))} (h : RdLs w v rs) (hb : Below w.heap.size w w') : RdLs w' v rs := ⟨h.1.below hb, fun p hp => (h.2 p hp).below hb⟩
theorem RdLs.cell {w : World} {a : Option Addr} {n c : Nat} {rs : List (Nst (List Ent))} (h : RdLs w (.slice a n c) rs) {k : Nat} (hk : k < rs.length) : ∃ b off, a = some ⟨b, off, none⟩ ∧ ∀ i (hi : i < rs.length), w.cell? ⟨b, off + i, none⟩ = some (.slice rs[i].a rs[i].m.length rs[i].c) := by
  obtain ⟨⟨-, a', cap', e, -, h⟩, -⟩ := h
  cases e
  obtain ⟨b, off, rfl, hc⟩ := orR_of_lt h hk
  refine ⟨b, off, rfl, fun i hi => ?_⟩
  have := hc i hi 0 _ rfl
  simpa using this
theorem RdLs.take {w : World} {a : Option Addr} {n c : Nat} {rs : List (Nst (List Ent))} (h : RdLs w (.slice a n c) rs) {k : Nat} (hk : k ≤ rs.length) : RdLs w (.slice a k c) (rs.take k) := by
  refine ⟨?_, fun p hp => h.2 p (List.mem_of_mem_take hp)⟩
  obtain ⟨⟨h0, a', cap', e, hcap, h⟩, -⟩ := h
  cases e
  have hl : (rs.take k).length = k := by rw [List.length_take]; omega
  refine ⟨by omega, a, c, by rw [hl], by omega, ?_⟩
  rcases h with rfl | ⟨b, off, rfl, hc⟩
  · left; simp
  · right
    refine ⟨b, off, rfl, fun i hi j u hu => hc i (by omega) j u ?_⟩
    rw [List.getElem_take] at hu
    exact hu
theorem RdLs.drop {w : World} {b off n c : Nat} {rs : List (Nst (List Ent))} (h : RdLs w (.slice (some ⟨b, off, none⟩) n c) rs) {k : Nat} (hk : k ≤ rs.length) : RdLs w (.slice (some ⟨b, off + k, none⟩) (rs.length - k) (c - k)) (rs.drop k) := by
  refine ⟨?_, fun p hp => h.2 p (List.mem_of_mem_drop hp)⟩
  obtain ⟨⟨h0, a', cap', e, hcap, h⟩, -⟩ := h
  cases e
  have hl : (rs.drop k).length = rs.length - k := by rw [List.length_drop]
  refine ⟨by omega, _, _, by rw [hl], by omega, ?_⟩
  rcases h with rfl | ⟨b', off', e, hc⟩
  · left; simp
  · right
    cases e
    refine ⟨b, off + k, rfl, fun i hi j u hu => ?_⟩
    rw [List.getElem_drop] at hu
    have := hc (k + i) (by omega) j u hu
    rw [show off + k + i * 1 + j = off + (k + i) * 1 + j by omega]
    exact this
set_option maxHeartbeats 4000000 in
theorem mergeAll_any : ∀ (n : Nat) (v : Value) (rs : List (Nst (List Ent))) (w : World), rs.length = n → RdLs w v rs → rs.length ≤ 1048576 → sumQ (rs.map Nst.m) ≤ 1048576 →
    Calls Try.prog 64 #[v] w fun e w' => (∃ o, e = .returned o ∧ ApE w' w.heap.size o (mrgA (rs.map Nst.m))) ∧ Below w.heap.size w w' := by
  intro n
  induction n using Nat.strongRecOn with
  | ind n ih =>
  intro v rs w hn hv hl hs
  subst hn
  have HV := dHide fun W (hb : Below w.heap.size w W) => hv.below hb
  obtain ⟨h0, a, c, rfl, hc, -⟩ := id hv.1
  rcases Nat.lt_or_ge rs.length 2 with h2 | h2
  · rcases Nat.eq_zero_or_pos rs.length with h1 | h1
    · have e : rs = [] := List.length_eq_zero_iff.1 h1
      subst e
      clear ih hs HV hv h1 h2 hl
      go_enter Try.func64, Try.ntmps64
      go_wp2
      go_ret
      exact ⟨⟨_, rfl, .inl ⟨rfl, _, rfl⟩⟩, Below.refl _ _⟩
    · obtain ⟨p, rfl⟩ : ∃ p, rs = [p] := List.length_eq_one_iff.1 (by omega)
      obtain ⟨b, off, rfl, hce⟩ := hv.cell (k := 0) (by simp)
      have c0 := hce 0 (by simp)
      have hpl : p.m.length ≤ 1048576 := by simpa [sumQ] using hs
      have CC := dHide (copyEntries_any _ p.m w (hv.2 p (by simp)) hpl)
      have HE : Hid (mrgA (List.map Nst.m [p]) = p.m) := mrgA_one _
      simp only [List.getElem_cons_zero, Nat.add_zero] at c0
      clear ih hs HV hv h2 h1 hl hce hpl
      obtain ⟨pa, pc, pm⟩ := p
      simp only at *
      go_enter Try.func64, Try.ntmps64
      go_wp2_with fail
      refine (dUnhide CC).mono ?_
      rintro r w1 ⟨⟨u, rfl, A⟩, b1⟩
      clear CC c0
      go_wp2
      go_ret
      rw [dUnhide HE]
      exact ⟨⟨_, rfl, A⟩, b1⟩
  · obtain ⟨b, off, rfl, -⟩ := hv.cell (k := 0) (by omega)
    have hh : rs.length / 2 < rs.length := by omega
    have hh0 : 0 < rs.length / 2 := by omega
    have l1 : (rs.take (rs.length / 2)).length = rs.length / 2 := by rw [List.length_take]; omega
    have l2 : (rs.drop (rs.length / 2)).length = rs.length - rs.length / 2 := List.length_drop
    have hsum : sumQ ((rs.take (rs.length / 2)).map Nst.m) + sumQ ((rs.drop (rs.length / 2)).map Nst.m) ≤ 1048576 := by
      rw [← sumQ_app, ← List.map_append, List.take_append_drop]
      exact hs
    have C1 := dHide fun W (hb : Below w.heap.size w W) => ih (rs.length / 2) hh _ (rs.take (rs.length / 2)) W l1 ((dUnhide HV W hb).take (by omega)) (by omega) (by omega)
    have C2 := dHide fun W (hb : Below w.heap.size w W) => ih (rs.length - rs.length / 2) (by omega) _ (rs.drop (rs.length / 2)) W l2 ((dUnhide HV W hb).drop (k := rs.length / 2) (by omega)) (by omega) (by omega)
    have HLN : Hid ((mrgA ((rs.take (rs.length / 2)).map Nst.m)).length + (mrgA ((rs.drop (rs.length / 2)).map Nst.m)).length ≤ 1048576) := by
      have q1 := mrgA_len ((rs.take (rs.length / 2)).map Nst.m)
      have q2 := mrgA_len ((rs.drop (rs.length / 2)).map Nst.m)
      rw [Hid]
      omega
    have HEQ : Hid (mrgA (rs.map Nst.m) = mrgL (mrgA ((rs.take (rs.length / 2)).map Nst.m)) (mrgA ((rs.drop (rs.length / 2)).map Nst.m))) := by rw [Hid, ← mrgA_app, ← List.map_append, List.take_append_drop]
    generalize mrgA ((rs.take (rs.length / 2)).map Nst.m) = M1 at *
    generalize mrgA ((rs.drop (rs.length / 2)).map Nst.m) = M2 at *
    have hq : ((rs.length : Int) / 2) = ((rs.length / 2 : Nat) : Int) := by omega
    have hq2 : ((rs.length : Int).tdiv 2) = ((rs.length / 2 : Nat) : Int) := by rw [Int.tdiv_eq_ediv_of_nonneg (by omega)]; exact hq
    have e0 : ((rs.length : Int) == 0) = false := by rw [beq_eq_false_iff_ne]; omega
    have e1 : ((rs.length : Int) == 1) = false := by rw [beq_eq_false_iff_ne]; omega
    generalize rs.length / 2 = hf at *
    generalize hrl : rs.length = k at *
    have f1 : hf ≤ c := by omega
    have f2 : hf ≤ k := by omega
    have f3 : ¬ c = hf := by omega
    have hbr := Below.refl w.heap.size w
    clear ih hs HV hv hsum l1 l2 hrl
    go_enter Try.func64, Try.ntmps64
    go_wp2
    refine wp_region_noPanic ?_
    refine wp_region_held_drew (S := fun W => True) (by kernel_rfl) (trivial) (fun hHeld => ?_)
    refine wpAnyH_take (i := 0) (oi := { dst := some 17, op := Op.move (Operand.tmp 0), type := 89, pos := "l11_fill.go:44", after := #[], guard := none }) (v := ?_) rfl (by kernel_rfl) (by kernel_rfl) (by kernel_rfl) (fun _ _ _ h => h) (Or.inl ⟨by rfl, ?_⟩) (by assumption) ?_
    rotate_left 1
    · intro w hSw
      (try dsimp only at hSw)
      first | (go_simp; done) | (go_simp; with_reducible rfl)
    try simp only [Act.put, List.setIfInBounds_toArray, List.set_cons_zero, List.set_cons_succ]
    refine wpAnyH_take (i := 1) (oi := { dst := some 18, op := Op.move (Operand.tmp 3), type := 3, pos := "l11_fill.go:44", after := #[], guard := none }) (v := ?_) rfl (by kernel_rfl) (by kernel_rfl) (by kernel_rfl) (fun _ _ _ h => h) (Or.inl ⟨by rfl, ?_⟩) (by assumption) ?_
    rotate_left 1
    · intro w hSw
      (try dsimp only at hSw)
      first | (go_simp; done) | (go_simp; with_reducible rfl)
    try simp only [Act.put, List.setIfInBounds_toArray, List.set_cons_zero, List.set_cons_succ]
    refine wpAnyH_take (i := 2) (oi := { dst := some 19, op := Op.slice 89 (Operand.tmp 17) none (some (Operand.tmp 18)) none, type := 89, pos := "l11_fill.go:44", after := #[{ on := 0, ground := Ground.data }, { on := 1, ground := Ground.data }], guard := none }) (v := ?_) rfl (by kernel_rfl) (by kernel_rfl) (by kernel_rfl) (fun _ _ _ h => h) (Or.inl ⟨by rfl, ?_⟩) (by assumption) ?_
    rotate_left 1
    · intro w hSw
      (try dsimp only at hSw)
      first | (go_simp; done) | (go_simp; with_reducible rfl)
    try simp only [Act.put, List.setIfInBounds_toArray, List.set_cons_zero, List.set_cons_succ]
    refine wpAnyH_take (i := 4) (oi := { dst := some 21, op := Op.move (Operand.tmp 0), type := 89, pos := "l11_fill.go:44", after := #[], guard := none }) (v := ?_) rfl (by kernel_rfl) (by kernel_rfl) (by kernel_rfl) (fun _ _ _ h => h) (Or.inl ⟨by rfl, ?_⟩) (by assumption) ?_
    rotate_left 1
    · intro w hSw
      (try dsimp only at hSw)
      first | (go_simp; done) | (go_simp; with_reducible rfl)
    try simp only [Act.put, List.setIfInBounds_toArray, List.set_cons_zero, List.set_cons_succ]
    refine wpAnyH_take (i := 5) (oi := { dst := some 22, op := Op.move (Operand.tmp 3), type := 3, pos := "l11_fill.go:44", after := #[], guard := none }) (v := ?_) rfl (by kernel_rfl) (by kernel_rfl) (by kernel_rfl) (fun _ _ _ h => h) (Or.inl ⟨by rfl, ?_⟩) (by assumption) ?_
    rotate_left 1
    · intro w hSw
      (try dsimp only at hSw)
      first | (go_simp; done) | (go_simp; with_reducible rfl)
    try simp only [Act.put, List.setIfInBounds_toArray, List.set_cons_zero, List.set_cons_succ]
    refine wpAnyH_take (i := 6) (oi := { dst := some 23, op := Op.slice 89 (Operand.tmp 21) (some (Operand.tmp 22)) none none, type := 89, pos := "l11_fill.go:44", after := #[{ on := 4, ground := Ground.data }, { on := 5, ground := Ground.data }], guard := none }) (v := ?_) rfl (by kernel_rfl) (by kernel_rfl) (by kernel_rfl) (fun _ _ _ h => h) (Or.inl ⟨by rfl, ?_⟩) (by assumption) ?_
    rotate_left 1
    · intro w hSw
      (try dsimp only at hSw)
      first | (go_simp; done) | (go_simp; with_reducible rfl)
    try simp only [Act.put, List.setIfInBounds_toArray, List.set_cons_zero, List.set_cons_succ]
    refine wpAnyH_ready (rs := [3]) (by kernel_rfl) (by simp) ?_
    refine AllReadyH.cons (o := { dst := some 20, op := Op.call { callee := Callee.value (Operand.func 64), args := #[Operand.tmp 19], argTypes := #[89] }, type := 26, pos := "l11_fill.go:44", after := #[{ on := 2, ground := Ground.data }], guard := none }) rfl (fun K hK => ?_) AllReadyH.nil
    go_simp
    refine (dUnhide C1 _ (hbr.drew)).mono ?_
    rintro r w5 ⟨⟨o1, rfl, A1⟩, b5⟩
    have hb5 := belowThen (hbr.drew) b5
    have HA1 := dHide (A1.mono (base' := w.heap.size) (hbr.drew).size)
    clear A1 b5
    (try go_wp2_with fail)
    refine hK.out _ _ (trivial) (fun hHeld => ?_)
    clear hK K
    try simp only [Act.put, List.setIfInBounds_toArray, List.set_cons_zero, List.set_cons_succ]
    refine wpAnyH_ready (rs := [7]) (by kernel_rfl) (by simp) ?_
    refine AllReadyH.cons (o := { dst := some 24, op := Op.call { callee := Callee.value (Operand.func 64), args := #[Operand.tmp 23], argTypes := #[89] }, type := 26, pos := "l11_fill.go:44", after := #[{ on := 6, ground := Ground.data }, { on := 3, ground := Ground.chain }], guard := none }) rfl (fun K hK => ?_) AllReadyH.nil
    go_simp
    refine (dUnhide C2 _ hb5).mono ?_
    rintro r w6 ⟨⟨o2, rfl, A2⟩, b6⟩
    have hb6 := belowThen hb5 b6
    have R1 := dHide ((ApR.own elemE (dUnhide HA1)).rw.below b6)
    have R2 := dHide (ApR.own elemE A2).rw
    clear A2 b6 HA1
    (try go_wp2_with fail)
    refine hK.out _ _ (trivial) (fun hHeld => ?_)
    clear hK K
    try simp only [Act.put, List.setIfInBounds_toArray, List.set_cons_zero, List.set_cons_succ]
    refine wpAnyH_ready (rs := [8]) (by kernel_rfl) (by simp) ?_
    refine AllReadyH.cons (o := { dst := some 25, op := Op.call { callee := Callee.value (Operand.func 90), args := #[Operand.tmp 20, Operand.tmp 24], argTypes := #[26, 26] }, type := 26, pos := "l11_fill.go:44", after := #[{ on := 3, ground := Ground.data }, { on := 7, ground := Ground.data }, { on := 7, ground := Ground.chain }], guard := none }) rfl (fun K hK => ?_) AllReadyH.nil
    go_simp
    refine (mergeTwo_any _ _ _ _ w6 (dUnhide R1) (dUnhide R2) (dUnhide HLN)).mono ?_
    rintro r w7 ⟨⟨o3, rfl, A3⟩, b7⟩
    have hb7 := belowThen hb6 b7
    have A4 := dHide (A3.mono (base' := w.heap.size) hb6.size)
    clear A3 b7
    (try go_wp2_with fail)
    refine hK.out _ _ (trivial) (fun hHeld => ?_)
    clear hK K
    try simp only [Act.put, List.setIfInBounds_toArray, List.set_cons_zero, List.set_cons_succ]
    refine wpAnyH_take (i := 9) (oi := { dst := some 2, op := Op.assign (Operand.tmp 25), type := 26, pos := "l11_fill.go:44", after := #[{ on := 8, ground := Ground.data }, { on := 8, ground := Ground.chain }, { on := 0, ground := Ground.phase }, { on := 1, ground := Ground.phase }, { on := 2, ground := Ground.phase }, { on := 3, ground := Ground.phase }, { on := 4, ground := Ground.phase }, { on := 5, ground := Ground.phase }, { on := 6, ground := Ground.phase }, { on := 7, ground := Ground.phase }, { on := 8, ground := Ground.phase }], guard := none }) (v := ?_) rfl (by kernel_rfl) (by kernel_rfl) (by kernel_rfl) (fun _ _ _ h => h) (Or.inl ⟨by rfl, ?_⟩) (by assumption) ?_
    rotate_left 1
    · intro w hSw
      (try dsimp only at hSw)
      first | (go_simp; done) | (go_simp; with_reducible rfl)
    try simp only [Act.put, List.setIfInBounds_toArray, List.set_cons_zero, List.set_cons_succ]
    refine wpAnyH_done (by kernel_rfl) ?_ _
    refine NoPanic.normal ?_
    go_wp2
    go_ret
    rw [dUnhide HEQ]
    exact ⟨⟨_, rfl, dUnhide A4⟩, hb7⟩
end Go.Proofs.Ytoeamgcoeoaijaa
