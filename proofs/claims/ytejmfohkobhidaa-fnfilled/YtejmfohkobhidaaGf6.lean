/- Several texts in one: UnR, UnU. -/
import Derived.Test.YtejmfohkobhidaaUnM
import Derived.Test.YtejmfohkobhidaaImFg
import Derived.Test.YtejmfohkobhidaaGaB
import Derived.Test.YtejmfohkobhidaaUnS
import Derived.Test.YtejmfohkobhidaaUsB
namespace Go.Proofs.Ytejmfohkobhidaa
open Go.ChangeShapes Go.WideShapes Go.ChangeAt Go.RowKit
set_option linter.unusedVariables false
set_option linter.unusedSimpArgs false
set_option maxRecDepth 100000

/-- A list as one cell of a row. -/
def plCl (p : Nst (List Ent)) : List Value := [.slice p.a p.m.length p.c]
theorem plCl_len (p : Nst (List Ent)) : (plCl p).length = 1 := rfl
/-- A row of lists. -/
def RdLs (w : World) (v : Value) (rs : List (Nst (List Ent))) : Prop := Rw 1 plCl w v rs ∧ ∀ p ∈ rs, Rw 4 Ent.cl w (.slice p.a p.m.length p.c) p.m
theorem RdLs.below {w w' : World} {v : Value} {rs : List (Nst (List Ent))} (h : RdLs w v rs) (hb : Below w.heap.size w w') : RdLs w' v rs := ⟨h.1.below hb, fun p hp => (h.2 p hp).below hb⟩
theorem RdLs.cell {w : World} {a : Option Addr} {n c : Nat} {rs : List (Nst (List Ent))} (h : RdLs w (.slice a n c) rs) {k : Nat} (hk : k < rs.length) : ∃ b off, a = some ⟨b, off, none⟩ ∧ ∀ i (hi : i < rs.length), w.cell? ⟨b, off + i, none⟩ = some (.slice rs[i].a rs[i].m.length rs[i].c) := by
  obtain ⟨⟨-, a', cap', e, -, h⟩, -⟩ := h
  cases e
  obtain ⟨b, off, rfl, hc⟩ := orR_of_lt h hk
  refine ⟨b, off, rfl, fun i hi => ?_⟩
  have := hc i hi 0 _ rfl
  simpa using this
theorem RdLs.take {w : World} {a : Option Addr} {n c : Nat} {rs : List (Nst (List Ent))} (h : RdLs w (.slice a n c) rs) {k : Nat} (hk : k ≤ rs.length) : RdLs w (.slice a k c) (rs.take k) := by
  refine ⟨?_, fun p hp => h.2 p (List.mem_of_mem_take hp)⟩
  obtain ⟨⟨h0, a', cap', e, hcap, h⟩, -⟩ := h
  cases e
  have hl : (rs.take k).length = k := by rw [List.length_take]; omega
  refine ⟨by omega, a, c, by rw [hl], by omega, ?_⟩
  rcases h with rfl | ⟨b, off, rfl, hc⟩
  · left; simp
  · right
    refine ⟨b, off, rfl, fun i hi j u hu => hc i (by omega) j u ?_⟩
    rw [List.getElem_take] at hu
    exact hu
theorem RdLs.drop {w : World} {b off n c : Nat} {rs : List (Nst (List Ent))} (h : RdLs w (.slice (some ⟨b, off, none⟩) n c) rs) {k : Nat} (hk : k ≤ rs.length) : RdLs w (.slice (some ⟨b, off + k, none⟩) (rs.length - k) (c - k)) (rs.drop k) := by
  refine ⟨?_, fun p hp => h.2 p (List.mem_of_mem_drop hp)⟩
  obtain ⟨⟨h0, a', cap', e, hcap, h⟩, -⟩ := h
  cases e
  have hl : (rs.drop k).length = rs.length - k := by rw [List.length_drop]
  refine ⟨by omega, _, _, by rw [hl], by omega, ?_⟩
  rcases h with rfl | ⟨b', off', e, hc⟩
  · left; simp
  · right
    cases e
    refine ⟨b, off + k, rfl, fun i hi j u hu => ?_⟩
    rw [List.getElem_drop] at hu
    have := hc (k + i) (by omega) j u hu
    rw [show off + k + i * 1 + j = off + (k + i) * 1 + j by omega]
    exact this
set_option maxHeartbeats 4000000 in
theorem mergeAll_any : ∀ (n : Nat) (v : Value) (rs : List (Nst (List Ent))) (w : World), rs.length = n → RdLs w v rs → rs.length ≤ 1048576 → sumQ (rs.map Nst.m) ≤ 1048576 →
    Calls Try.prog 80 #[v] w fun e w' => (∃ o, e = .returned o ∧ ApE w' w.heap.size o (mrgA (rs.map Nst.m))) ∧ Below w.heap.size w w' := by
  intro n
  induction n using Nat.strongRecOn with
  | ind n ih =>
  intro v rs w hn hv hl hs
  subst hn
  have HV := dHide fun W (hb : Below w.heap.size w W) => hv.below hb
  obtain ⟨h0, a, c, rfl, hc, -⟩ := id hv.1
  rcases Nat.lt_or_ge rs.length 2 with h2 | h2
  · rcases Nat.eq_zero_or_pos rs.length with h1 | h1
    · have e : rs = [] := List.length_eq_zero_iff.1 h1
      subst e
      clear ih hs HV hv h1 h2 hl
      go_enter Try.func80, Try.ntmps80
      go_wp2
      go_ret
      exact ⟨⟨_, rfl, .inl ⟨rfl, _, rfl⟩⟩, Below.refl _ _⟩
    · obtain ⟨p, rfl⟩ : ∃ p, rs = [p] := List.length_eq_one_iff.1 (by omega)
      obtain ⟨b, off, rfl, hce⟩ := hv.cell (k := 0) (by simp)
      have c0 := hce 0 (by simp)
      have hpl : p.m.length ≤ 1048576 := by simpa [sumQ] using hs
      have CC := dHide (copyEntries_any _ p.m w (hv.2 p (by simp)) hpl)
      have HE : Hid (mrgA (List.map Nst.m [p]) = p.m) := mrgA_one _
      simp only [List.getElem_cons_zero, Nat.add_zero] at c0
      clear ih hs HV hv h2 h1 hl hce hpl
      obtain ⟨pa, pc, pm⟩ := p
      simp only at *
      go_enter Try.func80, Try.ntmps80
      go_wp2_with fail
      refine (dUnhide CC).mono ?_
      rintro r w1 ⟨⟨u, rfl, A⟩, b1⟩
      clear CC c0
      go_wp2
      go_ret
      rw [dUnhide HE]
      exact ⟨⟨_, rfl, A⟩, b1⟩
  · obtain ⟨b, off, rfl, -⟩ := hv.cell (k := 0) (by omega)
    have hh : rs.length / 2 < rs.length := by omega
    have hh0 : 0 < rs.length / 2 := by omega
    have l1 : (rs.take (rs.length / 2)).length = rs.length / 2 := by rw [List.length_take]; omega
    have l2 : (rs.drop (rs.length / 2)).length = rs.length - rs.length / 2 := List.length_drop
    have hsum : sumQ ((rs.take (rs.length / 2)).map Nst.m) + sumQ ((rs.drop (rs.length / 2)).map Nst.m) ≤ 1048576 := by
      rw [← sumQ_app, ← List.map_append, List.take_append_drop]
      exact hs
    have C1 := dHide fun W (hb : Below w.heap.size w W) => ih (rs.length / 2) hh _ (rs.take (rs.length / 2)) W l1 ((dUnhide HV W hb).take (by omega)) (by omega) (by omega)
    have C2 := dHide fun W (hb : Below w.heap.size w W) => ih (rs.length - rs.length / 2) (by omega) _ (rs.drop (rs.length / 2)) W l2 ((dUnhide HV W hb).drop (k := rs.length / 2) (by omega)) (by omega) (by omega)
    have HLN : Hid ((mrgA ((rs.take (rs.length / 2)).map Nst.m)).length + (mrgA ((rs.drop (rs.length / 2)).map Nst.m)).length ≤ 1048576) := by
      have q1 := mrgA_len ((rs.take (rs.length / 2)).map Nst.m)
      have q2 := mrgA_len ((rs.drop (rs.length / 2)).map Nst.m)
      rw [Hid]
      omega
    have HEQ : Hid (mrgA (rs.map Nst.m) = mrgL (mrgA ((rs.take (rs.length / 2)).map Nst.m)) (mrgA ((rs.drop (rs.length / 2)).map Nst.m))) := by rw [Hid, ← mrgA_app, ← List.map_append, List.take_append_drop]
    generalize mrgA ((rs.take (rs.length / 2)).map Nst.m) = M1 at *
    generalize mrgA ((rs.drop (rs.length / 2)).map Nst.m) = M2 at *
    have hq : ((rs.length : Int) / 2) = ((rs.length / 2 : Nat) : Int) := by omega
    have hq2 : ((rs.length : Int).tdiv 2) = ((rs.length / 2 : Nat) : Int) := by rw [Int.tdiv_eq_ediv_of_nonneg (by omega)]; exact hq
    have e0 : ((rs.length : Int) == 0) = false := by rw [beq_eq_false_iff_ne]; omega
    have e1 : ((rs.length : Int) == 1) = false := by rw [beq_eq_false_iff_ne]; omega
    generalize rs.length / 2 = hf at *
    generalize hrl : rs.length = k at *
    have f1 : hf ≤ c := by omega
    have f2 : hf ≤ k := by omega
    have f3 : ¬ c = hf := by omega
    have hbr := Below.refl w.heap.size w
    clear ih hs HV hv hsum l1 l2 hrl
    go_enter Try.func80, Try.ntmps80
    go_wp2
    refine wp_region_noPanic ?_
    refine wp_region_held_drew (S := fun W => True) (by kernel_rfl) (trivial) (fun hHeld => ?_)
    refine wpAnyH_take (i := 0) (oi := { dst := some 17, op := Op.move (Operand.tmp 0), type := 93, pos := "l11_fill.go:44", after := #[], guard := none }) (v := ?_) rfl (by kernel_rfl) (by kernel_rfl) (by kernel_rfl) (fun _ _ _ h => h) (Or.inl ⟨by rfl, ?_⟩) (by assumption) ?_
    rotate_left 1
    · intro w hSw
      (try dsimp only at hSw)
      first | (go_simp; done) | (go_simp; with_reducible rfl)
    try simp only [Act.put, List.setIfInBounds_toArray, List.set_cons_zero, List.set_cons_succ]
    refine wpAnyH_take (i := 1) (oi := { dst := some 18, op := Op.move (Operand.tmp 3), type := 3, pos := "l11_fill.go:44", after := #[], guard := none }) (v := ?_) rfl (by kernel_rfl) (by kernel_rfl) (by kernel_rfl) (fun _ _ _ h => h) (Or.inl ⟨by rfl, ?_⟩) (by assumption) ?_
    rotate_left 1
    · intro w hSw
      (try dsimp only at hSw)
      first | (go_simp; done) | (go_simp; with_reducible rfl)
    try simp only [Act.put, List.setIfInBounds_toArray, List.set_cons_zero, List.set_cons_succ]
    refine wpAnyH_take (i := 2) (oi := { dst := some 19, op := Op.slice 93 (Operand.tmp 17) none (some (Operand.tmp 18)) none, type := 93, pos := "l11_fill.go:44", after := #[{ on := 0, ground := Ground.data }, { on := 1, ground := Ground.data }], guard := none }) (v := ?_) rfl (by kernel_rfl) (by kernel_rfl) (by kernel_rfl) (fun _ _ _ h => h) (Or.inl ⟨by rfl, ?_⟩) (by assumption) ?_
    rotate_left 1
    · intro w hSw
      (try dsimp only at hSw)
      first | (go_simp; done) | (go_simp; with_reducible rfl)
    try simp only [Act.put, List.setIfInBounds_toArray, List.set_cons_zero, List.set_cons_succ]
    refine wpAnyH_take (i := 4) (oi := { dst := some 21, op := Op.move (Operand.tmp 0), type := 93, pos := "l11_fill.go:44", after := #[], guard := none }) (v := ?_) rfl (by kernel_rfl) (by kernel_rfl) (by kernel_rfl) (fun _ _ _ h => h) (Or.inl ⟨by rfl, ?_⟩) (by assumption) ?_
    rotate_left 1
    · intro w hSw
      (try dsimp only at hSw)
      first | (go_simp; done) | (go_simp; with_reducible rfl)
    try simp only [Act.put, List.setIfInBounds_toArray, List.set_cons_zero, List.set_cons_succ]
    refine wpAnyH_take (i := 5) (oi := { dst := some 22, op := Op.move (Operand.tmp 3), type := 3, pos := "l11_fill.go:44", after := #[], guard := none }) (v := ?_) rfl (by kernel_rfl) (by kernel_rfl) (by kernel_rfl) (fun _ _ _ h => h) (Or.inl ⟨by rfl, ?_⟩) (by assumption) ?_
    rotate_left 1
    · intro w hSw
      (try dsimp only at hSw)
      first | (go_simp; done) | (go_simp; with_reducible rfl)
    try simp only [Act.put, List.setIfInBounds_toArray, List.set_cons_zero, List.set_cons_succ]
    refine wpAnyH_take (i := 6) (oi := { dst := some 23, op := Op.slice 93 (Operand.tmp 21) (some (Operand.tmp 22)) none none, type := 93, pos := "l11_fill.go:44", after := #[{ on := 4, ground := Ground.data }, { on := 5, ground := Ground.data }], guard := none }) (v := ?_) rfl (by kernel_rfl) (by kernel_rfl) (by kernel_rfl) (fun _ _ _ h => h) (Or.inl ⟨by rfl, ?_⟩) (by assumption) ?_
    rotate_left 1
    · intro w hSw
      (try dsimp only at hSw)
      first | (go_simp; done) | (go_simp; with_reducible rfl)
    try simp only [Act.put, List.setIfInBounds_toArray, List.set_cons_zero, List.set_cons_succ]
    refine wpAnyH_ready (rs := [3]) (by kernel_rfl) (by simp) ?_
    refine AllReadyH.cons (o := { dst := some 20, op := Op.call { callee := Callee.value (Operand.func 80), args := #[Operand.tmp 19], argTypes := #[93] }, type := 24, pos := "l11_fill.go:44", after := #[{ on := 2, ground := Ground.data }], guard := none }) rfl (fun K hK => ?_) AllReadyH.nil
    go_simp
    refine (dUnhide C1 _ (hbr.drew)).mono ?_
    rintro r w5 ⟨⟨o1, rfl, A1⟩, b5⟩
    have hb5 := belowThen (hbr.drew) b5
    have HA1 := dHide (A1.mono (base' := w.heap.size) (hbr.drew).size)
    clear A1 b5
    (try go_wp2_with fail)
    refine hK.out _ _ (trivial) (fun hHeld => ?_)
    clear hK K
    try simp only [Act.put, List.setIfInBounds_toArray, List.set_cons_zero, List.set_cons_succ]
    refine wpAnyH_ready (rs := [7]) (by kernel_rfl) (by simp) ?_
    refine AllReadyH.cons (o := { dst := some 24, op := Op.call { callee := Callee.value (Operand.func 80), args := #[Operand.tmp 23], argTypes := #[93] }, type := 24, pos := "l11_fill.go:44", after := #[{ on := 6, ground := Ground.data }, { on := 3, ground := Ground.chain }], guard := none }) rfl (fun K hK => ?_) AllReadyH.nil
    go_simp
    refine (dUnhide C2 _ hb5).mono ?_
    rintro r w6 ⟨⟨o2, rfl, A2⟩, b6⟩
    have hb6 := belowThen hb5 b6
    have R1 := dHide ((ApR.own elemE (dUnhide HA1)).rw.below b6)
    have R2 := dHide (ApR.own elemE A2).rw
    clear A2 b6 HA1
    (try go_wp2_with fail)
    refine hK.out _ _ (trivial) (fun hHeld => ?_)
    clear hK K
    try simp only [Act.put, List.setIfInBounds_toArray, List.set_cons_zero, List.set_cons_succ]
    refine wpAnyH_ready (rs := [8]) (by kernel_rfl) (by simp) ?_
    refine AllReadyH.cons (o := { dst := some 25, op := Op.call { callee := Callee.value (Operand.func 95), args := #[Operand.tmp 20, Operand.tmp 24], argTypes := #[24, 24] }, type := 24, pos := "l11_fill.go:44", after := #[{ on := 3, ground := Ground.data }, { on := 7, ground := Ground.data }, { on := 7, ground := Ground.chain }], guard := none }) rfl (fun K hK => ?_) AllReadyH.nil
    go_simp
    refine (mergeTwo_any _ _ _ _ w6 (dUnhide R1) (dUnhide R2) (dUnhide HLN)).mono ?_
    rintro r w7 ⟨⟨o3, rfl, A3⟩, b7⟩
    have hb7 := belowThen hb6 b7
    have A4 := dHide (A3.mono (base' := w.heap.size) hb6.size)
    clear A3 b7
    (try go_wp2_with fail)
    refine hK.out _ _ (trivial) (fun hHeld => ?_)
    clear hK K
    try simp only [Act.put, List.setIfInBounds_toArray, List.set_cons_zero, List.set_cons_succ]
    refine wpAnyH_take (i := 9) (oi := { dst := some 2, op := Op.assign (Operand.tmp 25), type := 24, pos := "l11_fill.go:44", after := #[{ on := 8, ground := Ground.data }, { on := 8, ground := Ground.chain }, { on := 0, ground := Ground.phase }, { on := 1, ground := Ground.phase }, { on := 2, ground := Ground.phase }, { on := 3, ground := Ground.phase }, { on := 4, ground := Ground.phase }, { on := 5, ground := Ground.phase }, { on := 6, ground := Ground.phase }, { on := 7, ground := Ground.phase }, { on := 8, ground := Ground.phase }], guard := none }) (v := ?_) rfl (by kernel_rfl) (by kernel_rfl) (by kernel_rfl) (fun _ _ _ h => h) (Or.inl ⟨by rfl, ?_⟩) (by assumption) ?_
    rotate_left 1
    · intro w hSw
      (try dsimp only at hSw)
      first | (go_simp; done) | (go_simp; with_reducible rfl)
    try simp only [Act.put, List.setIfInBounds_toArray, List.set_cons_zero, List.set_cons_succ]
    refine wpAnyH_done (by kernel_rfl) ?_ _
    refine NoPanic.normal ?_
    go_wp2
    go_ret
    rw [dUnhide HEQ]
    exact ⟨⟨_, rfl, dUnhide A4⟩, hb7⟩
end Go.Proofs.Ytejmfohkobhidaa
namespace Go.Proofs.Ytejmfohkobhidaa
open Go.ChangeShapes Go.WideShapes Go.ChangeAt Go.RowKit
set_option linter.unusedVariables false
set_option linter.unusedSimpArgs false
set_option maxRecDepth 100000

theorem elemP : Elem (α := Nst (List Ent)) 24 93 (.slice none 0 0) 1 24 plCl where
  under := Try.underlying93
  info := by kernel_rfl
  zcells := by kernel_rfl
  pos := by decide
  len := plCl_len
  one := fun a u hu => by
    simp only [plCl, List.mem_cons, List.not_mem_nil, or_false] at hu
    subst hu
    rfl
theorem makeP (n : Nat) (h : n ≤ 1073741824) (w : World) : (Instr.makeSlice 93 (.int .i64 (n : Int)) (.int .i64 (n : Int))).run Try.prog w = .ok (.slice (some ⟨w.heap.size, 0, none⟩) n n) (w.alloc (.cells (madeCells (Value.slice none 0 0).cells (n * 1)) 24)) := by
  obtain ⟨i0, hi, hz0, hz1, hz2⟩ := info_parts (elemP).info
  have := run_make (P := Try.prog) w 93 24 i0 _ Try.underlying93 hi hz0 .i64 .i64 (n : Int) (n : Int) (by omega) (by omega) (by rw [hz2]; omega) (by omega)
  rw [hz1] at this
  simpa using this
def zeroPl : Nst (List Ent) := ⟨none, 0, []⟩
theorem zeroPl_cells : ∀ (j : Nat) (u : Value), (plCl zeroPl)[j]? = some u → (Value.slice none 0 0).cells[j]? = some u := by
  have e : (Value.slice none 0 0).cells = #[.slice none 0 0] := by kernel_rfl
  intro j u hu
  rw [e]
  have : (plCl zeroPl) = [.slice none 0 0] := rfl
  rw [this] at hu
  simpa using hu
/-- A store's kept list. -/
def plOf (p : Ps) : Nst (List Ent) := ⟨p.ka, p.kc, p.m.kept⟩
/-- What unionOf answers. -/
def AnsU (b0 : Nat) (ms : List St) (e : Ending) (w' : World) : Prop := ∃ u b, e = .returned (.tuple #[u, .bool b]) ∧ ApE w' b0 u (unM ms) ∧ (b = true ↔ ∀ m ∈ ms, stP m)
theorem psVal_kept {p : Ps} {W : World} (h : RdStore (psVal p) p.m W) : Rw 4 Ent.cl W (.slice p.ka p.m.kept.length p.kc) p.m.kept := by
  obtain ⟨kv, lv, e, h1, -⟩ := h
  simp [psVal] at e
  obtain ⟨rfl, rfl⟩ := e
  exact h1
set_option maxHeartbeats 4000000 in
theorem unionOf_any (v : Value) (ms : List St) (w : World) (hv : RdStoreS v ms w) (hf : ∀ m ∈ ms, fitS m) (hl : ms.length + sumQ (kepts ms) ≤ 1048576) :
    Calls Try.prog 52 #[v] w fun e w' => AnsU w.heap.size ms e w' ∧ Below w.heap.size w w' := by
  have ba : ∀ (w : World) o, Below w.heap.size w (w.alloc o) := fun w o => (Below.refl _ _).alloc (Nat.le_refl _) o
  have EY := dHide (unM_yes (ms := ms))
  have EN := dHide (unM_no (ms := ms))
  obtain ⟨rs, rfl, hr, hn⟩ := hv
  have hlen : rs.length ≤ 1048576 := by rw [List.length_map] at hl; omega
  have HV := dHide fun W (hb : Below w.heap.size w W) => hr.below hb
  have CS := dHide fun k (hk : k < rs.length) W (hb : Below w.heap.size w W) => implStoreOk_any (psVal rs[k]) rs[k].m W ((hn _ (List.getElem_mem hk)).below hb) (hf _ (List.mem_map.2 ⟨_, List.getElem_mem hk, rfl⟩))
  have HBAD : Hid (∀ k (hk : k < rs.length), ¬ stP rs[k].m → ∀ W, AnsU w.heap.size (rs.map Ps.m) (.returned (.tuple #[.slice none 0 0, .bool false])) W) := fun k hk h W => by
    have hno : ¬ ∀ m ∈ rs.map Ps.m, stP m := fun h' => h (h' _ (List.mem_map.2 ⟨_, List.getElem_mem hk, rfl⟩))
    exact ⟨_, _, rfl, .inl ⟨dUnhide EN hno, _, rfl⟩, ⟨fun h => (by cases h), fun h => absurd h hno⟩⟩
  have HGOOD : Hid ((∀ k (hk : k < rs.length), stP rs[k].m) → mrgA ((rs.map plOf).map Nst.m) = unM (rs.map Ps.m) ∧ ∀ m ∈ rs.map Ps.m, stP m) := fun h => by
    have hall : ∀ m ∈ rs.map Ps.m, stP m := fun m hm => by
      obtain ⟨p, hp, rfl⟩ := List.mem_map.1 hm
      obtain ⟨i, hi, rfl⟩ := List.getElem_of_mem hp
      exact h i hi
    refine ⟨?_, hall⟩
    rw [dUnhide EY hall]
    have e : (rs.map plOf).map Nst.m = kepts (rs.map Ps.m) := by simp [kepts, plOf]
    rw [e]
    refine mrgA_unL fun l hl => ?_
    obtain ⟨m, hm, rfl⟩ := List.mem_map.1 hl
    exact (ascE_iff _).1 (hall m hm).2.2.1
  have CM : Hid (∀ W, Below w.heap.size w W → ∀ f : Nat → Nst (List Ent), RowG 1 plCl W w.heap.size 0 rs.length f → (∀ i (h : i < rs.length), f i = plOf rs[i]) → Calls Try.prog 80 #[.slice (some ⟨w.heap.size, 0, none⟩) rs.length rs.length] W fun e w' => (∃ o, e = .returned o ∧ ApE w' W.heap.size o (mrgA ((rs.map plOf).map Nst.m))) ∧ Below W.heap.size W w') := fun W hb f hR hF => by
    have hl1 : (rs.map plOf).length = rs.length := by simp
    have q := hR.own (es := rs.map plOf) (base := w.heap.size) (cap := rs.length) hl1.symm (fun i hi => by rw [List.getElem_map]; exact hF i (by omega)) (Nat.le_refl _) (by omega) (by omega)
    rw [hl1] at q
    refine mergeAll_any _ _ (rs.map plOf) W rfl ⟨q.rw, fun p hp => ?_⟩ (by omega) ?_
    · obtain ⟨p', hp', rfl⟩ := List.mem_map.1 hp
      exact (psVal_kept (hn p' hp')).below hb
    · have e : (rs.map plOf).map Nst.m = kepts (rs.map Ps.m) := by simp [kepts, plOf]
      rw [e]
      rw [List.length_map] at hl
      omega
  obtain ⟨h0, a, cap, rfl, -, -⟩ := hr
  have hmk := makeP rs.length (by omega)
  have R0 : RowG 1 plCl (w.alloc (.cells (madeCells #[.slice none 0 0] rs.length) 24)) w.heap.size 0 rs.length (fun _ => zeroPl) := by
    have q := RowG.made (sz := 1) w (Value.slice none 0 0).cells rs.length 24 zeroPl rfl zeroPl_cells
    rw [Nat.mul_one] at q
    exact q
  generalize mrgA ((rs.map plOf).map Nst.m) = MG at *
  clear hn hf hl EY EN
  go_enter Try.func52, Try.ntmps52
  go_wp2
  go_loopw [12] (fun x wr => ∃ (k : Nat) (f : Nat → Nst (List Ent)), x = .int .i64 (k : Int) ∧ k ≤ rs.length ∧ Hid (RowG 1 plCl wr w.heap.size 0 rs.length f ∧ ∀ i (h : i < rs.length), i < k → f i = plOf rs[i]) ∧ Hid (∀ i (h : i < rs.length), i < k → stP rs[i].m) ∧ w.heap.size < wr.heap.size ∧ Below w.heap.size w wr) (fun x _ => rs.length - (intOf x).toNat)
  case atStart => exact ⟨0, fun _ => zeroPl, rfl, Nat.zero_le _, ⟨R0, fun i h h' => by omega⟩, fun i h h' => by omega, by simp, (Below.refl _ _).alloc (Nat.le_refl _) _⟩
  case round =>
    obtain ⟨k, f, rfl, hk, hz, hinv, hsz, hb⟩ := hrel
    clear R0
    by_cases hlt : (k : Int) < (rs.length : Int)
    · have hkl : k < rs.length := by omega
      obtain ⟨b, off, rfl, hc⟩ := (dUnhide HV wr hb).ps hkl
      obtain ⟨c0, c1, c2⟩ := hc k hkl
      have CSk := dHide (dUnhide CS k hkl)
      have GN := dHide (dUnhide HBAD k hkl)
      have GY : Hid (stP rs[k].m → ∀ i (h : i < rs.length), i < k + 1 → stP rs[i].m) := fun he i h h' => by
        rcases Nat.lt_or_ge i k with hlt' | hge
        · exact dUnhide hinv i h hlt'
        · obtain rfl : i = k := by omega
          exact he
      have ST : Hid (∀ w2, Below wr.heap.size wr w2 → (w2.cell? ⟨w.heap.size, k, none⟩ = some (.slice (f k).a (f k).m.length (f k).c) ∧ w2.frozen? ⟨w.heap.size, k, none⟩ = false) ∧ RowG 1 plCl (w2.setCell ⟨w.heap.size, k, none⟩ (.slice rs[k].ka rs[k].m.kept.length rs[k].kc)) w.heap.size 0 rs.length (putG f k (plOf rs[k])) ∧ ∀ i (h : i < rs.length), i < k + 1 → putG f k (plOf rs[k]) i = plOf rs[i]) := fun w2 hb2 => by
        have R := (dUnhide hz).1.below hb2
        have q := R k hkl 0 _ rfl
        have r := R.put plCl_len hkl 0 (by decide) (.slice rs[k].ka rs[k].m.kept.length rs[k].kc) (plOf rs[k]) rfl
        simp only [Nat.zero_add, Nat.mul_one, Nat.add_zero] at q r
        refine ⟨q, r, fun i h h' => ?_⟩
        by_cases e : i = k
        · subst e; exact putG_same _ _ _
        · rw [putG_ne _ _ e]
          exact (dUnhide hz).2 i h (by omega)
      unfold psVal at CSk
      generalize plOf rs[k] = PO at *
      generalize rs[k] = y at *
      obtain ⟨ya, yc, za, zc, m⟩ := y
      simp only at *
      clear hc hinv HBAD hz
      generalize stP m = PP at *
      have X0 := Bx.new wr [.slice ya m.kept.length yc, .slice za m.late.length zc, .int .i64 m.lock] 26
      have B0 := ba wr (.cells #[.slice ya m.kept.length yc, .slice za m.late.length zc, .int .i64 m.lock] 26)
      go_wp2_with fail
      generalize wr.alloc (.cells #[.slice ya m.kept.length yc, .slice za m.late.length zc, .int .i64 m.lock] 26) = w1 at *
      refine (dUnhide CSk _ (belowThen hb B0)).mono ?_
      rintro r w2 ⟨⟨b2, rfl, h2⟩, bl2⟩
      have bl3 := belowThen B0 bl2
      have hb2 := belowThen hb bl3
      have k0 := X0.below bl2 0 _ rfl
      cases b2
      · have e1 := dUnhide GN (fun h => by have := h2.2 h; cases this) w2
        clear GN GY CSk h2 bl2 c0 c1 c2 HGOOD CS HV ST X0 B0 bl3 k0 CM
        go_wp2
        go_returns
        exact ⟨e1, hb2⟩
      · have G := dHide (dUnhide GY (h2.1 rfl))
        obtain ⟨⟨z0, f0⟩, R3⟩ := dUnhide ST w2 bl3
        have HR3 := dHide R3
        have hb3 := dHide (hb2.setCell (p := ⟨w.heap.size, k, none⟩) (Nat.le_refl _) (.slice ya m.kept.length yc))
        have hs3 : w.heap.size < (w2.setCell ⟨w.heap.size, k, none⟩ (.slice ya m.kept.length yc)).heap.size := by simpa using Nat.lt_of_lt_of_le hsz bl3.size
        clear GN GY CSk h2 bl2 c0 c1 c2 ST X0 B0 bl3 R3 hb2
        go_wp2
        go_roundw
        case rel => exact ⟨k + 1, _, by go_num, by omega, dUnhide HR3, G, hs3, dUnhide hb3⟩
        case measure => simp [intOf]; omega
    · obtain ⟨e1, e2⟩ := dUnhide HGOOD fun i hi => dUnhide hinv i hi (by omega)
      have CMk := dHide (dUnhide CM wr hb f (dUnhide hz).1 (fun i h => (dUnhide hz).2 i h (by omega)))
      have HE2 := dHide e2
      clear hinv HGOOD HBAD CS HV CM hz e2
      go_wp2_with fail
      refine (dUnhide CMk).mono ?_
      rintro r w2 ⟨⟨u, rfl, A⟩, b2⟩
      have hb2 := belowThen hb b2
      have A2 := A.mono (base' := w.heap.size) hb.size
      have FIN : Hid (AnsU w.heap.size (rs.map Ps.m) (.returned (.tuple #[u, .bool true])) w2) := ⟨_, _, rfl, by rw [← e1]; exact A2, ⟨fun _ => dUnhide HE2, fun _ => rfl⟩⟩
      clear CMk b2 A A2 e1 HE2
      go_wp2
      go_returns
      exact ⟨dUnhide FIN, hb2⟩
end Go.Proofs.Ytejmfohkobhidaa
