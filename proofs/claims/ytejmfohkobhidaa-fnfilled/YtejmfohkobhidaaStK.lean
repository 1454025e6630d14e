/- spec's StoreCrash. -/
import Derived.Test.YtejmfohkobhidaaStG
namespace Go.Proofs.Ytejmfohkobhidaa
open Go.ChangeShapes Go.WideShapes Go.ChangeAt Go.RowKit
set_option linter.unusedVariables false
set_option linter.unusedSimpArgs false
set_option maxRecDepth 100000

set_option maxHeartbeats 8000000 in
theorem specCrash_any (v : Value) (s : St) (keep : Int) (w : World) (hv : Rs w v s) (hf : fitS s) :
    Calls Try.prog 16 #[v, .int .i64 keep] w fun r w' => (∃ u, r = .returned (.tuple #[u, .bool (crashM s keep).2]) ∧ OwS w' w.heap.size u (crashM s keep).1) ∧ Below w.heap.size w w' := by
  have ba : ∀ (w : World) o, Below w.heap.size w (w.alloc o) := fun w o => (Below.refl _ _).alloc (Nat.le_refl _) o
  have C1 := dHide fun W (hb : Below w.heap.size w W) => specStoreOk_any v s W (hv.below hb) hf
  have C2 := dHide fun W (hb : Below w.heap.size w W) (h : stP s) => l6Copy_any v s W (hv.below hb) (by have := h.1.1; omega) (by have := h.2.1.1; omega)
  obtain ⟨kv, lv, rfl, rk, rl⟩ := hv
  have HK := dHide fun W (hb : Below w.heap.size w W) => rk.below hb
  have HL := dHide fun W (hb : Below w.heap.size w W) => rl.below hb
  obtain ⟨-, ka, kc, rfl, -, -⟩ := rk
  obtain ⟨-, la, lc, rfl, -, -⟩ := rl
  have PB : Hid (¬ stP s → crashM s keep = (zeroSt, false)) := crashM_bad
  have PN : Hid (stP s → ¬ crashP s keep → crashM s keep = (s, false)) := crashM_no
  have PY : Hid (stP s → crashP s keep → crashM s keep = (⟨crashK s keep, [], s.lock⟩, true)) := crashM_yes
  generalize crashM s keep = M at *
  clear hf
  have X0 := (BxZ.new w [.slice ka s.kept.length kc, .slice la s.late.length lc, .int .i64 s.lock] 26 (Nat.le_refl _)).below (ba _ (.cells #[.slice none 0 0, .slice none 0 0, .int .i64 0] 26))
  have Z0 := BxZ.new (B := w.heap.size) (w.alloc (.cells #[.slice ka s.kept.length kc, .slice la s.late.length lc, .int .i64 s.lock] 26)) [.slice none 0 0, .slice none 0 0, .int .i64 0] 26 (by simp)
  have B0 := belowThen (ba w (.cells #[.slice ka s.kept.length kc, .slice la s.late.length lc, .int .i64 s.lock] 26)) (ba _ (.cells #[.slice none 0 0, .slice none 0 0, .int .i64 0] 26))
  have e1 : (w.alloc (.cells #[.slice ka s.kept.length kc, .slice la s.late.length lc, .int .i64 s.lock] 26)).heap.size = w.heap.size + 1 := by simp
  rw [e1] at Z0
  clear e1
  go_enter Try.func16, Try.ntmps16
  go_wp2_with fail
  generalize (w.alloc (.cells #[.slice ka s.kept.length kc, .slice la s.late.length lc, .int .i64 s.lock] 26)).alloc (.cells #[.slice none 0 0, .slice none 0 0, .int .i64 0] 26) = w0 at *
  have K : Hid (∀ W, Below w0.heap.size w0 W → BxZ W w.heap.size w.heap.size [.slice ka s.kept.length kc, .slice la s.late.length lc, .int .i64 s.lock] ∧ BxZ W w.heap.size (w.heap.size + 1) [.slice none 0 0, .slice none 0 0, .int .i64 0] ∧ Below w.heap.size w W) := fun W hb => ⟨X0.below hb, Z0.below hb, belowThen B0 hb⟩
  have hlt := Z0.lt
  clear X0 Z0
  refine (dUnhide C1 _ B0).mono ?_
  rintro r w1 ⟨hr1, b1⟩
  by_cases hs : stP s
  · obtain rfl := hr1.of_yes hs
    have HS := dHide hs
    have hkl : s.kept.length ≤ 200 := hs.1.1
    have hll : s.late.length ≤ 20 := hs.2.1.1
    clear hr1 PB hs
    obtain ⟨X1, -, B1⟩ := dUnhide K w1 b1
    have k0 := (X1.2 0 _ rfl).1
    have k1 := (X1.2 1 _ rfl).1
    have k2 := (X1.2 2 _ rfl).1
    clear X1
    have hw1 : w.heap.size + 1 < w1.heap.size := by have := b1.size; omega
    have HK1 := dHide fun W (hb : Below w1.heap.size w1 W) => dUnhide HK W (belowThen B1 hb)
    have KX := dHide fun W (hb : Below w1.heap.size w1 W) => (dUnhide K W (belowThen b1 hb)).1
    have bE : Below w1.heap.size w1 (w1.alloc (.cells #[] 28)).drew := (ba _ _).drew
    have bZE : Below w1.heap.size w1 ((w1.alloc (.cells #[.slice none 0 0, .slice none 0 0, .int .i64 0] 26)).alloc (.cells #[] 28)).drew := (belowThen (ba _ _) (ba _ _)).drew
    have bEZ : Below w1.heap.size w1 ((w1.alloc (.cells #[] 28)).alloc (.cells #[.slice none 0 0, .slice none 0 0, .int .i64 0] 26)).drew := (belowThen (ba _ _) (ba _ _)).drew
    have ZZE := (BxZ.new (B := w1.heap.size) w1 [.slice none 0 0, .slice none 0 0, .int .i64 0] 26 (Nat.le_refl _)).below (ba _ (.cells #[] 28))
    have ZEZ := BxZ.new (B := w1.heap.size) (w1.alloc (.cells #[] 28)) [.slice none 0 0, .slice none 0 0, .int .i64 0] 26 (by simp)
    have eE : (w1.alloc (.cells #[] 28)).heap.size = w1.heap.size + 1 := by simp
    rw [eE] at ZEZ
    have HZZE := dHide ZZE
    have HZEZ := dHide ZEZ
    clear ZZE ZEZ eE
    go_wp2_with fail
    go_cut [6] (fun sv wx => ∃ bo v5, sv = .pointer (some ⟨bo, 0, none⟩) ∧ BxZ wx w1.heap.size bo [v5, .slice none 0 0, .int .i64 s.lock] ∧ ApE wx w1.heap.size v5 s.kept ∧ touch v5 ≠ some bo ∧ Below w1.heap.size w1 wx)
    case first =>
      go_region_held3 (fun W => W.cell? ⟨w.heap.size, 0, none⟩ = some (.slice ka s.kept.length kc) ∧ W.cell? ⟨w.heap.size, 2, none⟩ = some (.int .i64 s.lock)) (first | exact ⟨q0, q2⟩ | exact ⟨set_other (set_other (set_other q0 (.inl (by omega))) (.inl (by omega))) (.inl (by omega)), set_other (set_other (set_other q2 (.inl (by omega))) (.inl (by omega))) (.inl (by omega))⟩ | go_keep)
        (first
          | (refine step_cpR elemE rfl _ _ rfl _ rfl _ s.kept rfl (dUnhide HK1 _ bE) (by omega) ?_; intro v5 w5 P5 b5; have hb5 := belowThen bE b5; have q0 := ((dUnhide KX w5 hb5).2 0 _ rfl).1; have q2 := ((dUnhide KX w5 hb5).2 2 _ rfl).1; have P5' := P5.mono (base' := w1.heap.size) bE.size; obtain ⟨a5, c5, rfl⟩ := ApR.slice elemE P5)
          | (refine step_cpR elemE rfl _ _ rfl _ rfl _ s.kept rfl (dUnhide HK1 _ bZE) (by omega) ?_; intro v5 w5 P5 b5; have hb5 := belowThen bZE b5; have q0 := ((dUnhide KX w5 hb5).2 0 _ rfl).1; have q2 := ((dUnhide KX w5 hb5).2 2 _ rfl).1; have BX := (dUnhide HZZE).drew'.below b5; obtain ⟨z0, f0⟩ := BX.2 0 _ rfl; obtain ⟨z1, f1⟩ := BX.2 1 _ rfl; obtain ⟨z2, f2⟩ := BX.2 2 _ rfl; have TB := touch_base elemE P5 (show w1.heap.size < _ by simp <;> omega); have P5' := P5.mono (base' := w1.heap.size) bZE.size; obtain ⟨a5, c5, rfl⟩ := ApR.slice elemE P5)
          | (refine step_cpR elemE rfl _ _ rfl _ rfl _ s.kept rfl (dUnhide HK1 _ bEZ) (by omega) ?_; intro v5 w5 P5 b5; have hb5 := belowThen bEZ b5; have q0 := ((dUnhide KX w5 hb5).2 0 _ rfl).1; have q2 := ((dUnhide KX w5 hb5).2 2 _ rfl).1; have BX := (dUnhide HZEZ).drew'.below b5; obtain ⟨z0, f0⟩ := BX.2 0 _ rfl; obtain ⟨z1, f1⟩ := BX.2 1 _ rfl; obtain ⟨z2, f2⟩ := BX.2 2 _ rfl; have TB := touch_base elemE P5 (show w1.heap.size + 1 < _ by simp <;> omega); have P5' := P5.mono (base' := w1.heap.size) bEZ.size; obtain ⟨a5, c5, rfl⟩ := ApR.slice elemE P5))
      all_goals
        go_wp2_with fail
        go_meet
        case rel =>
          first
          | exact ⟨w5.heap.size, _, rfl, BxZ.new w5 [.slice a5 s.kept.length c5, .slice none 0 0, .int .i64 s.lock] 26 hb5.size, P5'.below (ba _ _), (fun e => by have := (P5'.touched elemE e).2; omega), belowThen hb5 (ba _ _)⟩
          | exact ⟨_, _, rfl, ((BX.put 0 (.slice a5 s.kept.length c5)).put 1 (.slice none 0 0)).put 2 (.int .i64 s.lock), ApR.put elemE (ApR.put elemE (ApR.put elemE P5' TB _) TB _) TB _, TB, ((hb5.setCell BX.1 _).setCell BX.1 _).setCell BX.1 _⟩
    case rest =>
      obtain ⟨bo, v5, rfl, BX, P5, TB, bc⟩ := hcut
      have KL := dHide fun W (hb : Below w1.heap.size w1 W) => dUnhide HL W (belowThen B1 hb)
      have hbo : w1.heap.size ≤ bo := BX.1
      have CRK : Hid (crashK s keep = crashL s.kept keep s.late 0) := rfl
      clear bE bZE bEZ HZZE HZEZ k0 k1 k2 HK HK1 HL
      go_wp2
      go_loopw [7] (fun i wr => ∃ (k : Nat) (v6 : Value), i = .int .i64 (k : Int) ∧ k ≤ s.late.length ∧ BxZ wr w1.heap.size bo [v6, .slice none 0 0, .int .i64 s.lock] ∧ ApE wr w1.heap.size v6 (crashL s.kept keep (s.late.take k) 0) ∧ touch v6 ≠ some bo ∧ Below w1.heap.size w1 wr) (fun i _ => s.late.length - (intOf i).toNat)
      case atStart => exact ⟨0, v5, rfl, Nat.zero_le _, BX, P5, TB, bc⟩
      case round =>
        obtain ⟨k, v6, rfl, hk, BX, P6, TB6, hb⟩ := hrel
        have Xr := dUnhide KX wr hb
        have k0 := (Xr.2 0 _ rfl).1
        have k1 := (Xr.2 1 _ rfl).1
        have k2 := (Xr.2 2 _ rfl).1
        clear Xr P5
        by_cases hlt : (k : Int) < (s.late.length : Int)
        · have hkl : k < s.late.length := by omega
          have hT := dHide (List.take_succ_eq_append_getElem hkl)
          have hS := dHide (crashL_snoc s.kept keep (s.late.take k) s.late[k] 0)
          have hlen0 := crashL_len keep (s.late.take k) s.kept 0
          have hlt0 : (s.late.take k).length = k := by simp; omega
          rw [hlt0] at hS hlen0
          have hS' : Hid (crashL s.kept keep (s.late.take (k + 1)) 0 = if bitE keep k then keepL s.late[k] (crashL s.kept keep (s.late.take k) 0) else crashL s.kept keep (s.late.take k) 0) := by rw [Hid, dUnhide hT, dUnhide hS]; simp
          obtain ⟨b, off, rfl, hc⟩ := (dUnhide KL wr hb).ent hkl
          have hbw : b < w1.heap.size := by
            obtain ⟨b2, off2, e2, hc2⟩ := (dUnhide KL w1 (Below.refl _ _)).ent hkl
            cases e2
            exact dCell_lt (hc2 k hkl).1
          have hbit : Hid (bitE keep k = (bits .and .i64 (keep / 2 ^ k) 1 == 1)) := by rw [Hid, i64_and1E]; rfl
          obtain ⟨c0, c1, c2, c3⟩ := hc k hkl
          generalize s.late[k] = y at *
          generalize crashL s.kept keep (s.late.take k) 0 = L at *
          have hL : L.length ≤ 1048576 := by omega
          clear hc hT hS hlt0
          have hk64 : (k : Int) ≤ 64 := by omega
          cases hq : bitE keep k with
          | true =>
            rw [hq] at hbit hS'
            have hbit' := (dUnhide hbit).symm
            obtain ⟨a6, c6, rfl⟩ := ApR.slice elemE P6
            have CK := dHide fun W (hB : Below wr.heap.size wr W) => l6Keep_any (.slice a6 L.length c6) L y W ((ApR.own elemE P6).rw.below hB) hL
            obtain ⟨yx, yw, yh, yd⟩ := y
            unfold Ent.val at CK
            simp only at *
            clear hbit hq
            obtain ⟨o0, g0⟩ := BX.2 0 _ rfl
            have hne : bo ≠ w.heap.size := by omega
            clear KX KL
            go_wp2
            refine wp_region_noPanic ?_
            refine wp_region_held_drew (S := fun W => W.cell? ⟨w.heap.size, 1, none⟩ = some (.slice (some ⟨b, off, none⟩) s.late.length lc) ∧ W.cell? ⟨b, off + k * 4, none⟩ = some (.int .i64 yx) ∧ W.cell? ⟨b, off + k * 4 + 1, none⟩ = some (.int .i64 yw) ∧ W.cell? ⟨b, off + k * 4 + 2, none⟩ = some (.bool yh) ∧ W.cell? ⟨b, off + k * 4 + 3, none⟩ = some (.string yd)) (by kernel_rfl) ?_ (fun hHeld => ?_)
            · go_keep
            refine wpAnyH_take (i := 0) (oi := { dst := some 31, op := Op.fieldAddr 26 (Operand.tmp 6) 0, type := 0, pos := "l06_store.go:83", after := #[], guard := none }) (v := ?_) rfl (by kernel_rfl) (by kernel_rfl) (by kernel_rfl) (fun _ _ _ h => h) (Or.inl ⟨by rfl, ?_⟩) (by assumption) ?_
            rotate_left 1
            · intro w hSw
              (try dsimp only at hSw)
              first | (go_simp; done) | (go_simp; with_reducible rfl)
            try simp only [Act.put, List.setIfInBounds_toArray, List.set_cons_zero, List.set_cons_succ]
            refine wpAnyH_take (i := 2) (oi := { dst := some 33, op := Op.fieldAddr 26 (Operand.tmp 2) 1, type := 0, pos := "l06_store.go:83", after := #[], guard := none }) (v := ?_) rfl (by kernel_rfl) (by kernel_rfl) (by kernel_rfl) (fun _ _ _ h => h) (Or.inl ⟨by rfl, ?_⟩) (by assumption) ?_
            rotate_left 1
            · intro w hSw
              (try dsimp only at hSw)
              first | (go_simp; done) | (go_simp; with_reducible rfl)
            try simp only [Act.put, List.setIfInBounds_toArray, List.set_cons_zero, List.set_cons_succ]
            refine wpAnyH_take (i := 3) (oi := { dst := some 34, op := Op.load 24 (Operand.tmp 33), type := 24, pos := "l06_store.go:83", after := #[{ on := 2, ground := Ground.data }], guard := none }) (v := ?_) rfl (by kernel_rfl) (by kernel_rfl) (by kernel_rfl) (fun _ _ _ h => h) (Or.inl ⟨by rfl, ?_⟩) (by assumption) ?_
            rotate_left 1
            · intro w hSw
              (try dsimp only at hSw)
              first | (go_simp; done) | (go_simp; with_reducible rfl)
            try simp only [Act.put, List.setIfInBounds_toArray, List.set_cons_zero, List.set_cons_succ]
            refine wpAnyH_take (i := 4) (oi := { dst := some 35, op := Op.move (Operand.tmp 7), type := 3, pos := "l06_store.go:83", after := #[], guard := none }) (v := ?_) rfl (by kernel_rfl) (by kernel_rfl) (by kernel_rfl) (fun _ _ _ h => h) (Or.inl ⟨by rfl, ?_⟩) (by assumption) ?_
            rotate_left 1
            · intro w hSw
              (try dsimp only at hSw)
              first | (go_simp; done) | (go_simp; with_reducible rfl)
            try simp only [Act.put, List.setIfInBounds_toArray, List.set_cons_zero, List.set_cons_succ]
            refine wpAnyH_take (i := 5) (oi := { dst := some 36, op := Op.indexAddr 24 (Operand.tmp 34) (Operand.tmp 35), type := 0, pos := "l06_store.go:83", after := #[{ on := 3, ground := Ground.data }, { on := 4, ground := Ground.data }], guard := none }) (v := ?_) rfl (by kernel_rfl) (by kernel_rfl) (by kernel_rfl) (fun _ _ _ h => h) (Or.inl ⟨by rfl, ?_⟩) (by assumption) ?_
            rotate_left 1
            · intro w hSw
              (try dsimp only at hSw)
              first | (go_simp; done) | (go_simp; with_reducible rfl)
            try simp only [Act.put, List.setIfInBounds_toArray, List.set_cons_zero, List.set_cons_succ]
            refine wpAnyH_take (i := 6) (oi := { dst := some 37, op := Op.load 28 (Operand.tmp 36), type := 28, pos := "l06_store.go:83", after := #[{ on := 5, ground := Ground.data }], guard := none }) (v := ?_) rfl (by kernel_rfl) (by kernel_rfl) (by kernel_rfl) (fun _ _ _ h => h) (Or.inl ⟨by rfl, ?_⟩) (by assumption) ?_
            rotate_left 1
            · intro w hSw
              (try dsimp only at hSw)
              first | (go_simp; done) | (go_simp; with_reducible rfl)
            try simp only [Act.put, List.setIfInBounds_toArray, List.set_cons_zero, List.set_cons_succ]
            refine wpAnyH_ready (rs := [1]) (by kernel_rfl) (by simp) ?_
            refine AllReadyH.cons (o := { dst := some 32, op := Op.load 24 (Operand.tmp 31), type := 24, pos := "l06_store.go:83", after := #[{ on := 0, ground := Ground.data }], guard := none }) rfl (fun K hK => ?_) AllReadyH.nil
            go_simp
            have o0d : wr.drew.cell? ⟨bo, 0, none⟩ = some (.slice a6 L.length c6) := o0
            go_simp
            (try go_wp2_with fail)
            refine hK.out _ _ ?_ (fun hHeld => ?_)
            · go_keep
            clear hK K
            try simp only [Act.put, List.setIfInBounds_toArray, List.set_cons_zero, List.set_cons_succ]
            refine wpAnyH_ready (rs := [7]) (by kernel_rfl) (by simp) ?_
            refine AllReadyH.cons (o := { dst := some 38, op := Op.call { callee := Callee.value (Operand.func 46), args := #[Operand.tmp 32, Operand.tmp 37], argTypes := #[24, 28] }, type := 24, pos := "l06_store.go:83", after := #[{ on := 1, ground := Ground.data }, { on := 6, ground := Ground.data }], guard := none }) rfl (fun K hK => ?_) AllReadyH.nil
            go_simp
            refine (dUnhide CK _ (Below.refl _ _).drew).mono ?_
            rintro r w6 ⟨⟨u6, rfl, Q6⟩, b6⟩
            have hb6 := belowThen (Below.refl _ _ : Below wr.heap.size wr wr).drew b6
            have BX6 := BX.below hb6
            obtain ⟨o0', g0'⟩ := BX6.2 0 _ rfl
            have q1 := (hb6.cell (p := ⟨w.heap.size, 1, none⟩) (dCell_lt k1)).trans k1
            have y0 := (hb6.cell (p := ⟨b, off + k * 4, none⟩) (dCell_lt c0)).trans c0
            have y1 := (hb6.cell (p := ⟨b, off + k * 4 + 1, none⟩) (dCell_lt c1)).trans c1
            have y2 := (hb6.cell (p := ⟨b, off + k * 4 + 2, none⟩) (dCell_lt c2)).trans c2
            have y3 := (hb6.cell (p := ⟨b, off + k * 4 + 3, none⟩) (dCell_lt c3)).trans c3
            obtain ⟨a7, c7, rfl⟩ := ApR.slice elemE Q6
            (try go_wp2_with fail)
            refine hK.out _ _ ?_ (fun hHeld => ?_)
            · go_keep
            clear hK K
            try simp only [Act.put, List.setIfInBounds_toArray, List.set_cons_zero, List.set_cons_succ]
            refine wpAnyH_take (i := 8) (oi := { dst := some 39, op := Op.fieldAddr 26 (Operand.tmp 6) 0, type := 0, pos := "l06_store.go:83", after := #[{ on := 0, ground := Ground.phase }, { on := 1, ground := Ground.phase }, { on := 2, ground := Ground.phase }, { on := 3, ground := Ground.phase }, { on := 4, ground := Ground.phase }, { on := 5, ground := Ground.phase }, { on := 6, ground := Ground.phase }, { on := 7, ground := Ground.phase }], guard := none }) (v := ?_) rfl (by kernel_rfl) (by kernel_rfl) (by kernel_rfl) (fun _ _ _ h => h) (Or.inl ⟨by rfl, ?_⟩) (by assumption) ?_
            rotate_left 1
            · intro w hSw
              (try dsimp only at hSw)
              first | (go_simp; done) | (go_simp; with_reducible rfl)
            try simp only [Act.put, List.setIfInBounds_toArray, List.set_cons_zero, List.set_cons_succ]
            refine wpAnyH_ready (rs := [9]) (by kernel_rfl) (by simp) ?_
            refine AllReadyH.cons (o := { dst := none, op := Op.store 24 (Operand.tmp 39) (Operand.tmp 38), type := 0, pos := "l06_store.go:83", after := #[{ on := 8, ground := Ground.data }, { on := 7, ground := Ground.data }, { on := 7, ground := Ground.chain }, { on := 0, ground := Ground.phase }, { on := 1, ground := Ground.phase }, { on := 2, ground := Ground.phase }, { on := 3, ground := Ground.phase }, { on := 4, ground := Ground.phase }, { on := 5, ground := Ground.phase }, { on := 6, ground := Ground.phase }, { on := 7, ground := Ground.phase }], guard := none }) rfl (fun K hK => ?_) AllReadyH.nil
            go_simp
            refine hK.out _ _ ?_ (fun hHeld => ?_)
            · exact ⟨set_other q1 (.inl (by omega)), set_other y0 (.inl (by omega)), set_other y1 (.inl (by omega)), set_other y2 (.inl (by omega)), set_other y3 (.inl (by omega))⟩
            clear hK K
            try simp only [Act.put, List.setIfInBounds_toArray, List.set_cons_zero, List.set_cons_succ]
            refine wpAnyH_done (by kernel_rfl) ?_ _
            refine NoPanic.normal ?_
            have hblt := BX.lt
            have TB7 := touch_base elemE Q6 (show bo < _ from hblt)
            have P7 := dHide ((ApR.put elemE Q6 TB7 (o' := 0) (.slice a7 (keepL ⟨yx, yw, yh, yd⟩ L).length c7)).mono (base' := w1.heap.size) hb.size)
            have BX7 := dHide (BX6.put 0 (.slice a7 (keepL ⟨yx, yw, yh, yd⟩ L).length c7))
            have hb7 := dHide ((belowThen hb hb6).setCell (p := ⟨bo, 0, none⟩) hbo (.slice a7 (keepL ⟨yx, yw, yh, yd⟩ L).length c7))
            clear q1 y0 y1 y2 y3 o0' g0' hHeld BX6 b6 hb6 c0 c1 c2 c3 k0 k1 k2 o0 g0 CK P6 BX hb Q6 hbit'
            go_wp2
            go_roundw
            case rel => exact ⟨k + 1, _, by go_num, by omega, dUnhide BX7, by rw [dUnhide hS', if_pos trivial]; exact dUnhide P7, TB7, dUnhide hb7⟩
            case measure => simp [intOf]; omega
          | false =>
            rw [hq] at hbit hS'
            have hbit' := (dUnhide hbit).symm
            obtain ⟨a6, c6, rfl⟩ := ApR.slice elemE P6
            clear hbit hq c0 c1 c2 c3
            go_wp2
            go_roundw
            case rel => exact ⟨k + 1, _, by go_num, by omega, BX, by rw [dUnhide hS']; exact P6, TB6, hb⟩
            case measure => simp [intOf]; omega
        · have e1 : s.late.take k = s.late := List.take_of_length_le (by omega)
          rw [e1, ← dUnhide CRK] at P6
          have HP6 := dHide P6
          obtain ⟨a6, c6, rfl⟩ := ApR.slice elemE P6
          have hB0 := belowThen b1 hb
          obtain ⟨-, -, Bw⟩ := dUnhide K wr hB0
          have C2' := dHide (dUnhide C2 wr Bw (dUnhide HS))
          have CPD : Hid (crashP s keep ↔ 0 ≤ keep ∧ keep ≤ 1048575 ∧ (crashK s keep).length ≤ 200) := Iff.rfl
          obtain ⟨o0, -⟩ := BX.2 0 _ rfl
          obtain ⟨o1, -⟩ := BX.2 1 _ rfl
          obtain ⟨o2, -⟩ := BX.2 2 _ rfl
          have HW : Hid (w.heap.size + 1 < wr.heap.size) := by have := hb.size; exact (by omega : w.heap.size + 1 < wr.heap.size)
          have FIN : Hid (∀ (w3 : World) (u3 : Value), OwS w3 wr.heap.size u3 s → Below wr.heap.size wr w3 → ∃ ka3 kc3 la3 lc3, u3 = .agg #[.slice ka3 s.kept.length kc3, .slice la3 s.late.length lc3, .int .i64 s.lock] ∧ BxZ w3 w.heap.size (w.heap.size + 1) [.slice none 0 0, .slice none 0 0, .int .i64 0] ∧ ∃ V, V = ((w3.setCell ⟨w.heap.size + 1, 0, none⟩ (.slice ka3 s.kept.length kc3)).setCell ⟨w.heap.size + 1, 1, none⟩ (.slice la3 s.late.length lc3)).setCell ⟨w.heap.size + 1, 2, none⟩ (.int .i64 s.lock) ∧ Bx V (w.heap.size + 1) [.slice ka3 s.kept.length kc3, .slice la3 s.late.length lc3, .int .i64 s.lock] ∧ OwS V w.heap.size (.agg #[.slice ka3 s.kept.length kc3, .slice la3 s.late.length lc3, .int .i64 s.lock]) s ∧ Below w.heap.size w V) := fun w3 u3 O3 b3 => by
            obtain ⟨ka3, kc3, la3, lc3, rfl⟩ := O3.shape
            obtain ⟨-, Z3, B3⟩ := dUnhide K w3 (belowThen hB0 b3)
            have hw := dUnhide HW
            have hw2 : w.heap.size ≤ wr.heap.size := by omega
            exact ⟨ka3, kc3, la3, lc3, rfl, Z3, _, rfl, (((Z3.put 0 (.slice ka3 s.kept.length kc3)).put 1 (.slice la3 s.late.length lc3)).put 2 (.int .i64 s.lock)).bx,
              (((O3.far (b := w.heap.size + 1) (o := 0) hw (.slice ka3 s.kept.length kc3)).far (b := w.heap.size + 1) (o := 1) hw (.slice la3 s.late.length lc3)).far (b := w.heap.size + 1) (o := 2) hw (.int .i64 s.lock)).mono hw2,
              ((B3.setCell (p := ⟨w.heap.size + 1, 0, none⟩) (by simp only; omega) _).setCell (p := ⟨w.heap.size + 1, 1, none⟩) (by simp only; omega) _).setCell (p := ⟨w.heap.size + 1, 2, none⟩) (by simp only; omega) _⟩
          have ZW : Hid (BxZ wr w.heap.size (w.heap.size + 1) [.slice none 0 0, .slice none 0 0, .int .i64 0]) := (dUnhide K wr hB0).2.1
          have HB := dHide Bw
          have hbo2 : w.heap.size + 1 < bo := by omega
          clear e1 P6 KX KL CRK C2 hB0 Bw K
          by_cases hp : crashP s keep
          · have eM := dUnhide PY (dUnhide HS) hp
            obtain ⟨h0, h1, h2⟩ := (dUnhide CPD).1 hp
            have CI := dHide fun W => l1In_yes keep 0 1048575 h0 h1 W
            have d200 : ¬ (200 : Int) < ((crashK s keep).length : Int) := by omega
            have hw := dUnhide HW
            have TB' := TB6
            have ZZ := dHide (((((dUnhide ZW).put 0 (.slice a6 (crashK s keep).length c6)).put 1 (.slice none 0 0)).put 2 (.int .i64 s.lock)).bx)
            have OO : Hid (OwS (((wr.setCell ⟨w.heap.size + 1, 0, none⟩ (.slice a6 (crashK s keep).length c6)).setCell ⟨w.heap.size + 1, 1, none⟩ (.slice none 0 0)).setCell ⟨w.heap.size + 1, 2, none⟩ (.int .i64 s.lock)) w.heap.size (.agg #[.slice a6 (crashK s keep).length c6, .slice none 0 0, .int .i64 s.lock]) ⟨crashK s keep, [], s.lock⟩) :=
              ⟨_, _, rfl, (ApR.far elemE (ApR.far elemE (ApR.far elemE (dUnhide HP6) (b := w.heap.size + 1) (o' := 0) hw1 (.slice a6 (crashK s keep).length c6)) (b := w.heap.size + 1) (o' := 1) hw1 (.slice none 0 0)) (b := w.heap.size + 1) (o' := 2) hw1 (.int .i64 s.lock)).mono (by omega), .inl ⟨rfl, none, rfl⟩, by
                by_cases ht : touch (.slice a6 (crashK s keep).length c6) = none
                · exact .inl ht
                · exact .inr (fun e => ht (e.trans rfl))⟩
            have BB := dHide ((((dUnhide HB).setCell (p := ⟨w.heap.size + 1, 0, none⟩) (by simp only; omega) (.slice a6 (crashK s keep).length c6)).setCell (p := ⟨w.heap.size + 1, 1, none⟩) (by simp only; omega) (.slice none 0 0)).setCell (p := ⟨w.heap.size + 1, 2, none⟩) (by simp only; omega) (.int .i64 s.lock))
            obtain ⟨z0, f0⟩ := (dUnhide ZW).2 0 _ rfl
            obtain ⟨z1, f1⟩ := (dUnhide ZW).2 1 _ rfl
            obtain ⟨z2, f2⟩ := (dUnhide ZW).2 2 _ rfl
            clear hp h0 h1 h2 CPD PN PY FIN C2' ZW HB HP6
            go_wp2_with fail
            refine (dUnhide CI _).mono ?_
            rintro r w4 ⟨rfl, rfl⟩
            clear CI
            generalize (crashK s keep).length = nK at *
            go_wp2
            have q0 := dUnhide ZZ 0 _ rfl
            have q1 := dUnhide ZZ 1 _ rfl
            have q2 := dUnhide ZZ 2 _ rfl
            clear z0 z1 z2 f0 f1 f2 o0 o1 o2 k0 k1 k2
            generalize ((w4.setCell ⟨w.heap.size + 1, 0, none⟩ (.slice a6 nK c6)).setCell ⟨w.heap.size + 1, 1, none⟩ (.slice none 0 0)).setCell ⟨w.heap.size + 1, 2, none⟩ (.int .i64 s.lock) = V at *
            subst eM
            refine bodyPost_ret (v := .tuple #[.agg #[.slice a6 nK c6, .slice none 0 0, .int .i64 s.lock], .bool true]) (by simp [results, Try.results16, go_sem, q0, q1, q2]) rfl ⟨⟨_, rfl, dUnhide OO⟩, dUnhide BB⟩
          · have eM := dUnhide PN (dUnhide HS) hp
            by_cases hin : 0 ≤ keep ∧ keep ≤ 1048575
            · have CI := dHide fun W => l1In_yes keep 0 1048575 hin.1 hin.2 W
              have d200 : (200 : Int) < ((crashK s keep).length : Int) := by
                have : ¬ (crashK s keep).length ≤ 200 := fun h => hp ((dUnhide CPD).2 ⟨hin.1, hin.2, h⟩)
                omega
              clear hp hin CPD PN PY ZW HB HP6
              generalize (crashK s keep).length = nK at *
              go_wp2_with fail
              refine (dUnhide CI _).mono ?_
              rintro r w4 ⟨rfl, rfl⟩
              clear CI
              go_wp2_with fail
              refine (dUnhide C2').mono ?_
              rintro r w3 ⟨⟨u3, rfl, O3⟩, b3⟩
              obtain ⟨ka3, kc3, la3, lc3, rfl, ZE, V, hV, hx, hO, hB⟩ := dUnhide FIN w3 u3 O3 b3
              obtain ⟨z0, f0⟩ := ZE.2 0 _ rfl
              obtain ⟨z1, f1⟩ := ZE.2 1 _ rfl
              obtain ⟨z2, f2⟩ := ZE.2 2 _ rfl
              clear O3 b3 FIN C2' ZE o0 o1 o2 k0 k1 k2
              go_wp2
              rw [← hV]
              have q0 := hx 0 _ rfl
              have q1 := hx 1 _ rfl
              have q2 := hx 2 _ rfl
              clear hV hx z0 z1 z2 f0 f1 f2
              subst eM
              refine bodyPost_ret (v := .tuple #[.agg #[.slice ka3 s.kept.length kc3, .slice la3 s.late.length lc3, .int .i64 s.lock], .bool false]) (by simp [results, Try.results16, go_sem, q0, q1, q2]) rfl ⟨⟨_, rfl, hO⟩, hB⟩
            · have CI := dHide fun W => l1In_no keep 0 1048575 (by omega) W
              clear hp hin CPD PN PY ZW HB HP6
              generalize (crashK s keep).length = nK at *
              go_wp2_with fail
              refine (dUnhide CI _).mono ?_
              rintro r w4 ⟨rfl, rfl⟩
              clear CI
              go_wp2_with fail
              refine (dUnhide C2').mono ?_
              rintro r w3 ⟨⟨u3, rfl, O3⟩, b3⟩
              obtain ⟨ka3, kc3, la3, lc3, rfl, ZE, V, hV, hx, hO, hB⟩ := dUnhide FIN w3 u3 O3 b3
              obtain ⟨z0, f0⟩ := ZE.2 0 _ rfl
              obtain ⟨z1, f1⟩ := ZE.2 1 _ rfl
              obtain ⟨z2, f2⟩ := ZE.2 2 _ rfl
              clear O3 b3 FIN C2' ZE o0 o1 o2 k0 k1 k2
              go_wp2
              rw [← hV]
              have q0 := hx 0 _ rfl
              have q1 := hx 1 _ rfl
              have q2 := hx 2 _ rfl
              clear hV hx z0 z1 z2 f0 f1 f2
              subst eM
              refine bodyPost_ret (v := .tuple #[.agg #[.slice ka3 s.kept.length kc3, .slice la3 s.late.length lc3, .int .i64 s.lock], .bool false]) (by simp [results, Try.results16, go_sem, q0, q1, q2]) rfl ⟨⟨_, rfl, hO⟩, hB⟩
  · obtain rfl := hr1.of_no hs
    have eM := dUnhide PB hs
    obtain ⟨X1, Z1, B1⟩ := dUnhide K w1 b1
    obtain ⟨z0, f0⟩ := Z1.2 0 _ rfl
    obtain ⟨z1, f1⟩ := Z1.2 1 _ rfl
    obtain ⟨z2, f2⟩ := Z1.2 2 _ rfl
    have ZZ := ((Z1.put 0 (.slice none 0 0)).put 1 (.slice none 0 0)).put 2 (.int .i64 0)
    have BB := ((B1.setCell (p := ⟨w.heap.size + 1, 0, none⟩) (by simp only; omega) (.slice none 0 0)).setCell (p := ⟨w.heap.size + 1, 1, none⟩) (by simp only; omega) (.slice none 0 0)).setCell (p := ⟨w.heap.size + 1, 2, none⟩) (by simp only; omega) (.int .i64 0)
    clear hr1 hs PB PN PY X1 Z1 K C2 b1 HK HL
    go_wp2
    have q0 := (ZZ.2 0 _ rfl).1
    have q1 := (ZZ.2 1 _ rfl).1
    have q2 := (ZZ.2 2 _ rfl).1
    clear ZZ z0 z1 z2 f0 f1 f2
    generalize ((w1.setCell ⟨w.heap.size + 1, 0, none⟩ (.slice none 0 0)).setCell ⟨w.heap.size + 1, 1, none⟩ (.slice none 0 0)).setCell ⟨w.heap.size + 1, 2, none⟩ (.int .i64 0) = V at *
    subst eM
    refine bodyPost_ret (v := .tuple #[.agg #[.slice none 0 0, .slice none 0 0, .int .i64 0], .bool false]) (by simp [results, Try.results16, go_sem, q0, q1, q2]) rfl ⟨⟨_, rfl, OwS.zero _ _⟩, BB⟩
end Go.Proofs.Ytejmfohkobhidaa
