/- spec's StoreTrim. -/
import Derived.Test.YtenpnnocdjakdaaStL
namespace Go.Proofs.Ytenpnnocdjakdaa
open Go.ChangeShapes Go.WideShapes Go.ChangeAt Go.RowKit
set_option linter.unusedVariables false
set_option linter.unusedSimpArgs false
set_option maxRecDepth 100000

open Classical in
/-- StoreTrim. -/
noncomputable def trimM (s : St) (upto : Int) : St × Bool := if stP s then (if isPl upto then (⟨trimL s.kept upto, s.late, s.lock⟩, true) else (s, false)) else (zeroSt, false)
theorem trimM_bad {s : St} {upto : Int} (h : ¬ stP s) : trimM s upto = (zeroSt, false) := if_neg h
theorem trimM_no {s : St} {upto : Int} (h : stP s) (hp : ¬ isPl upto) : trimM s upto = (s, false) := (if_pos h).trans (if_neg hp)
theorem trimM_yes {s : St} {upto : Int} (h : stP s) (hp : isPl upto) : trimM s upto = (⟨trimL s.kept upto, s.late, s.lock⟩, true) := (if_pos h).trans (if_pos hp)
theorem trimL_take (es : List Ent) (x : Int) (k : Nat) (h : k < es.length) : trimL (es.take (k + 1)) x = if x < es[k].pl then trimL (es.take k) x ++ [es[k]] else trimL (es.take k) x := by
  unfold trimL
  rw [List.take_succ_eq_append_getElem h, List.filter_append]
  by_cases hx : x < es[k].pl <;> simp [hx]
theorem trimL_len (es : List Ent) (x : Int) : (trimL es x).length ≤ es.length := List.length_filter_le _ _
set_option maxHeartbeats 8000000 in
theorem specTrim_any (v : Value) (s : St) (upto : Int) (w : World) (hv : Rs w v s) (hf : fitS s) (hu : upto ≤ 9223372036854775807) :
    Calls Try.prog 30 #[v, .int .i64 upto] w fun r w' => (∃ u, r = .returned (.tuple #[u, .bool (trimM s upto).2]) ∧ OwS w' w.heap.size u (trimM s upto).1) ∧ Below w.heap.size w w' := by
  have ba : ∀ (w : World) o, Below w.heap.size w (w.alloc o) := fun w o => (Below.refl _ _).alloc (Nat.le_refl _) o
  have C1 := dHide fun W (hb : Below w.heap.size w W) => specStoreOk_any v s W (hv.below hb) hf
  have C2 := dHide fun W (hb : Below w.heap.size w W) (h : stP s) => l6Copy_any v s W (hv.below hb) (by have := h.1.1; omega) (by have := h.2.1.1; omega)
  obtain ⟨kv, lv, rfl, rk, rl⟩ := hv
  have HK := dHide fun W (hb : Below w.heap.size w W) => rk.below hb
  obtain ⟨-, ka, kc, rfl, -, -⟩ := rk
  obtain ⟨-, la, lc, rfl, -, -⟩ := rl
  have PB : Hid (¬ stP s → trimM s upto = (zeroSt, false)) := trimM_bad
  have PN : Hid (stP s → ¬ isPl upto → trimM s upto = (s, false)) := trimM_no
  have PY : Hid (stP s → isPl upto → trimM s upto = (⟨trimL s.kept upto, s.late, s.lock⟩, true)) := trimM_yes
  generalize trimM s upto = M at *
  clear hf
  have X0 := (BxZ.new w [.slice ka s.kept.length kc, .slice la s.late.length lc, .int .i64 s.lock] 26 (Nat.le_refl _)).below (ba _ (.cells #[.slice none 0 0, .slice none 0 0, .int .i64 0] 26))
  have Z0 := BxZ.new (B := w.heap.size) (w.alloc (.cells #[.slice ka s.kept.length kc, .slice la s.late.length lc, .int .i64 s.lock] 26)) [.slice none 0 0, .slice none 0 0, .int .i64 0] 26 (by simp)
  have B0 := belowThen (ba w (.cells #[.slice ka s.kept.length kc, .slice la s.late.length lc, .int .i64 s.lock] 26)) (ba _ (.cells #[.slice none 0 0, .slice none 0 0, .int .i64 0] 26))
  have e1 : (w.alloc (.cells #[.slice ka s.kept.length kc, .slice la s.late.length lc, .int .i64 s.lock] 26)).heap.size = w.heap.size + 1 := by simp
  rw [e1] at Z0
  clear e1
  go_enter Try.func30, Try.ntmps30
  go_wp2_with fail
  generalize (w.alloc (.cells #[.slice ka s.kept.length kc, .slice la s.late.length lc, .int .i64 s.lock] 26)).alloc (.cells #[.slice none 0 0, .slice none 0 0, .int .i64 0] 26) = w0 at *
  have K : Hid (∀ W, Below w0.heap.size w0 W → BxZ W w.heap.size w.heap.size [.slice ka s.kept.length kc, .slice la s.late.length lc, .int .i64 s.lock] ∧ BxZ W w.heap.size (w.heap.size + 1) [.slice none 0 0, .slice none 0 0, .int .i64 0] ∧ Below w.heap.size w W) := fun W hb => ⟨X0.below hb, Z0.below hb, belowThen B0 hb⟩
  have hlt := Z0.lt
  clear X0 Z0
  refine (dUnhide C1 _ B0).mono ?_
  rintro r w1 ⟨hr1, b1⟩
  by_cases hs : stP s
  · obtain rfl := hr1.of_yes hs
    have HS := dHide hs
    have hkl : s.kept.length ≤ 200 := hs.1.1
    clear hr1 PB hs
    obtain ⟨X1, -, B1⟩ := dUnhide K w1 b1
    have k0 := (X1.2 0 _ rfl).1
    have k1 := (X1.2 1 _ rfl).1
    have k2 := (X1.2 2 _ rfl).1
    have C2' := dHide (dUnhide C2 w1 B1 (dUnhide HS))
    clear X1 C1 C2
    go_wp2_with fail
    refine (dUnhide C2').mono ?_
    rintro r w2 ⟨⟨u2, rfl, O2⟩, b2⟩
    obtain ⟨a1, c1, a2, c2, rfl⟩ := O2.shape
    have b23 := ba w2 (.cells #[.slice a1 s.kept.length c1, .slice a2 s.late.length c2, .int .i64 s.lock] 26)
    have ob := BxZ.new (B := w2.heap.size) w2 [.slice a1 s.kept.length c1, .slice a2 s.late.length c2, .int .i64 s.lock] 26 (Nat.le_refl _)
    have b04 := belowThen (belowThen b1 b2) b23
    have b14 := belowThen b2 b23
    have hb1s := b1.size
    have hb2s := b2.size
    obtain ⟨kv, lv, e2, h2, h3, h4⟩ := O2
    cases e2
    have T3 : touch (.slice a2 s.late.length c2) ≠ some w2.heap.size := fun e => by have := (h3.touched elemE e).2; omega
    have T2 : touch (.slice a1 s.kept.length c1) ≠ some w2.heap.size := fun e => by have := (h2.touched elemE e).2; omega
    have HT3 : Hid (∀ k, touch (.slice a2 s.late.length c2) = some k → k < w2.heap.size) := fun k hk => (h3.touched elemE hk).2
    have P2 := h2.below b23
    have P3 := h3.below b23
    clear h2 h3 k0 k1 k2 C2'
    go_wp2_with fail
    generalize hbo : w2.heap.size = bo at *
    generalize w2.alloc (.cells #[.slice a1 s.kept.length c1, .slice a2 s.late.length c2, .int .i64 s.lock] 26) = w4 at *
    obtain ⟨p0, g0⟩ := ob.2 0 _ rfl
    obtain ⟨p1, g1⟩ := ob.2 1 _ rfl
    obtain ⟨p2, g2⟩ := ob.2 2 _ rfl
    have hrb : w.heap.size + 1 < w1.heap.size := by omega
    by_cases hp : isPl upto
    · have eM := dUnhide PY (dUnhide HS) hp
      have CP := dHide fun W => specOk_yes upto hp W
      clear PN PY hp
      refine (dUnhide CP _).mono ?_
      rintro r w5 ⟨rfl, rfl⟩
      clear CP
      have BX0 := ob.put 0 (.slice none 0 0)
      have P30 := ApR.put elemE P3 T3 (o' := 0) (.slice none 0 0)
      have hB0 : Below w1.heap.size w1 (w4.setCell ⟨bo, 0, none⟩ (.slice none 0 0)) := b14.setCell (p := ⟨bo, 0, none⟩) (by simp only; omega) _
      have KX := dHide fun W (hb : Below w1.heap.size w1 W) => dUnhide K W (belowThen b1 hb)
      have HK1 := dHide fun W (hb : Below w1.heap.size w1 W) => dUnhide HK W (belowThen B1 hb)
      have hbl : bo < (w4.setCell ⟨bo, 0, none⟩ (.slice none 0 0)).heap.size := by have := ob.lt; simpa using this
      have BX1 : BxZ (w4.setCell ⟨bo, 0, none⟩ (.slice none 0 0)) w1.heap.size bo [.slice none 0 0, .slice a2 s.late.length c2, .int .i64 s.lock] := ⟨by omega, BX0.2⟩
      have HB1 := dHide BX1
      have HP3 := dHide P30
      have HHB := dHide hB0
      clear BX0 BX1 P30 hB0 P2 P3 h4 T2 b04 b23 b2 ob K HK
      go_wp2
      generalize w4.setCell ⟨bo, 0, none⟩ (.slice none 0 0) = w6 at *
      go_loopw [7] (fun i wr => ∃ (k : Nat) (v6 : Value), i = .int .i64 (k : Int) ∧ k ≤ s.kept.length ∧ BxZ wr w1.heap.size bo [v6, .slice a2 s.late.length c2, .int .i64 s.lock] ∧ ApE wr w1.heap.size v6 (trimL (s.kept.take k) upto) ∧ touch v6 ≠ some bo ∧ Hid (ApE wr w1.heap.size (.slice a2 s.late.length c2) s.late) ∧ (touch v6 = none ∨ touch v6 ≠ touch (.slice a2 s.late.length c2)) ∧ Below w1.heap.size w1 wr) (fun i _ => s.kept.length - (intOf i).toNat)
      case atStart => exact ⟨0, _, rfl, Nat.zero_le _, dUnhide HB1, .inl ⟨by simp [trimL], none, rfl⟩, by simp [touch], dUnhide HP3, .inl rfl, dUnhide HHB⟩
      case round =>
        obtain ⟨k, v6, rfl, hk, BX, P6, TB6, PL, SEP, hb⟩ := hrel
        obtain ⟨Xr, Zr, Br⟩ := dUnhide KX wr hb
        have k0 := (Xr.2 0 _ rfl).1
        clear Xr
        by_cases hlt : (k : Int) < (s.kept.length : Int)
        · have hkl' : k < s.kept.length := by omega
          have hS := dHide (trimL_take s.kept upto k hkl')
          have hlen0 := trimL_len (s.kept.take k) upto
          have hlt0 : (s.kept.take k).length = k := by simp; omega
          rw [hlt0] at hlen0
          obtain ⟨b, off, rfl, hc⟩ := (dUnhide HK1 wr hb).ent hkl'
          have hbw : b < w1.heap.size := by
            obtain ⟨b2, off2, e2, hc2⟩ := (dUnhide HK1 w1 (Below.refl _ _)).ent hkl'
            cases e2
            exact dCell_lt (hc2 k hkl').1
          obtain ⟨q0, q1, q2, q3⟩ := hc k hkl'
          have RE : Hid (∀ (w : World) T, Rw 4 Ent.cl (w.alloc (.cells #[.int .i64 s.kept[k].pl, .int .i64 s.kept[k].wave, .bool s.kept[k].hole, .string s.kept[k].data] T)) (.slice (some ⟨w.heap.size, 0, none⟩) 1 1) [s.kept[k]]) := fun w T => rw_one w s.kept[k] T 1 (by omega)
          generalize s.kept[k] = y at *
          generalize trimL (s.kept.take k) upto = L at *
          obtain ⟨yx, yw, yh, yd⟩ := y
          simp only at *
          clear hc hlt0
          by_cases hx : upto < yx
          · have eS := dHide ((dUnhide hS).trans (if_pos hx))
            have hd : decide (upto < yx) = true := decide_eq_true hx
            obtain ⟨a6, c6, rfl⟩ := ApR.slice elemE P6
            obtain ⟨o0, g0'⟩ := BX.2 0 _ rfl
            clear hS KX HK1
            go_wp2
            have bA : Below w1.heap.size w1 (wr.drew.alloc (.cells #[.int .i64 yx, .int .i64 yw, .bool yh, .string yd] 35)) := (belowThen hb (Below.refl _ _).drew).alloc (by have := hb.size; simpa using this) _
            have bwA : Below wr.heap.size wr (wr.drew.alloc (.cells #[.int .i64 yx, .int .i64 yw, .bool yh, .string yd] 35)) := belowThen (Below.refl _ _).drew (ba _ _)
            have PA := P6.below bwA
            have PLA := (dUnhide PL).below bwA
            have BXA := BX.below bwA
            have oA := (BXA.2 0 _ rfl).1
            have hblt := BX.lt
            have e0 : w1.cell? ⟨w.heap.size, 0, none⟩ = some (.slice (some ⟨b, off, none⟩) s.kept.length kc) := (hb.cell (p := ⟨w.heap.size, 0, none⟩) (by simp only; omega)).symm.trans k0
            have e1' : w1.cell? ⟨b, off + k * 4, none⟩ = some (.int .i64 yx) := (hb.cell (p := ⟨b, off + k * 4, none⟩) hbw).symm.trans q0
            have e2' : w1.cell? ⟨b, off + k * 4 + 1, none⟩ = some (.int .i64 yw) := (hb.cell (p := ⟨b, off + k * 4 + 1, none⟩) hbw).symm.trans q1
            have e3' : w1.cell? ⟨b, off + k * 4 + 2, none⟩ = some (.bool yh) := (hb.cell (p := ⟨b, off + k * 4 + 2, none⟩) hbw).symm.trans q2
            have e4' : w1.cell? ⟨b, off + k * 4 + 3, none⟩ = some (.string yd) := (hb.cell (p := ⟨b, off + k * 4 + 3, none⟩) hbw).symm.trans q3
            have m0 := (bA.cell (p := ⟨w.heap.size, 0, none⟩) (by simp only; omega)).trans e0
            have m1 := (bA.cell (p := ⟨b, off + k * 4, none⟩) hbw).trans e1'
            have m2 := (bA.cell (p := ⟨b, off + k * 4 + 1, none⟩) hbw).trans e2'
            have m3 := (bA.cell (p := ⟨b, off + k * 4 + 2, none⟩) hbw).trans e3'
            have m4 := (bA.cell (p := ⟨b, off + k * 4 + 3, none⟩) hbw).trans e4'
            refine wp_region_noPanic ?_
            refine wp_region_held_drew (S := fun W => W.cell? ⟨w.heap.size, 0, none⟩ = some (.slice (some ⟨b, off, none⟩) s.kept.length kc) ∧ W.cell? ⟨b, off + k * 4, none⟩ = some (.int .i64 yx) ∧ W.cell? ⟨b, off + k * 4 + 1, none⟩ = some (.int .i64 yw) ∧ W.cell? ⟨b, off + k * 4 + 2, none⟩ = some (.bool yh) ∧ W.cell? ⟨b, off + k * 4 + 3, none⟩ = some (.string yd)) (by kernel_rfl) ?_ (fun hHeld => ?_)
            · exact ⟨k0, q0, q1, q2, q3⟩
            refine wpAnyH_take (i := 0) (oi := { dst := some 34, op := Op.fieldAddr 26 (Operand.tmp 6) 0, type := 0, pos := "l06_store.go:144", after := #[], guard := none }) (v := ?_) rfl (by kernel_rfl) (by kernel_rfl) (by kernel_rfl) (fun _ _ _ h => h) (Or.inl ⟨by rfl, ?_⟩) (by assumption) ?_
            rotate_left 1
            · intro w hSw
              (try dsimp only at hSw)
              first | (go_simp; done) | (go_simp; with_reducible rfl)
            try simp only [Act.put, List.setIfInBounds_toArray, List.set_cons_zero, List.set_cons_succ]
            refine wpAnyH_take (i := 2) (oi := { dst := some 36, op := Op.fieldAddr 26 (Operand.tmp 2) 0, type := 0, pos := "l06_store.go:144", after := #[], guard := none }) (v := ?_) rfl (by kernel_rfl) (by kernel_rfl) (by kernel_rfl) (fun _ _ _ h => h) (Or.inl ⟨by rfl, ?_⟩) (by assumption) ?_
            rotate_left 1
            · intro w hSw
              (try dsimp only at hSw)
              first | (go_simp; done) | (go_simp; with_reducible rfl)
            try simp only [Act.put, List.setIfInBounds_toArray, List.set_cons_zero, List.set_cons_succ]
            refine wpAnyH_take (i := 3) (oi := { dst := some 37, op := Op.load 24 (Operand.tmp 36), type := 24, pos := "l06_store.go:144", after := #[{ on := 2, ground := Ground.data }], guard := none }) (v := ?_) rfl (by kernel_rfl) (by kernel_rfl) (by kernel_rfl) (fun _ _ _ h => h) (Or.inl ⟨by rfl, ?_⟩) (by assumption) ?_
            rotate_left 1
            · intro w hSw
              (try dsimp only at hSw)
              first | (go_simp; done) | (go_simp; with_reducible rfl)
            try simp only [Act.put, List.setIfInBounds_toArray, List.set_cons_zero, List.set_cons_succ]
            refine wpAnyH_take (i := 4) (oi := { dst := some 38, op := Op.move (Operand.tmp 7), type := 3, pos := "l06_store.go:144", after := #[], guard := none }) (v := ?_) rfl (by kernel_rfl) (by kernel_rfl) (by kernel_rfl) (fun _ _ _ h => h) (Or.inl ⟨by rfl, ?_⟩) (by assumption) ?_
            rotate_left 1
            · intro w hSw
              (try dsimp only at hSw)
              first | (go_simp; done) | (go_simp; with_reducible rfl)
            try simp only [Act.put, List.setIfInBounds_toArray, List.set_cons_zero, List.set_cons_succ]
            refine wpAnyH_take (i := 5) (oi := { dst := some 39, op := Op.indexAddr 24 (Operand.tmp 37) (Operand.tmp 38), type := 0, pos := "l06_store.go:144", after := #[{ on := 3, ground := Ground.data }, { on := 4, ground := Ground.data }], guard := none }) (v := ?_) rfl (by kernel_rfl) (by kernel_rfl) (by kernel_rfl) (fun _ _ _ h => h) (Or.inl ⟨by rfl, ?_⟩) (by assumption) ?_
            rotate_left 1
            · intro w hSw
              (try dsimp only at hSw)
              first | (go_simp; done) | (go_simp; with_reducible rfl)
            try simp only [Act.put, List.setIfInBounds_toArray, List.set_cons_zero, List.set_cons_succ]
            refine wpAnyH_take (i := 6) (oi := { dst := some 40, op := Op.load 35 (Operand.tmp 39), type := 35, pos := "l06_store.go:144", after := #[{ on := 5, ground := Ground.data }], guard := none }) (v := ?_) rfl (by kernel_rfl) (by kernel_rfl) (by kernel_rfl) (fun _ _ _ h => h) (Or.inl ⟨by rfl, ?_⟩) (by assumption) ?_
            rotate_left 1
            · intro w hSw
              (try dsimp only at hSw)
              first | (go_simp; done) | (go_simp; with_reducible rfl)
            try simp only [Act.put, List.setIfInBounds_toArray, List.set_cons_zero, List.set_cons_succ]
            refine wpAnyH_ready (rs := [1, 7]) (by kernel_rfl) (by simp) ?_
            refine AllReadyH.cons (o := { dst := some 35, op := Op.load 24 (Operand.tmp 34), type := 24, pos := "l06_store.go:144", after := #[{ on := 0, ground := Ground.data }], guard := none }) rfl (fun K hK => ?_) (AllReadyH.cons (o := { dst := some 41, op := Op.buildSlice 24 1 #[(0, Operand.tmp 40)], type := 24, pos := "l06_store.go:144", after := #[{ on := 6, ground := Ground.data }], guard := none }) rfl (fun K hK => ?_) AllReadyH.nil)
            · have od : wr.drew.cell? ⟨bo, 0, none⟩ = some (.slice a6 L.length c6) := o0
              go_simp
              refine hK.out _ _ ?_ (fun hHeld => ?_)
              · exact ⟨k0, q0, q1, q2, q3⟩
              clear hK K
              try simp only [Act.put, List.setIfInBounds_toArray, List.set_cons_zero, List.set_cons_succ]
              refine wpAnyH_ready (rs := [7]) (by kernel_rfl) (by simp) ?_
              refine AllReadyH.cons (o := { dst := some 41, op := Op.buildSlice 24 1 #[(0, Operand.tmp 40)], type := 24, pos := "l06_store.go:144", after := #[{ on := 6, ground := Ground.data }], guard := none }) rfl (fun K hK => ?_) AllReadyH.nil
              go_simp
              refine hK.out _ _ ?_ (fun hHeld => ?_)
              · exact ⟨m0, m1, m2, m3, m4⟩
              clear hK K
              try simp only [Act.put, List.setIfInBounds_toArray, List.set_cons_zero, List.set_cons_succ]
              refine wpAnyH_ready (rs := [8]) (by kernel_rfl) (by simp) ?_
              refine AllReadyH.cons (o := { dst := some 42, op := Op.call { callee := Callee.builtin Builtin.append, args := #[Operand.tmp 35, Operand.tmp 41], argTypes := #[24, 24] }, type := 24, pos := "l06_store.go:144", after := #[{ on := 1, ground := Ground.data }, { on := 7, ground := Ground.data }], guard := none }) rfl (fun K hK => ?_) AllReadyH.nil
              refine step_apR elemE rfl _ _ rfl w1.heap.size _ L rfl PA _ [⟨yx, yw, yh, yd⟩] rfl (dUnhide RE _ _) (by simp <;> omega) (by simp <;> omega) (by have := hb.size; simp <;> omega) ?_
              intro v7 w7 P7 g7 t7
              have B7 := BXA.grown g7 TB6
              have hb7 := bA.grown g7 (by have := hb.size; simp <;> omega) (fun j hj => (PA.touched elemE hj).1)
              have PL7 := ApR.kept elemE PLA g7 (by rcases SEP with h | h; exact .inl h; exact .inr (fun e => h e.symm))
              have TB7 : touch v7 ≠ some bo := fun e => by
                rcases t7 with h | h
                · exact TB6 (h ▸ e)
                · have := h bo e; simp at this; omega
              have SEP7 : touch v7 = none ∨ touch v7 ≠ touch (.slice a2 s.late.length c2) := by
                rcases t7 with h | h
                · rw [h]; exact SEP
                · by_cases hn : touch v7 = none
                  · exact .inl hn
                  · right
                    intro e
                    cases ht : touch v7 with
                    | none => exact hn ht
                    | some j =>
                      have h1 := h j ht
                      rw [ht] at e
                      have h2 := (PLA.touched elemE e.symm).2
                      simp at h1 h2
                      omega
              have r0 := (hb7.cell (p := ⟨w.heap.size, 0, none⟩) (by simp only; omega)).trans e0
              have r1 := (hb7.cell (p := ⟨b, off + k * 4, none⟩) hbw).trans e1'
              have r2 := (hb7.cell (p := ⟨b, off + k * 4 + 1, none⟩) hbw).trans e2'
              have r3 := (hb7.cell (p := ⟨b, off + k * 4 + 2, none⟩) hbw).trans e3'
              have r4 := (hb7.cell (p := ⟨b, off + k * 4 + 3, none⟩) hbw).trans e4'
              obtain ⟨a7, c7, rfl⟩ := ApR.slice elemE P7
              obtain ⟨o7, g7'⟩ := B7.2 0 _ rfl
              refine hK.out _ _ ?_ (fun hHeld => ?_)
              · exact ⟨r0, r1, r2, r3, r4⟩
              clear hK K
              try simp only [Act.put, List.setIfInBounds_toArray, List.set_cons_zero, List.set_cons_succ]
              refine wpAnyH_take (i := 9) (oi := { dst := some 43, op := Op.fieldAddr 26 (Operand.tmp 6) 0, type := 0, pos := "l06_store.go:144", after := #[{ on := 0, ground := Ground.phase }, { on := 1, ground := Ground.phase }, { on := 2, ground := Ground.phase }, { on := 3, ground := Ground.phase }, { on := 4, ground := Ground.phase }, { on := 5, ground := Ground.phase }, { on := 6, ground := Ground.phase }, { on := 7, ground := Ground.phase }, { on := 8, ground := Ground.phase }], guard := none }) (v := ?_) rfl (by kernel_rfl) (by kernel_rfl) (by kernel_rfl) (fun _ _ _ h => h) (Or.inl ⟨by rfl, ?_⟩) (by assumption) ?_
              rotate_left 1
              · intro w hSw
                (try dsimp only at hSw)
                first | (go_simp; done) | (go_simp; with_reducible rfl)
              try simp only [Act.put, List.setIfInBounds_toArray, List.set_cons_zero, List.set_cons_succ]
              refine wpAnyH_ready (rs := [10]) (by kernel_rfl) (by simp) ?_
              refine AllReadyH.cons (o := { dst := none, op := Op.store 24 (Operand.tmp 43) (Operand.tmp 42), type := 0, pos := "l06_store.go:144", after := #[{ on := 9, ground := Ground.data }, { on := 8, ground := Ground.data }, { on := 8, ground := Ground.chain }, { on := 0, ground := Ground.phase }, { on := 1, ground := Ground.phase }, { on := 2, ground := Ground.phase }, { on := 3, ground := Ground.phase }, { on := 4, ground := Ground.phase }, { on := 5, ground := Ground.phase }, { on := 6, ground := Ground.phase }, { on := 7, ground := Ground.phase }, { on := 8, ground := Ground.phase }], guard := none }) rfl (fun K hK => ?_) AllReadyH.nil
              go_simp
              refine hK.out _ _ ?_ (fun hHeld => ?_)
              · exact ⟨set_other r0 (.inl (by omega)), set_other r1 (.inl (by omega)), set_other r2 (.inl (by omega)), set_other r3 (.inl (by omega)), set_other r4 (.inl (by omega))⟩
              clear hK K
              try simp only [Act.put]
              refine wpAnyH_done (by kernel_rfl) ?_ _
              refine NoPanic.normal ?_
              have BX8 := dHide (B7.put 0 (.slice a7 (L ++ [(⟨yx, yw, yh, yd⟩ : Ent)]).length c7))
              have P8 := dHide (ApR.put elemE P7 TB7 (o' := 0) (.slice a7 (L ++ [(⟨yx, yw, yh, yd⟩ : Ent)]).length c7))
              have PL8 := dHide (ApR.put elemE PL7 T3 (o' := 0) (.slice a7 (L ++ [(⟨yx, yw, yh, yd⟩ : Ent)]).length c7))
              have hb8 := dHide (hb7.setCell (p := ⟨bo, 0, none⟩) (by simp only; omega) (.slice a7 (L ++ [(⟨yx, yw, yh, yd⟩ : Ent)]).length c7))
              have hln : (L ++ [(⟨yx, yw, yh, yd⟩ : Ent)]).length = L.length + 1 := by simp
              rw [hln] at BX8 P8 PL8 hb8 TB7 SEP7
              clear hln r0 r1 r2 r3 r4 o7 g7' B7 P7 PL7 hb7 g7 t7 hHeld BXA PA PLA bA e0 e1' e2' e3' e4' q0 q1 q2 q3 k0 o0 g0' BX P6 PL hb RE
              go_wp2
              go_roundw
              case rel => exact ⟨k + 1, _, by go_num, by omega, dUnhide BX8, by rw [dUnhide eS]; exact dUnhide P8, TB7, dUnhide PL8, SEP7, dUnhide hb8⟩
              case measure => simp [intOf]; omega
            · go_simp
              refine hK.out _ _ ?_ (fun hHeld => ?_)
              · exact ⟨m0, m1, m2, m3, m4⟩
              clear hK K
              try simp only [Act.put, List.setIfInBounds_toArray, List.set_cons_zero, List.set_cons_succ]
              refine wpAnyH_ready (rs := [1]) (by kernel_rfl) (by simp) ?_
              refine AllReadyH.cons (o := { dst := some 35, op := Op.load 24 (Operand.tmp 34), type := 24, pos := "l06_store.go:144", after := #[{ on := 0, ground := Ground.data }], guard := none }) rfl (fun K hK => ?_) AllReadyH.nil
              go_simp
              refine hK.out _ _ ?_ (fun hHeld => ?_)
              · exact ⟨m0, m1, m2, m3, m4⟩
              clear hK K
              try simp only [Act.put, List.setIfInBounds_toArray, List.set_cons_zero, List.set_cons_succ]
              refine wpAnyH_ready (rs := [8]) (by kernel_rfl) (by simp) ?_
              refine AllReadyH.cons (o := { dst := some 42, op := Op.call { callee := Callee.builtin Builtin.append, args := #[Operand.tmp 35, Operand.tmp 41], argTypes := #[24, 24] }, type := 24, pos := "l06_store.go:144", after := #[{ on := 1, ground := Ground.data }, { on := 7, ground := Ground.data }], guard := none }) rfl (fun K hK => ?_) AllReadyH.nil
              refine step_apR elemE rfl _ _ rfl w1.heap.size _ L rfl PA _ [⟨yx, yw, yh, yd⟩] rfl (dUnhide RE _ _) (by simp <;> omega) (by simp <;> omega) (by have := hb.size; simp <;> omega) ?_
              intro v7 w7 P7 g7 t7
              have B7 := BXA.grown g7 TB6
              have hb7 := bA.grown g7 (by have := hb.size; simp <;> omega) (fun j hj => (PA.touched elemE hj).1)
              have PL7 := ApR.kept elemE PLA g7 (by rcases SEP with h | h; exact .inl h; exact .inr (fun e => h e.symm))
              have TB7 : touch v7 ≠ some bo := fun e => by
                rcases t7 with h | h
                · exact TB6 (h ▸ e)
                · have := h bo e; simp at this; omega
              have SEP7 : touch v7 = none ∨ touch v7 ≠ touch (.slice a2 s.late.length c2) := by
                rcases t7 with h | h
                · rw [h]; exact SEP
                · by_cases hn : touch v7 = none
                  · exact .inl hn
                  · right
                    intro e
                    cases ht : touch v7 with
                    | none => exact hn ht
                    | some j =>
                      have h1 := h j ht
                      rw [ht] at e
                      have h2 := (PLA.touched elemE e.symm).2
                      simp at h1 h2
                      omega
              have r0 := (hb7.cell (p := ⟨w.heap.size, 0, none⟩) (by simp only; omega)).trans e0
              have r1 := (hb7.cell (p := ⟨b, off + k * 4, none⟩) hbw).trans e1'
              have r2 := (hb7.cell (p := ⟨b, off + k * 4 + 1, none⟩) hbw).trans e2'
              have r3 := (hb7.cell (p := ⟨b, off + k * 4 + 2, none⟩) hbw).trans e3'
              have r4 := (hb7.cell (p := ⟨b, off + k * 4 + 3, none⟩) hbw).trans e4'
              obtain ⟨a7, c7, rfl⟩ := ApR.slice elemE P7
              obtain ⟨o7, g7'⟩ := B7.2 0 _ rfl
              refine hK.out _ _ ?_ (fun hHeld => ?_)
              · exact ⟨r0, r1, r2, r3, r4⟩
              clear hK K
              try simp only [Act.put, List.setIfInBounds_toArray, List.set_cons_zero, List.set_cons_succ]
              refine wpAnyH_take (i := 9) (oi := { dst := some 43, op := Op.fieldAddr 26 (Operand.tmp 6) 0, type := 0, pos := "l06_store.go:144", after := #[{ on := 0, ground := Ground.phase }, { on := 1, ground := Ground.phase }, { on := 2, ground := Ground.phase }, { on := 3, ground := Ground.phase }, { on := 4, ground := Ground.phase }, { on := 5, ground := Ground.phase }, { on := 6, ground := Ground.phase }, { on := 7, ground := Ground.phase }, { on := 8, ground := Ground.phase }], guard := none }) (v := ?_) rfl (by kernel_rfl) (by kernel_rfl) (by kernel_rfl) (fun _ _ _ h => h) (Or.inl ⟨by rfl, ?_⟩) (by assumption) ?_
              rotate_left 1
              · intro w hSw
                (try dsimp only at hSw)
                first | (go_simp; done) | (go_simp; with_reducible rfl)
              try simp only [Act.put, List.setIfInBounds_toArray, List.set_cons_zero, List.set_cons_succ]
              refine wpAnyH_ready (rs := [10]) (by kernel_rfl) (by simp) ?_
              refine AllReadyH.cons (o := { dst := none, op := Op.store 24 (Operand.tmp 43) (Operand.tmp 42), type := 0, pos := "l06_store.go:144", after := #[{ on := 9, ground := Ground.data }, { on := 8, ground := Ground.data }, { on := 8, ground := Ground.chain }, { on := 0, ground := Ground.phase }, { on := 1, ground := Ground.phase }, { on := 2, ground := Ground.phase }, { on := 3, ground := Ground.phase }, { on := 4, ground := Ground.phase }, { on := 5, ground := Ground.phase }, { on := 6, ground := Ground.phase }, { on := 7, ground := Ground.phase }, { on := 8, ground := Ground.phase }], guard := none }) rfl (fun K hK => ?_) AllReadyH.nil
              go_simp
              refine hK.out _ _ ?_ (fun hHeld => ?_)
              · exact ⟨set_other r0 (.inl (by omega)), set_other r1 (.inl (by omega)), set_other r2 (.inl (by omega)), set_other r3 (.inl (by omega)), set_other r4 (.inl (by omega))⟩
              clear hK K
              try simp only [Act.put]
              refine wpAnyH_done (by kernel_rfl) ?_ _
              refine NoPanic.normal ?_
              have BX8 := dHide (B7.put 0 (.slice a7 (L ++ [(⟨yx, yw, yh, yd⟩ : Ent)]).length c7))
              have P8 := dHide (ApR.put elemE P7 TB7 (o' := 0) (.slice a7 (L ++ [(⟨yx, yw, yh, yd⟩ : Ent)]).length c7))
              have PL8 := dHide (ApR.put elemE PL7 T3 (o' := 0) (.slice a7 (L ++ [(⟨yx, yw, yh, yd⟩ : Ent)]).length c7))
              have hb8 := dHide (hb7.setCell (p := ⟨bo, 0, none⟩) (by simp only; omega) (.slice a7 (L ++ [(⟨yx, yw, yh, yd⟩ : Ent)]).length c7))
              have hln : (L ++ [(⟨yx, yw, yh, yd⟩ : Ent)]).length = L.length + 1 := by simp
              rw [hln] at BX8 P8 PL8 hb8 TB7 SEP7
              clear hln r0 r1 r2 r3 r4 o7 g7' B7 P7 PL7 hb7 g7 t7 hHeld BXA PA PLA bA e0 e1' e2' e3' e4' q0 q1 q2 q3 k0 o0 g0' BX P6 PL hb RE
              go_wp2
              go_roundw
              case rel => exact ⟨k + 1, _, by go_num, by omega, dUnhide BX8, by rw [dUnhide eS]; exact dUnhide P8, TB7, dUnhide PL8, SEP7, dUnhide hb8⟩
              case measure => simp [intOf]; omega
          · have eS := dHide ((dUnhide hS).trans (if_neg hx))
            have hd : decide (upto < yx) = false := decide_eq_false hx
            clear hS hx q1 q2 q3 RE KX HK1
            go_wp2
            go_roundw
            case rel => exact ⟨k + 1, _, by go_num, by omega, BX, by rw [dUnhide eS]; exact P6, TB6, PL, SEP, hb⟩
            case measure => simp [intOf]; omega
        · have e1 : s.kept.take k = s.kept := List.take_of_length_le (by omega)
          rw [e1] at P6
          obtain ⟨a6, c6, rfl⟩ := ApR.slice elemE P6
          obtain ⟨o0, -⟩ := BX.2 0 _ rfl
          obtain ⟨o1, -⟩ := BX.2 1 _ rfl
          obtain ⟨o2, -⟩ := BX.2 2 _ rfl
          obtain ⟨z0, f0⟩ := Zr.2 0 _ rfl
          obtain ⟨z1, f1⟩ := Zr.2 1 _ rfl
          obtain ⟨z2, f2⟩ := Zr.2 2 _ rfl
          have O4 : OwS wr w1.heap.size (.agg #[.slice a6 (trimL s.kept upto).length c6, .slice a2 s.late.length c2, .int .i64 s.lock]) ⟨trimL s.kept upto, s.late, s.lock⟩ := ⟨_, _, rfl, P6, dUnhide PL, SEP⟩
          obtain ⟨hx, hO⟩ := OwS.into O4 hrb Zr
          have BB := dHide (below_three Br (Nat.le_succ w.heap.size) (.slice a6 (trimL s.kept upto).length c6) (.slice a2 s.late.length c2) (.int .i64 s.lock))
          have HX := dHide hx
          have HO := dHide (hO.mono (base' := w.heap.size) (by omega))
          have hrb2 : w.heap.size + 1 < bo := by omega
          clear O4 hx hO Zr Br P6 PL SEP KX HK1 e1 BX TB6
          generalize (trimL s.kept upto).length = nT at *
          go_wp2
          generalize ((wr.setCell ⟨w.heap.size + 1, 0, none⟩ (.slice a6 nT c6)).setCell ⟨w.heap.size + 1, 1, none⟩ (.slice a2 s.late.length c2)).setCell ⟨w.heap.size + 1, 2, none⟩ (.int .i64 s.lock) = V at *
          have q0 := dUnhide HX 0 _ rfl
          have q1 := dUnhide HX 1 _ rfl
          have q2 := dUnhide HX 2 _ rfl
          clear z0 z1 z2 f0 f1 f2 o0 o1 o2 k0
          subst eM
          refine bodyPost_ret (v := .tuple #[.agg #[.slice a6 nT c6, .slice a2 s.late.length c2, .int .i64 s.lock], .bool true]) (by simp [results, Try.results30, go_sem, q0, q1, q2]) rfl ⟨⟨_, rfl, dUnhide HO⟩, dUnhide BB⟩
    · have eM := dUnhide PN (dUnhide HS) hp
      have CP := dHide fun W => specOk_no upto hu hp W
      clear PN PY hp
      refine (dUnhide CP _).mono ?_
      rintro r w5 ⟨rfl, rfl⟩
      clear CP
      obtain ⟨-, Z6, B6⟩ := dUnhide K _ b04
      obtain ⟨z0, f0⟩ := Z6.2 0 _ rfl
      obtain ⟨z1, f1⟩ := Z6.2 1 _ rfl
      obtain ⟨z2, f2⟩ := Z6.2 2 _ rfl
      have O4 : OwS w4 w1.heap.size (.agg #[.slice a1 s.kept.length c1, .slice a2 s.late.length c2, .int .i64 s.lock]) s := ⟨_, _, rfl, P2, P3, h4⟩
      obtain ⟨hx, hO⟩ := OwS.into O4 hrb Z6
      have BB := dHide (below_three B6 (Nat.le_succ w.heap.size) (.slice a1 s.kept.length c1) (.slice a2 s.late.length c2) (.int .i64 s.lock))
      have HX := dHide hx
      have HO := dHide (hO.mono (base' := w.heap.size) (by omega))
      clear O4 hx hO Z6 B6 P2 P3 h4 T2 T3 HT3 K HK b04
      go_wp2
      generalize ((w4.setCell ⟨w.heap.size + 1, 0, none⟩ (.slice a1 s.kept.length c1)).setCell ⟨w.heap.size + 1, 1, none⟩ (.slice a2 s.late.length c2)).setCell ⟨w.heap.size + 1, 2, none⟩ (.int .i64 s.lock) = V at *
      have q0 := dUnhide HX 0 _ rfl
      have q1 := dUnhide HX 1 _ rfl
      have q2 := dUnhide HX 2 _ rfl
      clear z0 z1 z2 f0 f1 f2 p0 p1 p2 g0 g1 g2
      subst eM
      refine bodyPost_ret (v := .tuple #[.agg #[.slice a1 s.kept.length c1, .slice a2 s.late.length c2, .int .i64 s.lock], .bool false]) (by simp [results, Try.results30, go_sem, q0, q1, q2]) rfl ⟨⟨_, rfl, dUnhide HO⟩, dUnhide BB⟩
  · obtain rfl := hr1.of_no hs
    have eM := dUnhide PB hs
    obtain ⟨X1, Z1, B1⟩ := dUnhide K w1 b1
    obtain ⟨z0, f0⟩ := Z1.2 0 _ rfl
    obtain ⟨z1, f1⟩ := Z1.2 1 _ rfl
    obtain ⟨z2, f2⟩ := Z1.2 2 _ rfl
    have ZZ := ((Z1.put 0 (.slice none 0 0)).put 1 (.slice none 0 0)).put 2 (.int .i64 0)
    have BB := below_three B1 (Nat.le_succ w.heap.size) (.slice none 0 0) (.slice none 0 0) (.int .i64 0)
    clear hr1 hs PB PN PY X1 Z1 K C2 b1 C1 HK
    go_wp2
    have q0 := (ZZ.2 0 _ rfl).1
    have q1 := (ZZ.2 1 _ rfl).1
    have q2 := (ZZ.2 2 _ rfl).1
    clear ZZ z0 z1 z2 f0 f1 f2
    generalize ((w1.setCell ⟨w.heap.size + 1, 0, none⟩ (.slice none 0 0)).setCell ⟨w.heap.size + 1, 1, none⟩ (.slice none 0 0)).setCell ⟨w.heap.size + 1, 2, none⟩ (.int .i64 0) = V at *
    subst eM
    refine bodyPost_ret (v := .tuple #[.agg #[.slice none 0 0, .slice none 0 0, .int .i64 0], .bool false]) (by simp [results, Try.results30, go_sem, q0, q1, q2]) rfl ⟨⟨_, rfl, OwS.zero _ _⟩, BB⟩
end Go.Proofs.Ytenpnnocdjakdaa
