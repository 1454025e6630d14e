/- spec's l6Takes, StorePut. -/
import Derived.Test.YtejmfohkobhidaaGbG
namespace Go.Proofs.Ytejmfohkobhidaa
open Go.ChangeShapes Go.WideShapes Go.ChangeAt Go.RowKit
set_option linter.unusedVariables false
set_option linter.unusedSimpArgs false
set_option maxRecDepth 100000

theorem l6Takes_any (v : Value) (s : St) (e : Ent) (w : World) (hv : Rs w v s) (he : entP e) :
    Calls Try.prog 34 #[v, e.val] w fun r w' => RetB (takesP s e) r ∧ Below w.heap.size w w' := by
  obtain ⟨kv, lv, rfl, ⟨-, ka, kc, rfl, -, -⟩, ⟨-, la, lc, rfl, -, -⟩⟩ := hv
  obtain ⟨x, wv, ho, d⟩ := e
  have hp : isPl x := he.1
  have hx := hp
  obtain ⟨h0, h1, h2, h3, h4⟩ := hx
  have TP : Hid (takesP s ⟨x, wv, ho, d⟩ ↔ if wv = 0 then s.lock < x / 4294967296 else s.lock < wv) := Iff.rfl
  generalize takesP s ⟨x, wv, ho, d⟩ = P at *
  generalize s.lock = sl at *
  unfold Ent.val
  simp only
  by_cases hw : wv = 0
  · subst hw
    rw [if_pos rfl] at TP
    have R : RetB P (.returned (.bool (decide (sl < x / 4294967296)))) := ⟨_, rfl, fun h => (dUnhide TP).2 (of_decide_eq_true h), fun h => decide_eq_true ((dUnhide TP).1 h)⟩
    clear he
    go_enter Try.func34, Try.ntmps34
    go_wp2
    go_quiet (first | (go_at_call 71; refine Calls.quiet_of_same (flip (specEpoch_yes x hp _))))
    go_wp2
    go_ret
    exact ⟨R, below_drewN (((Below.refl _ _).alloc (Nat.le_refl _) _).alloc (by simp) _) _⟩
  · rw [if_neg hw] at TP
    have hw' : (wv == 0) = false := by simp [hw]
    have R : RetB P (.returned (.bool (decide (sl < wv)))) := ⟨_, rfl, fun h => (dUnhide TP).2 (of_decide_eq_true h), fun h => decide_eq_true ((dUnhide TP).1 h)⟩
    clear he hw
    go_enter Try.func34, Try.ntmps34
    go_wp2
    go_ret
    exact ⟨R, ((Below.refl _ _).alloc (Nat.le_refl _) _).alloc (by simp) _⟩
/-- A store of nothing. -/
def zeroSt : St := ⟨[], [], 0⟩
theorem OwS.zero (w : World) (base : Nat) : OwS w base (.agg #[.slice none 0 0, .slice none 0 0, .int .i64 0]) zeroSt := ⟨_, _, rfl, .inl ⟨rfl, none, rfl⟩, .inl ⟨rfl, none, rfl⟩, .inl rfl⟩
/-- What is put goes in. -/
def putP (s : St) (e : Ent) : Prop := entP e ∧ takesP s e ∧ s.late.length ≠ 20
open Classical in
/-- StorePut. -/
noncomputable def putM (s : St) (e : Ent) : St × Bool := if stP s then (if putP s e then (⟨s.kept, s.late ++ [e], s.lock⟩, true) else (s, false)) else (zeroSt, false)
theorem putM_bad {s : St} {e : Ent} (h : ¬ stP s) : putM s e = (zeroSt, false) := if_neg h
theorem putM_no {s : St} {e : Ent} (h : stP s) (hp : ¬ putP s e) : putM s e = (s, false) := (if_pos h).trans (if_neg hp)
theorem putM_yes {s : St} {e : Ent} (h : stP s) (hp : putP s e) : putM s e = (⟨s.kept, s.late ++ [e], s.lock⟩, true) := (if_pos h).trans (if_pos hp)
/-- The boxes of two records and of an answer. -/
theorem OwS.far {w : World} {base : Nat} {v : Value} {s : St} (h : OwS w base v s) {b o : Nat} (hb : b < base) (u : Value) : OwS (w.setCell ⟨b, o, none⟩ u) base v s := by
  obtain ⟨kv, lv, h1, h2, h3, h4⟩ := h
  exact ⟨kv, lv, h1, ApR.far elemE h2 hb u, ApR.far elemE h3 hb u, h4⟩
theorem OwS.shape {w : World} {base : Nat} {v : Value} {s : St} (h : OwS w base v s) : ∃ ka kc la lc, v = .agg #[.slice ka s.kept.length kc, .slice la s.late.length lc, .int .i64 s.lock] := by
  obtain ⟨kv, lv, h1, h2, h3, h4⟩ := h
  obtain ⟨ka, kc, rfl⟩ := ApR.slice elemE h2
  obtain ⟨la, lc, rfl⟩ := ApR.slice elemE h3
  exact ⟨ka, kc, la, lc, h1⟩
set_option maxHeartbeats 4000000 in
theorem specPut_any (v : Value) (s : St) (e : Ent) (w : World) (hv : Rs w v s) (hf : fitS s) (he : e.fits) :
    Calls Try.prog 9 #[v, e.val] w fun r w' => (∃ u, r = .returned (.tuple #[u, .bool (putM s e).2]) ∧ OwS w' w.heap.size u (putM s e).1) ∧ Below w.heap.size w w' := by
  have ba : ∀ (w : World) o, Below w.heap.size w (w.alloc o) := fun w o => (Below.refl _ _).alloc (Nat.le_refl _) o
  have C1 := dHide fun W (hb : Below w.heap.size w W) => specStoreOk_any v s W (hv.below hb) hf
  have C2 := dHide fun W (hb : Below w.heap.size w W) (h : stP s) => l6Copy_any v s W (hv.below hb) (by have := h.1.1; omega) (by have := h.2.1.1; omega)
  have C3 := dHide fun W => specEntOk_any e he W
  have C4 := dHide fun W (hb : Below w.heap.size w W) (h : entP e) => l6Takes_any v s e W (hv.below hb) h
  obtain ⟨kv, lv, rfl, ⟨-, ka, kc, rfl, -, -⟩, ⟨-, la, lc, rfl, -, -⟩⟩ := hv
  have PB : Hid (¬ stP s → putM s e = (zeroSt, false)) := putM_bad
  have PN : Hid (stP s → ¬ putP s e → putM s e = (s, false)) := putM_no
  have PY : Hid (stP s → putP s e → putM s e = (⟨s.kept, s.late ++ [e], s.lock⟩, true)) := putM_yes
  have PD : Hid (putP s e ↔ entP e ∧ takesP s e ∧ s.late.length ≠ 20) := Iff.rfl
  have RO : Hid (∀ (w : World) T, Rw 4 Ent.cl (w.alloc (.cells #[.int .i64 e.pl, .int .i64 e.wave, .bool e.hole, .string e.data] T)) (.slice (some ⟨w.heap.size, 0, none⟩) 1 1) [e]) := fun w T => rw_one w e T 1 (by omega)
  generalize putM s e = M at *
  clear hf he
  obtain ⟨x, wv, ho, d⟩ := e
  unfold Ent.val at *
  simp only at *
  have X0 := (BxZ.new w [.slice ka s.kept.length kc, .slice la s.late.length lc, .int .i64 s.lock] 26 (Nat.le_refl _)).below (belowThen (ba _ (.cells #[.int .i64 x, .int .i64 wv, .bool ho, .string d] 28)) (ba _ (.cells #[.slice none 0 0, .slice none 0 0, .int .i64 0] 26)))
  have Y0 := (BxZ.new (B := w.heap.size) (w.alloc (.cells #[.slice ka s.kept.length kc, .slice la s.late.length lc, .int .i64 s.lock] 26)) [.int .i64 x, .int .i64 wv, .bool ho, .string d] 28 (by simp)).below (ba _ (.cells #[.slice none 0 0, .slice none 0 0, .int .i64 0] 26))
  have Z0 := BxZ.new (B := w.heap.size) ((w.alloc (.cells #[.slice ka s.kept.length kc, .slice la s.late.length lc, .int .i64 s.lock] 26)).alloc (.cells #[.int .i64 x, .int .i64 wv, .bool ho, .string d] 28)) [.slice none 0 0, .slice none 0 0, .int .i64 0] 26 (by simp <;> omega)
  have B0 := belowThen (belowThen (ba w (.cells #[.slice ka s.kept.length kc, .slice la s.late.length lc, .int .i64 s.lock] 26)) (ba _ (.cells #[.int .i64 x, .int .i64 wv, .bool ho, .string d] 28))) (ba _ (.cells #[.slice none 0 0, .slice none 0 0, .int .i64 0] 26))
  have e1 : (w.alloc (.cells #[.slice ka s.kept.length kc, .slice la s.late.length lc, .int .i64 s.lock] 26)).heap.size = w.heap.size + 1 := by simp
  have e2 : ((w.alloc (.cells #[.slice ka s.kept.length kc, .slice la s.late.length lc, .int .i64 s.lock] 26)).alloc (.cells #[.int .i64 x, .int .i64 wv, .bool ho, .string d] 28)).heap.size = w.heap.size + 1 + 1 := by simp
  rw [e1] at Y0
  rw [e2] at Z0
  clear e1 e2
  go_enter Try.func9, Try.ntmps9
  go_wp2_with fail
  generalize ((w.alloc (.cells #[.slice ka s.kept.length kc, .slice la s.late.length lc, .int .i64 s.lock] 26)).alloc (.cells #[.int .i64 x, .int .i64 wv, .bool ho, .string d] 28)).alloc (.cells #[.slice none 0 0, .slice none 0 0, .int .i64 0] 26) = w0 at *
  have K : Hid (∀ W, Below w0.heap.size w0 W → BxZ W w.heap.size w.heap.size [.slice ka s.kept.length kc, .slice la s.late.length lc, .int .i64 s.lock] ∧ BxZ W w.heap.size (w.heap.size + 1) [.int .i64 x, .int .i64 wv, .bool ho, .string d] ∧ BxZ W w.heap.size (w.heap.size + 1 + 1) [.slice none 0 0, .slice none 0 0, .int .i64 0] ∧ Below w.heap.size w W) := fun W hb => ⟨X0.below hb, Y0.below hb, Z0.below hb, belowThen B0 hb⟩
  have hlt := Z0.lt
  clear X0 Y0 Z0
  refine (dUnhide C1 _ B0).mono ?_
  rintro r w1 ⟨hr1, b1⟩
  by_cases hs : stP s
  · obtain rfl := hr1.of_yes hs
    have HS := dHide hs
    clear hr1 PB hs
    obtain ⟨X1, -, -, B1⟩ := dUnhide K w1 b1
    have k0 := (X1.2 0 _ rfl).1
    have k1 := (X1.2 1 _ rfl).1
    have k2 := (X1.2 2 _ rfl).1
    have C2' := dHide (dUnhide C2 w1 B1 (dUnhide HS))
    clear X1 C2
    go_wp2_with fail
    refine (dUnhide C2').mono ?_
    rintro r w2 ⟨⟨u2, rfl, O2⟩, b2⟩
    have b12 := belowThen b1 b2
    obtain ⟨kv2, lv2, rfl, Pk, Pl, sep⟩ := O2
    have hs1 := B1.size
    have hb1s := b1.size
    have Pk0 := Pk.mono (base' := w0.heap.size) hb1s
    have Pl0 := Pl.mono (base' := w0.heap.size) hb1s
    obtain ⟨a1, c1, rfl⟩ := ApR.slice elemE Pk
    obtain ⟨a2, c2, rfl⟩ := ApR.slice elemE Pl
    have ob := BxZ.new (B := w0.heap.size) w2 [.slice a1 s.kept.length c1, .slice a2 s.late.length c2, .int .i64 s.lock] 26 b12.size
    have b23 := ba w2 (.cells #[.slice a1 s.kept.length c1, .slice a2 s.late.length c2, .int .i64 s.lock] 26)
    have hne : w0.heap.size ≤ w2.heap.size := b12.size
    have K3 : Hid (∀ W, Below (w2.alloc (.cells #[.slice a1 s.kept.length c1, .slice a2 s.late.length c2, .int .i64 s.lock] 26)).heap.size (w2.alloc (.cells #[.slice a1 s.kept.length c1, .slice a2 s.late.length c2, .int .i64 s.lock] 26)) W → BxZ W w0.heap.size w2.heap.size [.slice a1 s.kept.length c1, .slice a2 s.late.length c2, .int .i64 s.lock] ∧ ApE W w0.heap.size (.slice a1 s.kept.length c1) s.kept ∧ ApE W w0.heap.size (.slice a2 s.late.length c2) s.late ∧ Below w0.heap.size w0 W) := fun W hb => ⟨ob.below hb, (Pk0.below b23).below hb, (Pl0.below b23).below hb, belowThen (belowThen b12 b23) hb⟩
    have SEP := dHide sep
    have HT1 : Hid (∀ k, touch (.slice a1 s.kept.length c1) = some k → w0.heap.size ≤ k ∧ k < w2.heap.size) := fun k hk => Pk0.touched elemE hk
    have HT2 : Hid (∀ k, touch (.slice a2 s.late.length c2) = some k → w0.heap.size ≤ k ∧ k < w2.heap.size) := fun k hk => Pl0.touched elemE hk
    obtain ⟨-, Y3, -, -⟩ := dUnhide K _ (belowThen b12 b23)
    have y0 := (Y3.2 0 _ rfl).1
    have y1 := (Y3.2 1 _ rfl).1
    have y2 := (Y3.2 2 _ rfl).1
    have y3 := (Y3.2 3 _ rfl).1
    clear k0 k1 k2 ob Pk Pl Pk0 Pl0 b2 b1 B1 C2' sep hs1 hb1s b12 C1 Y3
    go_wp2_with fail
    generalize hbo : w2.heap.size = bo at *
    generalize w2.alloc (.cells #[.slice a1 s.kept.length c1, .slice a2 s.late.length c2, .int .i64 s.lock] 26) = w3 at *
    clear hbo b23
    -- how it ends where nothing is put
    have FIN : Hid (∀ W, Below w3.heap.size w3 W → ∃ V, V = ((W.setCell ⟨w.heap.size + 1 + 1, 0, none⟩ (.slice a1 s.kept.length c1)).setCell ⟨w.heap.size + 1 + 1, 1, none⟩ (.slice a2 s.late.length c2)).setCell ⟨w.heap.size + 1 + 1, 2, none⟩ (.int .i64 s.lock) ∧ Bx V (w.heap.size + 1 + 1) [.slice a1 s.kept.length c1, .slice a2 s.late.length c2, .int .i64 s.lock] ∧ OwS V w.heap.size (.agg #[.slice a1 s.kept.length c1, .slice a2 s.late.length c2, .int .i64 s.lock]) s ∧ Below w.heap.size w V) := fun W hb => by
      obtain ⟨-, pk, pl, hb0⟩ := dUnhide K3 W hb
      obtain ⟨-, -, zz, bb⟩ := dUnhide K W hb0
      have hw0 : w.heap.size ≤ w0.heap.size := B0.size
      exact ⟨_, rfl, (((zz.put 0 (.slice a1 s.kept.length c1)).put 1 (.slice a2 s.late.length c2)).put 2 (.int .i64 s.lock)).bx,
        (((OwS.far (s := s) ⟨_, _, rfl, pk, pl, dUnhide SEP⟩ (b := w.heap.size + 1 + 1) (o := 0) hlt (.slice a1 s.kept.length c1)).far (b := w.heap.size + 1 + 1) (o := 1) hlt (.slice a2 s.late.length c2)).far (b := w.heap.size + 1 + 1) (o := 2) hlt (.int .i64 s.lock)).mono hw0,
        ((bb.setCell (p := ⟨w.heap.size + 1 + 1, 0, none⟩) (by simp only; omega) _).setCell (p := ⟨w.heap.size + 1 + 1, 1, none⟩) (by simp only; omega) _).setCell (p := ⟨w.heap.size + 1 + 1, 2, none⟩) (by simp only; omega) _⟩
    obtain ⟨-, -, -, hb03⟩ := dUnhide K3 w3 (Below.refl _ _)
    refine (dUnhide C3 _).mono ?_
    rintro r w4 ⟨hr4, b4⟩
    clear y0 y1 y2 y3 C3
    -- the end where nothing is put, as a walk
    by_cases he : entP ⟨x, wv, ho, d⟩
    · obtain rfl := hr4.of_yes he
      have HE := dHide he
      obtain ⟨-, -, -, hb04⟩ := dUnhide K3 w4 b4
      obtain ⟨X4, Y4, -, B4⟩ := dUnhide K w4 hb04
      have k0 := (X4.2 0 _ rfl).1
      have k1 := (X4.2 1 _ rfl).1
      have k2 := (X4.2 2 _ rfl).1
      have y0 := (Y4.2 0 _ rfl).1
      have y1 := (Y4.2 1 _ rfl).1
      have y2 := (Y4.2 2 _ rfl).1
      have y3 := (Y4.2 3 _ rfl).1
      have C4' := dHide (dUnhide C4 w4 B4 he)
      clear hr4 he X4 Y4 hb04
      go_wp2_with fail
      refine (dUnhide C4').mono ?_
      rintro r w5 ⟨hr5, b5⟩
      have b35 := belowThen b4 b5
      clear k0 k1 k2 y0 y1 y2 y3 C4' b5 b4 B4
      by_cases htk : takesP s ⟨x, wv, ho, d⟩
      · obtain rfl := hr5.of_yes htk
        have HTK := dHide htk
        clear hr5 htk
        by_cases h20 : s.late.length = 20
        · have eM := dUnhide PN (dUnhide HS) fun h => ((dUnhide PD).1 h).2.2 h20
          have d20 : ((s.late.length : Int) == 20) = true := by rw [h20]; rfl
          clear h20 HTK HE
          obtain ⟨V, hV, hx, hO, hB⟩ := dUnhide FIN w5 b35
          obtain ⟨OE, -, -, hbE⟩ := dUnhide K3 w5 b35
          obtain ⟨XE, -, ZE, -⟩ := dUnhide K w5 hbE
          have o0 := (OE.2 0 _ rfl).1
          have o1 := (OE.2 1 _ rfl).1
          have o2 := (OE.2 2 _ rfl).1
          have k0 := (XE.2 0 _ rfl).1
          have k1 := (XE.2 1 _ rfl).1
          have k2 := (XE.2 2 _ rfl).1
          obtain ⟨z0, f0⟩ := ZE.2 0 _ rfl
          obtain ⟨z1, f1⟩ := ZE.2 1 _ rfl
          obtain ⟨z2, f2⟩ := ZE.2 2 _ rfl
          clear b35 PN PY PD K K3 FIN OE ZE XE hbE hb03 SEP RO C4 HS
          go_wp2
          rw [← hV]
          have q0 := hx 0 _ rfl
          have q1 := hx 1 _ rfl
          have q2 := hx 2 _ rfl
          clear hV hx z0 z1 z2 f0 f1 f2 o0 o1 o2 k0 k1 k2
          subst eM
          refine bodyPost_ret (v := .tuple #[.agg #[.slice a1 s.kept.length c1, .slice a2 s.late.length c2, .int .i64 s.lock], .bool false]) (by simp [results, Try.results9, go_sem, q0, q1, q2]) rfl ⟨⟨_, rfl, hO⟩, hB⟩
        · have eM := dUnhide PY (dUnhide HS) ((dUnhide PD).2 ⟨dUnhide HE, dUnhide HTK, h20⟩)
          have d20 : ((s.late.length : Int) == 20) = false := by
            have : ¬ (s.late.length : Int) = 20 := by omega
            simpa using this
          have hl20 : s.late.length ≤ 20 := (dUnhide HS).2.1.1
          obtain ⟨O5, pk5, pl5, hb05⟩ := dUnhide K3 w5 b35
          obtain ⟨X5, Y5, Z5, B5⟩ := dUnhide K w5 hb05
          have HO5 := dHide O5
          have O5lt := O5.lt
          have HZ5 := dHide Z5
          have HPK := dHide pk5
          have k0 := (X5.2 0 _ rfl).1
          have k1 := (X5.2 1 _ rfl).1
          have k2 := (X5.2 2 _ rfl).1
          have y0 := (Y5.2 0 _ rfl).1
          have y1 := (Y5.2 1 _ rfl).1
          have y2 := (Y5.2 2 _ rfl).1
          have y3 := (Y5.2 3 _ rfl).1
          have o1 := (O5.2 1 _ rfl).1
          clear h20 HTK HE X5 Y5 Z5 O5 PN PY PD pk5
          go_wp2_with (at_builtin; refine wp_apR elemE rfl _ _ rfl w0.heap.size (.slice a2 s.late.length c2) s.late rfl (pl5.below (ba _ _)) _ [⟨x, wv, ho, d⟩] rfl (dUnhide RO _ _) ?c1 ?c2 ?c3 ?_)
          case c1 => simp; omega
          case c2 => simp; omega
          case c3 => have := hb05.size; simp; omega
          intro v6 w6 P6 g6 t6
          have hbo5 : bo < w5.heap.size := O5lt
          have hgb : Below w0.heap.size w0 w6 := (belowThen hb05 (ba _ _)).grown g6 (by have := hb05.size; simp; omega) (fun k hk => (dUnhide HT2 k hk).1)
          have hB6 : Below w.heap.size w w6 := belowThen B0 hgb
          have O6 := ((dUnhide HO5).below (ba _ _)).grown g6 (fun e => by have := (dUnhide HT2 bo e).2; omega)
          have Z6 := ((dUnhide HZ5).below (ba _ _)).grown g6 (fun e => by have := (dUnhide HT2 _ e).1; omega)
          have pk6 : ApE w6 w0.heap.size (.slice a1 s.kept.length c1) s.kept := ((dUnhide HPK).below (ba _ _)).kept elemE g6 (by
            cases ht : touch (.slice a2 s.late.length c2) with
            | none => exact .inl rfl
            | some k =>
              right
              rcases dUnhide SEP with h | h
              · rw [h]; simp
              · rw [← ht]; exact h)
          have sep6 : Hid (touch (.slice a1 s.kept.length c1) = none ∨ touch (.slice a1 s.kept.length c1) ≠ touch v6) := by
            cases h1 : touch (.slice a1 s.kept.length c1) with
            | none => exact .inl rfl
            | some k =>
              right
              rcases t6 with h2 | h2
              · rw [h2, ← h1]
                rcases dUnhide SEP with h | h
                · rw [h] at h1; cases h1
                · exact h
              · intro e
                have := h2 k e.symm
                have := (dUnhide HT1 k h1).2
                simp at *
                omega
          have hv6 : Hid (touch v6 ≠ some bo) := fun e => by
            rcases t6 with h2 | h2
            · rw [h2] at e
              have := (dUnhide HT2 bo e).2
              omega
            · have := h2 bo e
              first | omega | (simp at this; omega)
          have hv1 : Hid (touch (.slice a1 s.kept.length c1) ≠ some bo) := fun e => by have := (dUnhide HT1 bo e).2; omega
          generalize s.late ++ [(⟨x, wv, ho, d⟩ : Ent)] = L at *
          have HP6 := dHide P6
          obtain ⟨a6, c6, rfl⟩ := ApR.slice elemE P6
          obtain ⟨o1', g1⟩ := O6.2 1 _ rfl
          have O7 := O6.put 1 (.slice a6 L.length c6)
          have Z7 := Z6.far (b' := bo) (o := 1) (by omega) (.slice a6 L.length c6)
          have pk7 := ApR.put elemE pk6 (o' := 1) (dUnhide hv1) (.slice a6 L.length c6)
          have pl7 := ApR.put elemE (dUnhide HP6) (o' := 1) (dUnhide hv6) (.slice a6 L.length c6)
          have B7 := hB6.setCell (p := ⟨bo, 1, none⟩) (by have := B0.size; simp only; omega) (.slice a6 L.length c6)
          have p0 := (O7.2 0 _ rfl).1
          have p1 := (O7.2 1 _ rfl).1
          have p2 := (O7.2 2 _ rfl).1
          obtain ⟨z0, f0⟩ := Z7.2 0 _ rfl
          obtain ⟨z1, f1⟩ := Z7.2 1 _ rfl
          obtain ⟨z2, f2⟩ := Z7.2 2 _ rfl
          have ZZ := dHide (((Z7.put 0 (.slice a1 s.kept.length c1)).put 1 (.slice a6 L.length c6)).put 2 (.int .i64 s.lock))
          have BB := dHide (((B7.setCell (p := ⟨w.heap.size + 1 + 1, 0, none⟩) (by simp only; omega) (.slice a1 s.kept.length c1)).setCell (p := ⟨w.heap.size + 1 + 1, 1, none⟩) (by simp only; omega) (.slice a6 L.length c6)).setCell (p := ⟨w.heap.size + 1 + 1, 2, none⟩) (by simp only; omega) (.int .i64 s.lock))
          have OO : Hid (OwS (((((w6.setCell ⟨bo, 1, none⟩ (.slice a6 L.length c6)).setCell ⟨w.heap.size + 1 + 1, 0, none⟩ (.slice a1 s.kept.length c1))).setCell ⟨w.heap.size + 1 + 1, 1, none⟩ (.slice a6 L.length c6)).setCell ⟨w.heap.size + 1 + 1, 2, none⟩ (.int .i64 s.lock)) w.heap.size (.agg #[.slice a1 s.kept.length c1, .slice a6 L.length c6, .int .i64 s.lock]) ⟨s.kept, L, s.lock⟩) :=
            (((OwS.far (s := ⟨s.kept, L, s.lock⟩) ⟨_, _, rfl, pk7, pl7, dUnhide sep6⟩ (b := w.heap.size + 1 + 1) (o := 0) hlt (.slice a1 s.kept.length c1)).far (b := w.heap.size + 1 + 1) (o := 1) hlt (.slice a6 L.length c6)).far (b := w.heap.size + 1 + 1) (o := 2) hlt (.int .i64 s.lock)).mono B0.size
          clear k0 k1 k2 y0 y1 y2 y3 o1 g6 t6 P6 pl5 HPK HO5 HZ5 O6 Z6 pk6 HP6 hv6 hv1 hB6 hgb K K3 FIN SEP HT1 HT2 RO C4 hb05 b35 d20 O7 Z7 pk7 pl7 B7 sep6
          go_wp2
          have q0 := ((dUnhide ZZ).2 0 _ rfl).1
          have q1 := ((dUnhide ZZ).2 1 _ rfl).1
          have q2 := ((dUnhide ZZ).2 2 _ rfl).1
          have hO := dUnhide OO
          have hB := dUnhide BB
          clear ZZ OO BB z0 z1 z2 f0 f1 f2 p0 p1 p2 o1' g1
          generalize ((((w6.setCell ⟨bo, 1, none⟩ (.slice a6 L.length c6)).setCell ⟨w.heap.size + 1 + 1, 0, none⟩ (.slice a1 s.kept.length c1))).setCell ⟨w.heap.size + 1 + 1, 1, none⟩ (.slice a6 L.length c6)).setCell ⟨w.heap.size + 1 + 1, 2, none⟩ (.int .i64 s.lock) = V at *
          subst eM
          refine bodyPost_ret (v := .tuple #[.agg #[.slice a1 s.kept.length c1, .slice a6 L.length c6, .int .i64 s.lock], .bool true]) (by simp [results, Try.results9, go_sem, q0, q1, q2]) rfl ⟨⟨_, rfl, hO⟩, hB⟩
      · obtain rfl := hr5.of_no htk
        have eM := dUnhide PN (dUnhide HS) fun h => htk ((dUnhide PD).1 h).2.1
        clear htk hr5 HE
        obtain ⟨V, hV, hx, hO, hB⟩ := dUnhide FIN w5 b35
        obtain ⟨OE, -, -, hbE⟩ := dUnhide K3 w5 b35
        obtain ⟨XE, -, ZE, -⟩ := dUnhide K w5 hbE
        have o0 := (OE.2 0 _ rfl).1
        have o1 := (OE.2 1 _ rfl).1
        have o2 := (OE.2 2 _ rfl).1
        have k0 := (XE.2 0 _ rfl).1
        have k1 := (XE.2 1 _ rfl).1
        have k2 := (XE.2 2 _ rfl).1
        obtain ⟨z0, f0⟩ := ZE.2 0 _ rfl
        obtain ⟨z1, f1⟩ := ZE.2 1 _ rfl
        obtain ⟨z2, f2⟩ := ZE.2 2 _ rfl
        clear b35 PN PY PD K K3 FIN OE ZE XE hbE hb03 SEP RO C4 HS
        go_wp2
        rw [← hV]
        have q0 := hx 0 _ rfl
        have q1 := hx 1 _ rfl
        have q2 := hx 2 _ rfl
        clear hV hx z0 z1 z2 f0 f1 f2 o0 o1 o2 k0 k1 k2
        subst eM
        refine bodyPost_ret (v := .tuple #[.agg #[.slice a1 s.kept.length c1, .slice a2 s.late.length c2, .int .i64 s.lock], .bool false]) (by simp [results, Try.results9, go_sem, q0, q1, q2]) rfl ⟨⟨_, rfl, hO⟩, hB⟩
    · obtain rfl := hr4.of_no he
      have eM := dUnhide PN (dUnhide HS) fun h => he ((dUnhide PD).1 h).1
      clear hr4 he
      obtain ⟨V, hV, hx, hO, hB⟩ := dUnhide FIN w4 b4
      obtain ⟨OE, -, -, hbE⟩ := dUnhide K3 w4 b4
      obtain ⟨XE, -, ZE, -⟩ := dUnhide K w4 hbE
      have o0 := (OE.2 0 _ rfl).1
      have o1 := (OE.2 1 _ rfl).1
      have o2 := (OE.2 2 _ rfl).1
      have k0 := (XE.2 0 _ rfl).1
      have k1 := (XE.2 1 _ rfl).1
      have k2 := (XE.2 2 _ rfl).1
      obtain ⟨z0, f0⟩ := ZE.2 0 _ rfl
      obtain ⟨z1, f1⟩ := ZE.2 1 _ rfl
      obtain ⟨z2, f2⟩ := ZE.2 2 _ rfl
      clear b4 PN PY PD K K3 FIN OE ZE XE hbE hb03 SEP RO C4 HS
      go_wp2
      rw [← hV]
      have q0 := hx 0 _ rfl
      have q1 := hx 1 _ rfl
      have q2 := hx 2 _ rfl
      clear hV hx z0 z1 z2 f0 f1 f2 o0 o1 o2 k0 k1 k2
      subst eM
      refine bodyPost_ret (v := .tuple #[.agg #[.slice a1 s.kept.length c1, .slice a2 s.late.length c2, .int .i64 s.lock], .bool false]) (by simp [results, Try.results9, go_sem, q0, q1, q2]) rfl ⟨⟨_, rfl, hO⟩, hB⟩
  · obtain rfl := hr1.of_no hs
    have eM := dUnhide PB hs
    obtain ⟨X1, Y1, Z1, B1⟩ := dUnhide K w1 b1
    obtain ⟨z0, f0⟩ := Z1.2 0 _ rfl
    obtain ⟨z1, f1⟩ := Z1.2 1 _ rfl
    obtain ⟨z2, f2⟩ := Z1.2 2 _ rfl
    have ZZ := ((Z1.put 0 (.slice none 0 0)).put 1 (.slice none 0 0)).put 2 (.int .i64 0)
    have BB := ((B1.setCell (p := ⟨w.heap.size + 1 + 1, 0, none⟩) (by simp only; omega) (.slice none 0 0)).setCell (p := ⟨w.heap.size + 1 + 1, 1, none⟩) (by simp only; omega) (.slice none 0 0)).setCell (p := ⟨w.heap.size + 1 + 1, 2, none⟩) (by simp only; omega) (.int .i64 0)
    clear hr1 hs PB PN PY PD X1 Y1 Z1 K C2 C3 C4 b1 RO
    go_wp2
    have q0 := (ZZ.2 0 _ rfl).1
    have q1 := (ZZ.2 1 _ rfl).1
    have q2 := (ZZ.2 2 _ rfl).1
    clear ZZ z0 z1 z2 f0 f1 f2
    generalize ((w1.setCell ⟨w.heap.size + 1 + 1, 0, none⟩ (.slice none 0 0)).setCell ⟨w.heap.size + 1 + 1, 1, none⟩ (.slice none 0 0)).setCell ⟨w.heap.size + 1 + 1, 2, none⟩ (.int .i64 0) = V at *
    subst eM
    refine bodyPost_ret (v := .tuple #[.agg #[.slice none 0 0, .slice none 0 0, .int .i64 0], .bool false]) (by simp [results, Try.results9, go_sem, q0, q1, q2]) rfl ⟨⟨_, rfl, OwS.zero _ _⟩, BB⟩
end Go.Proofs.Ytejmfohkobhidaa
