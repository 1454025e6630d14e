/- Several texts in one: StE, StF, StepP, StG, StK, StL, StI. -/
import Derived.Test.YtjkjmapibcfcdaaGreatGbF
import Derived.Test.YtjkjmapibcfcdaaGreatGaA
import Derived.WalkKit
namespace Go.Proofs.YtjkjmapibcfcdaaGreat
open Go.ChangeShapes Go.WideShapes Go.ChangeAt Go.RowKit
set_option linter.unusedSimpArgs false
set_option linter.unusedVariables false
set_option maxRecDepth 100000
theorem l6Takes_any (v : Value) (s : St) (e : Ent) (w : World) (hv : Rs w v s) (he : entP e) :
    Calls Tryz.prog 181 #[v, e.val] w fun r w' => RetB (takesP s e) r ∧ Below w.heap.size w w' := by
  obtain ⟨kv, lv, rfl, ⟨-, ka, kc, rfl, -, -⟩, ⟨-, la, lc, rfl, -, -⟩⟩ := hv
  obtain ⟨x, wv, ho, d⟩ := e
  have hp : isPl x := he.1
  have hx := hp
  obtain ⟨h0, h1, h2, h3, h4⟩ := hx
  have TP : Hid (takesP s ⟨x, wv, ho, d⟩ ↔ if wv = 0 then s.lock < x / 4294967296 else s.lock < wv) := Iff.rfl
  generalize takesP s ⟨x, wv, ho, d⟩ = P at *
  generalize s.lock = sl at *
  unfold Ent.val
  simp only
  by_cases hw : wv = 0
  · subst hw
    rw [if_pos rfl] at TP
    have R : RetB P (.returned (.bool (decide (sl < x / 4294967296)))) := ⟨_, rfl, fun h => (dU TP).2 (of_decide_eq_true h), fun h => decide_eq_true ((dU TP).1 h)⟩
    clear he
    go_enter Tryz.func181, Tryz.ntmps181
    go_wp2
    go_quiet (first | (go_at_call 35; refine Calls.quiet_of_same (flip (specEpoch_yes x hp _))))
    go_wp2
    go_ret
    exact ⟨R, below_drewN (((Below.refl _ _).alloc (Nat.le_refl _) _).alloc (by simp) _) _⟩
  · rw [if_neg hw] at TP
    have hw' : (wv == 0) = false := by simp [hw]
    have R : RetB P (.returned (.bool (decide (sl < wv)))) := ⟨_, rfl, fun h => (dU TP).2 (of_decide_eq_true h), fun h => decide_eq_true ((dU TP).1 h)⟩
    clear he hw
    go_enter Tryz.func181, Tryz.ntmps181
    go_wp2
    go_ret
    exact ⟨R, ((Below.refl _ _).alloc (Nat.le_refl _) _).alloc (by simp) _⟩
def zeroSt : St := ⟨[], [], 0⟩
theorem OwS.zero (w : World) (base : Nat) : OwS w base (.agg #[.slice none 0 0, .slice none 0 0, .int .i64 0]) zeroSt := ⟨_, _, rfl, .inl ⟨rfl, none, rfl⟩, .inl ⟨rfl, none, rfl⟩, .inl rfl⟩
def putP (s : St) (e : Ent) : Prop := entP e ∧ takesP s e ∧ s.late.length ≠ 20
open Classical in
noncomputable def putM (s : St) (e : Ent) : St × Bool := if stP s then (if putP s e then (⟨s.kept, s.late ++ [e], s.lock⟩, true) else (s, false)) else (zeroSt, false)
theorem putM_bad {s : St} {e : Ent} (h : ¬ stP s) : putM s e = (zeroSt, false) := if_neg h
theorem putM_no {s : St} {e : Ent} (h : stP s) (hp : ¬ putP s e) : putM s e = (s, false) := (if_pos h).trans (if_neg hp)
theorem putM_yes {s : St} {e : Ent} (h : stP s) (hp : putP s e) : putM s e = (⟨s.kept, s.late ++ [e], s.lock⟩, true) := (if_pos h).trans (if_pos hp)
theorem OwS.far {w : World} {base : Nat} {v : Value} {s : St} (h : OwS w base v s) {b o : Nat} (hb : b < base) (u : Value) : OwS (w.setCell ⟨b, o, none⟩ u) base v s := by
  obtain ⟨kv, lv, h1, h2, h3, h4⟩ := h
  exact ⟨kv, lv, h1, ApR.far elemE h2 hb u, ApR.far elemE h3 hb u, h4⟩
theorem OwS.shape {w : World} {base : Nat} {v : Value} {s : St} (h : OwS w base v s) : ∃ ka kc la lc, v = .agg #[.slice ka s.kept.length kc, .slice la s.late.length lc, .int .i64 s.lock] := by
  obtain ⟨kv, lv, h1, h2, h3, h4⟩ := h
  obtain ⟨ka, kc, rfl⟩ := ApR.slice elemE h2
  obtain ⟨la, lc, rfl⟩ := ApR.slice elemE h3
  exact ⟨ka, kc, la, lc, h1⟩
set_option maxHeartbeats 4000000 in
theorem specPut_any (v : Value) (s : St) (e : Ent) (w : World) (hv : Rs w v s) (hf : fitS s) (he : e.fits) :
    Calls Tryz.prog 163 #[v, e.val] w fun r w' => (∃ u, r = .returned (.tuple #[u, .bool (putM s e).2]) ∧ OwS w' w.heap.size u (putM s e).1) ∧ Below w.heap.size w w' := by
  have ba : ∀ (w : World) o, Below w.heap.size w (w.alloc o) := fun w o => (Below.refl _ _).alloc (Nat.le_refl _) o
  have C1 := dH fun W (hb : Below w.heap.size w W) => specStoreOk_any v s W (hv.below hb) hf
  have C2 := dH fun W (hb : Below w.heap.size w W) (h : stP s) => l6Copy_any v s W (hv.below hb) (by have := h.1.1; omega) (by have := h.2.1.1; omega)
  have C3 := dH fun W => specEntOk_any e he W
  have C4 := dH fun W (hb : Below w.heap.size w W) (h : entP e) => l6Takes_any v s e W (hv.below hb) h
  obtain ⟨kv, lv, rfl, ⟨-, ka, kc, rfl, -, -⟩, ⟨-, la, lc, rfl, -, -⟩⟩ := hv
  have PB : Hid (¬ stP s → putM s e = (zeroSt, false)) := putM_bad
  have PN : Hid (stP s → ¬ putP s e → putM s e = (s, false)) := putM_no
  have PY : Hid (stP s → putP s e → putM s e = (⟨s.kept, s.late ++ [e], s.lock⟩, true)) := putM_yes
  have PD : Hid (putP s e ↔ entP e ∧ takesP s e ∧ s.late.length ≠ 20) := Iff.rfl
  have RO : Hid (∀ (w : World) T, Rw 4 Ent.cl (w.alloc (.cells #[.int .i64 e.pl, .int .i64 e.wave, .bool e.hole, .string e.data] T)) (.slice (some ⟨w.heap.size, 0, none⟩) 1 1) [e]) := fun w T => rw_one w e T 1 (by omega)
  generalize putM s e = M at *
  clear hf he
  obtain ⟨x, wv, ho, d⟩ := e
  unfold Ent.val at *
  simp only at *
  have X0 := (BxZ.new w [.slice ka s.kept.length kc, .slice la s.late.length lc, .int .i64 s.lock] 174 (Nat.le_refl _)).below (bT (ba _ (.cells #[.int .i64 x, .int .i64 wv, .bool ho, .string d] 36)) (ba _ (.cells #[.slice none 0 0, .slice none 0 0, .int .i64 0] 174)))
  have Y0 := (BxZ.new (B := w.heap.size) (w.alloc (.cells #[.slice ka s.kept.length kc, .slice la s.late.length lc, .int .i64 s.lock] 174)) [.int .i64 x, .int .i64 wv, .bool ho, .string d] 36 (by simp)).below (ba _ (.cells #[.slice none 0 0, .slice none 0 0, .int .i64 0] 174))
  have Z0 := BxZ.new (B := w.heap.size) ((w.alloc (.cells #[.slice ka s.kept.length kc, .slice la s.late.length lc, .int .i64 s.lock] 174)).alloc (.cells #[.int .i64 x, .int .i64 wv, .bool ho, .string d] 36)) [.slice none 0 0, .slice none 0 0, .int .i64 0] 174 (by simp <;> omega)
  have B0 := bT (bT (ba w (.cells #[.slice ka s.kept.length kc, .slice la s.late.length lc, .int .i64 s.lock] 174)) (ba _ (.cells #[.int .i64 x, .int .i64 wv, .bool ho, .string d] 36))) (ba _ (.cells #[.slice none 0 0, .slice none 0 0, .int .i64 0] 174))
  have e1 : (w.alloc (.cells #[.slice ka s.kept.length kc, .slice la s.late.length lc, .int .i64 s.lock] 174)).heap.size = w.heap.size + 1 := by simp
  have e2 : ((w.alloc (.cells #[.slice ka s.kept.length kc, .slice la s.late.length lc, .int .i64 s.lock] 174)).alloc (.cells #[.int .i64 x, .int .i64 wv, .bool ho, .string d] 36)).heap.size = w.heap.size + 1 + 1 := by simp
  rw [e1] at Y0
  rw [e2] at Z0
  clear e1 e2
  go_enter Tryz.func163, Tryz.ntmps163
  go_wp2_with fail
  generalize ((w.alloc (.cells #[.slice ka s.kept.length kc, .slice la s.late.length lc, .int .i64 s.lock] 174)).alloc (.cells #[.int .i64 x, .int .i64 wv, .bool ho, .string d] 36)).alloc (.cells #[.slice none 0 0, .slice none 0 0, .int .i64 0] 174) = w0 at *
  have K : Hid (∀ W, Below w0.heap.size w0 W → BxZ W w.heap.size w.heap.size [.slice ka s.kept.length kc, .slice la s.late.length lc, .int .i64 s.lock] ∧ BxZ W w.heap.size (w.heap.size + 1) [.int .i64 x, .int .i64 wv, .bool ho, .string d] ∧ BxZ W w.heap.size (w.heap.size + 1 + 1) [.slice none 0 0, .slice none 0 0, .int .i64 0] ∧ Below w.heap.size w W) := fun W hb => ⟨X0.below hb, Y0.below hb, Z0.below hb, bT B0 hb⟩
  have hlt := Z0.lt
  clear X0 Y0 Z0
  refine (dU C1 _ B0).mono ?_
  rintro r w1 ⟨hr1, b1⟩
  by_cases hs : stP s
  · obtain rfl := hr1.of_yes hs
    have HS := dH hs
    clear hr1 PB hs
    obtain ⟨X1, -, -, B1⟩ := dU K w1 b1
    have k0 := (X1.2 0 _ rfl).1
    have k1 := (X1.2 1 _ rfl).1
    have k2 := (X1.2 2 _ rfl).1
    have C2' := dH (dU C2 w1 B1 (dU HS))
    clear X1 C2
    go_wp2_with fail
    refine (dU C2').mono ?_
    rintro r w2 ⟨⟨u2, rfl, O2⟩, b2⟩
    have b12 := bT b1 b2
    obtain ⟨kv2, lv2, rfl, Pk, Pl, sep⟩ := O2
    have hs1 := B1.size
    have hb1s := b1.size
    have Pk0 := Pk.mono (base' := w0.heap.size) hb1s
    have Pl0 := Pl.mono (base' := w0.heap.size) hb1s
    obtain ⟨a1, c1, rfl⟩ := ApR.slice elemE Pk
    obtain ⟨a2, c2, rfl⟩ := ApR.slice elemE Pl
    have ob := BxZ.new (B := w0.heap.size) w2 [.slice a1 s.kept.length c1, .slice a2 s.late.length c2, .int .i64 s.lock] 174 b12.size
    have b23 := ba w2 (.cells #[.slice a1 s.kept.length c1, .slice a2 s.late.length c2, .int .i64 s.lock] 174)
    have hne : w0.heap.size ≤ w2.heap.size := b12.size
    have K3 : Hid (∀ W, Below (w2.alloc (.cells #[.slice a1 s.kept.length c1, .slice a2 s.late.length c2, .int .i64 s.lock] 174)).heap.size (w2.alloc (.cells #[.slice a1 s.kept.length c1, .slice a2 s.late.length c2, .int .i64 s.lock] 174)) W → BxZ W w0.heap.size w2.heap.size [.slice a1 s.kept.length c1, .slice a2 s.late.length c2, .int .i64 s.lock] ∧ ApE W w0.heap.size (.slice a1 s.kept.length c1) s.kept ∧ ApE W w0.heap.size (.slice a2 s.late.length c2) s.late ∧ Below w0.heap.size w0 W) := fun W hb => ⟨ob.below hb, (Pk0.below b23).below hb, (Pl0.below b23).below hb, bT (bT b12 b23) hb⟩
    have SEP := dH sep
    have HT1 : Hid (∀ k, touch (.slice a1 s.kept.length c1) = some k → w0.heap.size ≤ k ∧ k < w2.heap.size) := fun k hk => Pk0.touched elemE hk
    have HT2 : Hid (∀ k, touch (.slice a2 s.late.length c2) = some k → w0.heap.size ≤ k ∧ k < w2.heap.size) := fun k hk => Pl0.touched elemE hk
    obtain ⟨-, Y3, -, -⟩ := dU K _ (bT b12 b23)
    have y0 := (Y3.2 0 _ rfl).1
    have y1 := (Y3.2 1 _ rfl).1
    have y2 := (Y3.2 2 _ rfl).1
    have y3 := (Y3.2 3 _ rfl).1
    clear k0 k1 k2 ob Pk Pl Pk0 Pl0 b2 b1 B1 C2' sep hs1 hb1s b12 C1 Y3
    go_wp2_with fail
    generalize hbo : w2.heap.size = bo at *
    generalize w2.alloc (.cells #[.slice a1 s.kept.length c1, .slice a2 s.late.length c2, .int .i64 s.lock] 174) = w3 at *
    clear hbo b23
    -- how it ends where nothing is put
    have FIN : Hid (∀ W, Below w3.heap.size w3 W → ∃ V, V = ((W.setCell ⟨w.heap.size + 1 + 1, 0, none⟩ (.slice a1 s.kept.length c1)).setCell ⟨w.heap.size + 1 + 1, 1, none⟩ (.slice a2 s.late.length c2)).setCell ⟨w.heap.size + 1 + 1, 2, none⟩ (.int .i64 s.lock) ∧ Bx V (w.heap.size + 1 + 1) [.slice a1 s.kept.length c1, .slice a2 s.late.length c2, .int .i64 s.lock] ∧ OwS V w.heap.size (.agg #[.slice a1 s.kept.length c1, .slice a2 s.late.length c2, .int .i64 s.lock]) s ∧ Below w.heap.size w V) := fun W hb => by
      obtain ⟨-, pk, pl, hb0⟩ := dU K3 W hb
      obtain ⟨-, -, zz, bb⟩ := dU K W hb0
      have hw0 : w.heap.size ≤ w0.heap.size := B0.size
      exact ⟨_, rfl, (((zz.put 0 (.slice a1 s.kept.length c1)).put 1 (.slice a2 s.late.length c2)).put 2 (.int .i64 s.lock)).bx,
        (((OwS.far (s := s) ⟨_, _, rfl, pk, pl, dU SEP⟩ (b := w.heap.size + 1 + 1) (o := 0) hlt (.slice a1 s.kept.length c1)).far (b := w.heap.size + 1 + 1) (o := 1) hlt (.slice a2 s.late.length c2)).far (b := w.heap.size + 1 + 1) (o := 2) hlt (.int .i64 s.lock)).mono hw0,
        ((bb.setCell (p := ⟨w.heap.size + 1 + 1, 0, none⟩) (by simp only; omega) _).setCell (p := ⟨w.heap.size + 1 + 1, 1, none⟩) (by simp only; omega) _).setCell (p := ⟨w.heap.size + 1 + 1, 2, none⟩) (by simp only; omega) _⟩
    obtain ⟨-, -, -, hb03⟩ := dU K3 w3 (Below.refl _ _)
    refine (dU C3 _).mono ?_
    rintro r w4 ⟨hr4, b4⟩
    clear y0 y1 y2 y3 C3
    -- the end where nothing is put, as a walk
    by_cases he : entP ⟨x, wv, ho, d⟩
    · obtain rfl := hr4.of_yes he
      have HE := dH he
      obtain ⟨-, -, -, hb04⟩ := dU K3 w4 b4
      obtain ⟨X4, Y4, -, B4⟩ := dU K w4 hb04
      have k0 := (X4.2 0 _ rfl).1
      have k1 := (X4.2 1 _ rfl).1
      have k2 := (X4.2 2 _ rfl).1
      have y0 := (Y4.2 0 _ rfl).1
      have y1 := (Y4.2 1 _ rfl).1
      have y2 := (Y4.2 2 _ rfl).1
      have y3 := (Y4.2 3 _ rfl).1
      have C4' := dH (dU C4 w4 B4 he)
      clear hr4 he X4 Y4 hb04
      go_wp2_with fail
      refine (dU C4').mono ?_
      rintro r w5 ⟨hr5, b5⟩
      have b35 := bT b4 b5
      clear k0 k1 k2 y0 y1 y2 y3 C4' b5 b4 B4
      by_cases htk : takesP s ⟨x, wv, ho, d⟩
      · obtain rfl := hr5.of_yes htk
        have HTK := dH htk
        clear hr5 htk
        by_cases h20 : s.late.length = 20
        · have eM := dU PN (dU HS) fun h => ((dU PD).1 h).2.2 h20
          have d20 : ((s.late.length : Int) == 20) = true := by rw [h20]; rfl
          clear h20 HTK HE
          obtain ⟨V, hV, hx, hO, hB⟩ := dU FIN w5 b35
          obtain ⟨OE, -, -, hbE⟩ := dU K3 w5 b35
          obtain ⟨XE, -, ZE, -⟩ := dU K w5 hbE
          have o0 := (OE.2 0 _ rfl).1
          have o1 := (OE.2 1 _ rfl).1
          have o2 := (OE.2 2 _ rfl).1
          have k0 := (XE.2 0 _ rfl).1
          have k1 := (XE.2 1 _ rfl).1
          have k2 := (XE.2 2 _ rfl).1
          obtain ⟨z0, f0⟩ := ZE.2 0 _ rfl
          obtain ⟨z1, f1⟩ := ZE.2 1 _ rfl
          obtain ⟨z2, f2⟩ := ZE.2 2 _ rfl
          clear b35 PN PY PD K K3 FIN OE ZE XE hbE hb03 SEP RO C4 HS
          go_wp2
          rw [← hV]
          have q0 := hx 0 _ rfl
          have q1 := hx 1 _ rfl
          have q2 := hx 2 _ rfl
          clear hV hx z0 z1 z2 f0 f1 f2 o0 o1 o2 k0 k1 k2
          subst eM
          refine bodyPost_ret (v := .tuple #[.agg #[.slice a1 s.kept.length c1, .slice a2 s.late.length c2, .int .i64 s.lock], .bool false]) (by simp [results, Tryz.results163, go_sem, q0, q1, q2]) rfl ⟨⟨_, rfl, hO⟩, hB⟩
        · have eM := dU PY (dU HS) ((dU PD).2 ⟨dU HE, dU HTK, h20⟩)
          have d20 : ((s.late.length : Int) == 20) = false := by
            have : ¬ (s.late.length : Int) = 20 := by omega
            simpa using this
          have hl20 : s.late.length ≤ 20 := (dU HS).2.1.1
          obtain ⟨O5, pk5, pl5, hb05⟩ := dU K3 w5 b35
          obtain ⟨X5, Y5, Z5, B5⟩ := dU K w5 hb05
          have HO5 := dH O5
          have O5lt := O5.lt
          have HZ5 := dH Z5
          have HPK := dH pk5
          have k0 := (X5.2 0 _ rfl).1
          have k1 := (X5.2 1 _ rfl).1
          have k2 := (X5.2 2 _ rfl).1
          have y0 := (Y5.2 0 _ rfl).1
          have y1 := (Y5.2 1 _ rfl).1
          have y2 := (Y5.2 2 _ rfl).1
          have y3 := (Y5.2 3 _ rfl).1
          have o1 := (O5.2 1 _ rfl).1
          clear h20 HTK HE X5 Y5 Z5 O5 PN PY PD pk5
          go_wp2_with (at_builtin; refine wp_apR elemE rfl _ _ rfl w0.heap.size (.slice a2 s.late.length c2) s.late rfl (pl5.below (ba _ _)) _ [⟨x, wv, ho, d⟩] rfl (dU RO _ _) ?c1 ?c2 ?c3 ?_)
          case c1 => simp; omega
          case c2 => simp; omega
          case c3 => have := hb05.size; simp; omega
          intro v6 w6 P6 g6 t6
          have hbo5 : bo < w5.heap.size := O5lt
          have hgb : Below w0.heap.size w0 w6 := (bT hb05 (ba _ _)).grown g6 (by have := hb05.size; simp; omega) (fun k hk => (dU HT2 k hk).1)
          have hB6 : Below w.heap.size w w6 := bT B0 hgb
          have O6 := ((dU HO5).below (ba _ _)).grown g6 (fun e => by have := (dU HT2 bo e).2; omega)
          have Z6 := ((dU HZ5).below (ba _ _)).grown g6 (fun e => by have := (dU HT2 _ e).1; omega)
          have pk6 : ApE w6 w0.heap.size (.slice a1 s.kept.length c1) s.kept := ((dU HPK).below (ba _ _)).kept elemE g6 (by
            cases ht : touch (.slice a2 s.late.length c2) with
            | none => exact .inl rfl
            | some k =>
              right
              rcases dU SEP with h | h
              · rw [h]; simp
              · rw [← ht]; exact h)
          have sep6 : Hid (touch (.slice a1 s.kept.length c1) = none ∨ touch (.slice a1 s.kept.length c1) ≠ touch v6) := by
            cases h1 : touch (.slice a1 s.kept.length c1) with
            | none => exact .inl rfl
            | some k =>
              right
              rcases t6 with h2 | h2
              · rw [h2, ← h1]
                rcases dU SEP with h | h
                · rw [h] at h1; cases h1
                · exact h
              · intro e
                have := h2 k e.symm
                have := (dU HT1 k h1).2
                simp at *
                omega
          have hv6 : Hid (touch v6 ≠ some bo) := fun e => by
            rcases t6 with h2 | h2
            · rw [h2] at e
              have := (dU HT2 bo e).2
              omega
            · have := h2 bo e
              first | omega | (simp at this; omega)
          have hv1 : Hid (touch (.slice a1 s.kept.length c1) ≠ some bo) := fun e => by have := (dU HT1 bo e).2; omega
          generalize s.late ++ [(⟨x, wv, ho, d⟩ : Ent)] = L at *
          have HP6 := dH P6
          obtain ⟨a6, c6, rfl⟩ := ApR.slice elemE P6
          obtain ⟨o1', g1⟩ := O6.2 1 _ rfl
          have O7 := O6.put 1 (.slice a6 L.length c6)
          have Z7 := Z6.far (b' := bo) (o := 1) (by omega) (.slice a6 L.length c6)
          have pk7 := ApR.put elemE pk6 (o' := 1) (dU hv1) (.slice a6 L.length c6)
          have pl7 := ApR.put elemE (dU HP6) (o' := 1) (dU hv6) (.slice a6 L.length c6)
          have B7 := hB6.setCell (p := ⟨bo, 1, none⟩) (by have := B0.size; simp only; omega) (.slice a6 L.length c6)
          have p0 := (O7.2 0 _ rfl).1
          have p1 := (O7.2 1 _ rfl).1
          have p2 := (O7.2 2 _ rfl).1
          obtain ⟨z0, f0⟩ := Z7.2 0 _ rfl
          obtain ⟨z1, f1⟩ := Z7.2 1 _ rfl
          obtain ⟨z2, f2⟩ := Z7.2 2 _ rfl
          have ZZ := dH (((Z7.put 0 (.slice a1 s.kept.length c1)).put 1 (.slice a6 L.length c6)).put 2 (.int .i64 s.lock))
          have BB := dH (((B7.setCell (p := ⟨w.heap.size + 1 + 1, 0, none⟩) (by simp only; omega) (.slice a1 s.kept.length c1)).setCell (p := ⟨w.heap.size + 1 + 1, 1, none⟩) (by simp only; omega) (.slice a6 L.length c6)).setCell (p := ⟨w.heap.size + 1 + 1, 2, none⟩) (by simp only; omega) (.int .i64 s.lock))
          have OO : Hid (OwS (((((w6.setCell ⟨bo, 1, none⟩ (.slice a6 L.length c6)).setCell ⟨w.heap.size + 1 + 1, 0, none⟩ (.slice a1 s.kept.length c1))).setCell ⟨w.heap.size + 1 + 1, 1, none⟩ (.slice a6 L.length c6)).setCell ⟨w.heap.size + 1 + 1, 2, none⟩ (.int .i64 s.lock)) w.heap.size (.agg #[.slice a1 s.kept.length c1, .slice a6 L.length c6, .int .i64 s.lock]) ⟨s.kept, L, s.lock⟩) :=
            (((OwS.far (s := ⟨s.kept, L, s.lock⟩) ⟨_, _, rfl, pk7, pl7, dU sep6⟩ (b := w.heap.size + 1 + 1) (o := 0) hlt (.slice a1 s.kept.length c1)).far (b := w.heap.size + 1 + 1) (o := 1) hlt (.slice a6 L.length c6)).far (b := w.heap.size + 1 + 1) (o := 2) hlt (.int .i64 s.lock)).mono B0.size
          clear k0 k1 k2 y0 y1 y2 y3 o1 g6 t6 P6 pl5 HPK HO5 HZ5 O6 Z6 pk6 HP6 hv6 hv1 hB6 hgb K K3 FIN SEP HT1 HT2 RO C4 hb05 b35 d20 O7 Z7 pk7 pl7 B7 sep6
          go_wp2
          have q0 := ((dU ZZ).2 0 _ rfl).1
          have q1 := ((dU ZZ).2 1 _ rfl).1
          have q2 := ((dU ZZ).2 2 _ rfl).1
          have hO := dU OO
          have hB := dU BB
          clear ZZ OO BB z0 z1 z2 f0 f1 f2 p0 p1 p2 o1' g1
          generalize ((((w6.setCell ⟨bo, 1, none⟩ (.slice a6 L.length c6)).setCell ⟨w.heap.size + 1 + 1, 0, none⟩ (.slice a1 s.kept.length c1))).setCell ⟨w.heap.size + 1 + 1, 1, none⟩ (.slice a6 L.length c6)).setCell ⟨w.heap.size + 1 + 1, 2, none⟩ (.int .i64 s.lock) = V at *
          subst eM
          refine bodyPost_ret (v := .tuple #[.agg #[.slice a1 s.kept.length c1, .slice a6 L.length c6, .int .i64 s.lock], .bool true]) (by simp [results, Tryz.results163, go_sem, q0, q1, q2]) rfl ⟨⟨_, rfl, hO⟩, hB⟩
      · obtain rfl := hr5.of_no htk
        have eM := dU PN (dU HS) fun h => htk ((dU PD).1 h).2.1
        clear htk hr5 HE
        obtain ⟨V, hV, hx, hO, hB⟩ := dU FIN w5 b35
        obtain ⟨OE, -, -, hbE⟩ := dU K3 w5 b35
        obtain ⟨XE, -, ZE, -⟩ := dU K w5 hbE
        have o0 := (OE.2 0 _ rfl).1
        have o1 := (OE.2 1 _ rfl).1
        have o2 := (OE.2 2 _ rfl).1
        have k0 := (XE.2 0 _ rfl).1
        have k1 := (XE.2 1 _ rfl).1
        have k2 := (XE.2 2 _ rfl).1
        obtain ⟨z0, f0⟩ := ZE.2 0 _ rfl
        obtain ⟨z1, f1⟩ := ZE.2 1 _ rfl
        obtain ⟨z2, f2⟩ := ZE.2 2 _ rfl
        clear b35 PN PY PD K K3 FIN OE ZE XE hbE hb03 SEP RO C4 HS
        go_wp2
        rw [← hV]
        have q0 := hx 0 _ rfl
        have q1 := hx 1 _ rfl
        have q2 := hx 2 _ rfl
        clear hV hx z0 z1 z2 f0 f1 f2 o0 o1 o2 k0 k1 k2
        subst eM
        refine bodyPost_ret (v := .tuple #[.agg #[.slice a1 s.kept.length c1, .slice a2 s.late.length c2, .int .i64 s.lock], .bool false]) (by simp [results, Tryz.results163, go_sem, q0, q1, q2]) rfl ⟨⟨_, rfl, hO⟩, hB⟩
    · obtain rfl := hr4.of_no he
      have eM := dU PN (dU HS) fun h => he ((dU PD).1 h).1
      clear hr4 he
      obtain ⟨V, hV, hx, hO, hB⟩ := dU FIN w4 b4
      obtain ⟨OE, -, -, hbE⟩ := dU K3 w4 b4
      obtain ⟨XE, -, ZE, -⟩ := dU K w4 hbE
      have o0 := (OE.2 0 _ rfl).1
      have o1 := (OE.2 1 _ rfl).1
      have o2 := (OE.2 2 _ rfl).1
      have k0 := (XE.2 0 _ rfl).1
      have k1 := (XE.2 1 _ rfl).1
      have k2 := (XE.2 2 _ rfl).1
      obtain ⟨z0, f0⟩ := ZE.2 0 _ rfl
      obtain ⟨z1, f1⟩ := ZE.2 1 _ rfl
      obtain ⟨z2, f2⟩ := ZE.2 2 _ rfl
      clear b4 PN PY PD K K3 FIN OE ZE XE hbE hb03 SEP RO C4 HS
      go_wp2
      rw [← hV]
      have q0 := hx 0 _ rfl
      have q1 := hx 1 _ rfl
      have q2 := hx 2 _ rfl
      clear hV hx z0 z1 z2 f0 f1 f2 o0 o1 o2 k0 k1 k2
      subst eM
      refine bodyPost_ret (v := .tuple #[.agg #[.slice a1 s.kept.length c1, .slice a2 s.late.length c2, .int .i64 s.lock], .bool false]) (by simp [results, Tryz.results163, go_sem, q0, q1, q2]) rfl ⟨⟨_, rfl, hO⟩, hB⟩
  · obtain rfl := hr1.of_no hs
    have eM := dU PB hs
    obtain ⟨X1, Y1, Z1, B1⟩ := dU K w1 b1
    obtain ⟨z0, f0⟩ := Z1.2 0 _ rfl
    obtain ⟨z1, f1⟩ := Z1.2 1 _ rfl
    obtain ⟨z2, f2⟩ := Z1.2 2 _ rfl
    have ZZ := ((Z1.put 0 (.slice none 0 0)).put 1 (.slice none 0 0)).put 2 (.int .i64 0)
    have BB := ((B1.setCell (p := ⟨w.heap.size + 1 + 1, 0, none⟩) (by simp only; omega) (.slice none 0 0)).setCell (p := ⟨w.heap.size + 1 + 1, 1, none⟩) (by simp only; omega) (.slice none 0 0)).setCell (p := ⟨w.heap.size + 1 + 1, 2, none⟩) (by simp only; omega) (.int .i64 0)
    clear hr1 hs PB PN PY PD X1 Y1 Z1 K C2 C3 C4 b1 RO
    go_wp2
    have q0 := (ZZ.2 0 _ rfl).1
    have q1 := (ZZ.2 1 _ rfl).1
    have q2 := (ZZ.2 2 _ rfl).1
    clear ZZ z0 z1 z2 f0 f1 f2
    generalize ((w1.setCell ⟨w.heap.size + 1 + 1, 0, none⟩ (.slice none 0 0)).setCell ⟨w.heap.size + 1 + 1, 1, none⟩ (.slice none 0 0)).setCell ⟨w.heap.size + 1 + 1, 2, none⟩ (.int .i64 0) = V at *
    subst eM
    refine bodyPost_ret (v := .tuple #[.agg #[.slice none 0 0, .slice none 0 0, .int .i64 0], .bool false]) (by simp [results, Tryz.results163, go_sem, q0, q1, q2]) rfl ⟨⟨_, rfl, OwS.zero _ _⟩, BB⟩
theorem keepL_yes {e x : Ent} {l : List Ent} (h : ∃ a ∈ l, ¬ a.pl < e.pl) : keepL e (l ++ [x]) = keepL e l ++ [x] := by
 induction l with
 | nil => obtain ⟨a, ha, -⟩ := h; cases ha
 | cons c l ih =>
  rw [List.cons_append]
  unfold keepL
  by_cases h1 : c.pl = e.pl
  ·rw [if_pos h1, if_pos h1]; rfl
  ·rw [if_neg h1, if_neg h1]
   by_cases h2 : e.pl < c.pl
   ·rw [if_pos h2, if_pos h2]; rfl
   ·rw [if_neg h2, if_neg h2, ih ?_]
    ·rfl
    ·obtain ⟨a, ha, hn⟩ := h
     rcases List.mem_cons.1 ha with rfl | ha
     ·omega
     ·exact ⟨a, ha, hn⟩
theorem keepL_all {e : Ent} {l : List Ent} (h : ∀ a ∈ l, a.pl < e.pl) (r : List Ent) : keepL e (l ++ r) = l ++ keepL e r := by
 induction l with
 | nil => rfl
 | cons c l ih =>
  have hc := h c (by simp)
  rw [List.cons_append]
  conv => lhs; unfold keepL
  rw [if_neg (by omega), if_neg (by omega), ih fun a ha => h a (by simp [ha])]
  rfl
def KeepAt (e : Ent) (l zs : List Ent) (p : Bool) : Prop := (p = true → (∃ a ∈ l, ¬ a.pl < e.pl) ∧ zs = keepL e l) ∧ (p = false → (∀ a ∈ l, a.pl < e.pl) ∧ zs = l)
theorem KeepAt.same {e x : Ent} {l zs : List Ent} (h : KeepAt e l zs false) (hx : x.pl = e.pl) : KeepAt e (l ++ [x]) (zs ++ [better x e]) true := by
 obtain ⟨h1, rfl⟩ := h.2 rfl
 refine ⟨fun _ => ⟨⟨x, by simp, by omega⟩, ?_⟩, fun h => by cases h⟩
 rw [keepL_all h1]
 unfold keepL
 rw [if_pos hx]
theorem KeepAt.ahead {e x : Ent} {l zs : List Ent} (h : KeepAt e l zs false) (hx : e.pl < x.pl) : KeepAt e (l ++ [x]) (zs ++ [e] ++ [x]) true := by
 obtain ⟨h1, rfl⟩ := h.2 rfl
 refine ⟨fun _ => ⟨⟨x, by simp, by omega⟩, ?_⟩, fun h => by cases h⟩
 rw [keepL_all h1]
 unfold keepL
 rw [if_neg (by omega), if_pos hx]
 simp
theorem KeepAt.on {e x : Ent} {l zs : List Ent} {p : Bool} (h : KeepAt e l zs p) (hx : p = true ∨ x.pl < e.pl) : KeepAt e (l ++ [x]) (zs ++ [x]) p := by
 cases p
 ·obtain ⟨h1, rfl⟩ := h.2 rfl
  have hx : x.pl < e.pl := by rcases hx with h | h; cases h; exact h
  refine ⟨(fun h => by cases h), fun _ => ⟨fun a ha => ?_, rfl⟩⟩
  rcases List.mem_append.1 ha with ha | ha
  ·exact h1 a ha
  ·rw [List.mem_singleton.1 ha]; exact hx
 ·obtain ⟨⟨a, ha, hn⟩, rfl⟩ := h.1 rfl
  exact ⟨fun _ => ⟨⟨a, by simp [ha], hn⟩, by rw [keepL_yes ⟨a, ha, hn⟩]⟩, fun h => by cases h⟩
theorem KeepAt.len {e : Ent} {l zs : List Ent} {p : Bool} (h : KeepAt e l zs p) : zs.length ≤ l.length + 1 := by
 cases p
 ·rw [(h.2 rfl).2]; omega
 ·rw [(h.1 rfl).2]; exact (keepL_len e l).1
set_option maxHeartbeats 8000000 in
theorem l6Keep_any (v : Value) (es : List Ent) (e : Ent) (w : World) (hv : Rw 4 Ent.cl w v es) (hl : es.length ≤ 1048576) :
  Calls Tryz.prog 36 #[v, e.val] w fun r w' => (∃ u, r = .returned u ∧ ApE w' w.heap.size u (keepL e es)) ∧ Below w.heap.size w w' := by
 have ba : ∀ (w : World) o, Below w.heap.size w (w.alloc o) := fun w o => (Below.refl _ _).alloc (Nat.le_refl _) o
 have HV := dH fun W (hb : Below w.heap.size w W) => hv.below hb
 obtain ⟨h0, a, cap, rfl, -, -⟩ := hv
 have RO : Hid (∀ (w : World) T, Rw 4 Ent.cl (w.alloc (.cells #[.int .i64 e.pl, .int .i64 e.wave, .bool e.hole, .string e.data] T)) (.slice (some ⟨w.heap.size, 0, none⟩) 1 1) [e]) := fun w T => rw_one w e T 1 (by omega)
 have CB := dH fun (x : Ent) W => specBetter_any x e W
 obtain ⟨x, wv, ho, d⟩ := e
 unfold Ent.val at *
 simp only at *
 have X0 := (BxZ.new w [.int .i64 x, .int .i64 wv, .bool ho, .string d] 36 (Nat.le_refl _)).bx.below (ba _ (.cells #[] 36))
 have B0 := bT (ba w (.cells #[.int .i64 x, .int .i64 wv, .bool ho, .string d] 36)) (ba _ (.cells #[] 36))
 have hs0 : Hid (w.heap.size + 1 ≤ ((w.alloc (.cells #[.int .i64 x, .int .i64 wv, .bool ho, .string d] 36)).alloc (.cells #[] 36)).heap.size) := by simp [Hid]
 go_enter Tryz.func36, Tryz.ntmps36
 go_wp2
 generalize (w.alloc (.cells #[.int .i64 x, .int .i64 wv, .bool ho, .string d] 36)).alloc (.cells #[] 36) = w0 at *
 go_loopw [5, 6, 7] (fun o q i wr => ∃ (k : Nat) (p : Bool) (zs : List Ent), i = .int .i64 (k : Int) ∧ q = .bool p ∧ k ≤ es.length ∧ ApE wr (w.heap.size + 1) o zs ∧ Hid (KeepAt ⟨x, wv, ho, d⟩ (es.take k) zs p) ∧ Bx wr w.heap.size [.int .i64 x, .int .i64 wv, .bool ho, .string d] ∧ Below w.heap.size w wr ∧ w.heap.size + 1 ≤ wr.heap.size) (fun _ _ i _ => es.length - (intOf i).toNat)
 case atStart => exact ⟨0, false, [], rfl, rfl, Nat.zero_le _, .inl ⟨rfl, _, rfl⟩, ⟨(fun h => by cases h), fun _ => ⟨(fun b h => by simp at h), by simp⟩⟩, X0, B0, dU hs0⟩
 case round =>
  obtain ⟨k, p, zs, rfl, rfl, hk, hap, hka, hx, hb, hsz⟩ := hrel
  clear X0 B0 hs0
  have y0 := hx 0 _ rfl
  have y1 := hx 1 _ rfl
  have y2 := hx 2 _ rfl
  have y3 := hx 3 _ rfl
  have hzl : zs.length ≤ es.length + 1 := by
   have := (dU hka).len
   rw [List.length_take] at this
   omega
  obtain ⟨oa, oc, rfl⟩ := ApR.slice elemE hap
  by_cases hlt : (k : Int) < (es.length : Int)
  ·have hkl : k < es.length := by omega
   have HT := dH (List.take_succ_eq_append_getElem hkl)
   obtain ⟨b, off, rfl, hc⟩ := (dU HV wr hb).ent hkl
   obtain ⟨c0, c1, c2, c3⟩ := hc k hkl
   have HC := dH fun W (hB : Below w.heap.size w W) => by
    obtain ⟨b', off', e', hc'⟩ := (dU HV W hB).ent hkl
    cases e'
    exact hc' k hkl
   have RE : Hid (∀ (w : World) T, Rw 4 Ent.cl (w.alloc (.cells #[.int .i64 es[k].pl, .int .i64 es[k].wave, .bool es[k].hole, .string es[k].data] T)) (.slice (some ⟨w.heap.size, 0, none⟩) 1 1) [es[k]]) := fun w T => rw_one w es[k] T 1 (by omega)
   generalize es[k] = y at *
   obtain ⟨yx, yw, yh, yd⟩ := y
   simp only at *
   clear hc HV
   have K : Hid (∀ W, Below wr.heap.size wr W → ApE W (w.heap.size + 1) (.slice oa zs.length oc) zs ∧ Bx W w.heap.size [.int .i64 x, .int .i64 wv, .bool ho, .string d] ∧ Below w.heap.size w W ∧ w.heap.size + 1 ≤ wr.heap.size) := fun W hB => ⟨hap.below hB, hx.below hB, bT hb hB, hsz⟩
   clear hap hx hb hsz
   cases p
   ·rcases Int.lt_trichotomy yx x with h1 | h1 | h1
    ·have d1 : (yx == x) = false := by simp; omega
     have d2 : decide (x < yx) = false := decide_eq_false (by omega)
     have HK : Hid (KeepAt ⟨x, wv, ho, d⟩ (es.take (k + 1)) (zs ++ [⟨yx, yw, yh, yd⟩]) false) := by rw [Hid, dU HT]; exact (dU hka).on (.inr h1)
     clear hka HT
     go_wp2
     go_quiet (fail)
     go_wp2
     go_quiet (fail)
     go_wp2_with (at_builtin; refine wp_apR elemE rfl _ _ rfl (w.heap.size + 1) (.slice oa zs.length oc) zs rfl (ApR.below (dU K _ (by first | exact Below.refl _ _ | exact below_drewN (Below.refl _ _) _ | exact below_drewN (below_drewN (Below.refl _ _) _) _)).1 (ba _ _)) _ [⟨yx, yw, yh, yd⟩] rfl (dU RE _ _) ?c1 ?c2 ?c3 ?_)
     case c1 => (try simp); omega
     case c2 => (try simp); omega
     case c3 => have := (dU K _ (Below.refl _ _)).2.2.2; (try simp); omega
     intro v2 w2 P2 g2 t2
     have hb2 := Below.grown (bT (dU K _ (by first | exact Below.refl _ _ | exact below_drewN (Below.refl _ _) _ | exact below_drewN (below_drewN (Below.refl _ _) _) _)).2.2.1 (ba _ _)) g2 (by have := (dU K _ (Below.refl _ _)).2.2.2; simp; omega) (fun k hk => by have := ((dU K _ (Below.refl _ _)).1.touched elemE hk).1; omega)
     have hx2 := Bx.grown (Bx.below (dU K _ (by first | exact Below.refl _ _ | exact below_drewN (Below.refl _ _) _ | exact below_drewN (below_drewN (Below.refl _ _) _) _)).2.1 (ba _ _)) g2 (fun e => by have := ((dU K _ (Below.refl _ _)).1.touched elemE e).1; omega)
     have hsz2 : w.heap.size + 1 ≤ w2.heap.size := by have h1 := g2.size; have h2 := (dU K _ (Below.refl _ _)).2.2.2; simp at h1; omega
     clear K c0 c1 c2 c3 y0 y1 y2 y3 HC
     clear g2 t2
     go_wp2
     go_roundw
     case rel => exact ⟨k + 1, false, zs ++ [⟨yx, yw, yh, yd⟩], by go_num, rfl, by omega, by simpa using P2, by simpa using HK, hx2, hb2, hsz2⟩
     case measure => simp [intOf]; omega
    ·have d1 : (yx == x) = true := by simp; omega
     have HK : Hid (KeepAt ⟨x, wv, ho, d⟩ (es.take (k + 1)) (zs ++ [better ⟨yx, yw, yh, yd⟩ ⟨x, wv, ho, d⟩]) true) := by rw [Hid, dU HT]; exact (dU hka).same h1
     clear h1
     have CY := dH (dU CB ⟨yx, yw, yh, yd⟩)
     have RB : Hid (∀ (w : World) T, Rw 4 Ent.cl (w.alloc (.cells #[.int .i64 (better ⟨yx, yw, yh, yd⟩ ⟨x, wv, ho, d⟩).pl, .int .i64 (better ⟨yx, yw, yh, yd⟩ ⟨x, wv, ho, d⟩).wave, .bool (better ⟨yx, yw, yh, yd⟩ ⟨x, wv, ho, d⟩).hole, .string (better ⟨yx, yw, yh, yd⟩ ⟨x, wv, ho, d⟩).data] T)) (.slice (some ⟨w.heap.size, 0, none⟩) 1 1) [better ⟨yx, yw, yh, yd⟩ ⟨x, wv, ho, d⟩]) := fun w T => rw_one w (better ⟨yx, yw, yh, yd⟩ ⟨x, wv, ho, d⟩) T 1 (by omega)
     generalize better ⟨yx, yw, yh, yd⟩ ⟨x, wv, ho, d⟩ = be at *
     obtain ⟨bx, bw, bh, bd⟩ := be
     simp only at *
     clear hka HT CB
     go_wp2
     go_quiet (fail)
     go_wp2
     generalize hwq : wr.drewN _ = wq at *
     have hbq : Below wr.heap.size wr wq := by rw [← hwq]; exact below_drewN (Below.refl _ _) _
     have KQ : Hid (∀ W, Below wq.heap.size wq W → ApE W (w.heap.size + 1) (.slice oa zs.length oc) zs ∧ Bx W w.heap.size [.int .i64 x, .int .i64 wv, .bool ho, .string d] ∧ Below w.heap.size w W ∧ w.heap.size + 1 ≤ wq.heap.size ∧ EntAt W b (off + k * 4) ⟨yx, yw, yh, yd⟩) := fun W hB => by
      obtain ⟨q1, q2, q3, q4⟩ := dU K W (bT hbq hB)
      exact ⟨q1, q2, q3, by have := hbq.size; omega, dU HC W q3⟩
     have HC2 : Hid (∀ W, Below w.heap.size w W → W.cell? ⟨b, off + k * 4, none⟩ = some (.int .i64 yx) ∧ W.cell? ⟨b, off + k * 4 + 1, none⟩ = some (.int .i64 yw) ∧ W.cell? ⟨b, off + k * 4 + 2, none⟩ = some (.bool yh) ∧ W.cell? ⟨b, off + k * 4 + 3, none⟩ = some (.string yd)) := fun W hB => dU HC W hB
     clear K HC c0 c1 c2 c3 y0 y1 y2 y3 hbq hwq
     obtain ⟨-, s2, -, s4, ⟨c0, c1, c2, c3⟩⟩ := dU KQ wq (Below.refl _ _)
     have y0 := s2 0 _ rfl
     have y1 := s2 1 _ rfl
     have y2 := s2 2 _ rfl
     have y3 := s2 3 _ rfl
     clear s2
     have hbr : Below wq.heap.size wq wq.drew := (Below.refl _ _).drew
     refine wp_region_noPanic ?_
     refine wp_region_held_drew (S := (fun W => (W.cell? ⟨w.heap.size, 0, none⟩ = some (.int .i64 x) ∧ W.cell? ⟨w.heap.size, 1, none⟩ = some (.int .i64 wv) ∧ W.cell? ⟨w.heap.size, 2, none⟩ = some (.bool ho) ∧ W.cell? ⟨w.heap.size, 3, none⟩ = some (.string d)) ∧ W.cell? ⟨b, off + k * 4, none⟩ = some (.int .i64 yx) ∧ W.cell? ⟨b, off + k * 4 + 1, none⟩ = some (.int .i64 yw) ∧ W.cell? ⟨b, off + k * 4 + 2, none⟩ = some (.bool yh) ∧ W.cell? ⟨b, off + k * 4 + 3, none⟩ = some (.string yd))) (by kernel_rfl) ?_ (fun hHeld => ?_)
     ·go_keep
     refine tY 0 (v := ?_) rfl (by kernel_rfl) (.inl ⟨by rfl, ?_⟩) ‹_› ?_
     rotate_left 1
     ·intro w hSw
      (try dsimp only at hSw)
      first | (go_simp; done) | (go_simp; with_reducible rfl)
     try simp only [Act.put, sA, sB, sC]
     refine tY 1 (v := ?_) rfl (by kernel_rfl) (.inl ⟨by rfl, ?_⟩) ‹_› ?_
     rotate_left 1
     ·intro w hSw
      (try dsimp only at hSw)
      first | (go_simp; done) | (go_simp; with_reducible rfl)
     try simp only [Act.put, sA, sB, sC]
     refine tY 2 (v := ?_) rfl (by kernel_rfl) (.inl ⟨by rfl, ?_⟩) ‹_› ?_
     rotate_left 1
     ·intro w hSw
      (try dsimp only at hSw)
      first | (go_simp; done) | (go_simp; with_reducible rfl)
     try simp only [Act.put, sA, sB, sC]
     refine tY 3 (v := ?_) rfl (by kernel_rfl) (.inl ⟨by rfl, ?_⟩) ‹_› ?_
     rotate_left 1
     ·intro w hSw
      (try dsimp only at hSw)
      first | (go_simp; done) | (go_simp; with_reducible rfl)
     try simp only [Act.put, sA, sB, sC]
     refine tY 4 (v := ?_) rfl (by kernel_rfl) (.inl ⟨by rfl, ?_⟩) ‹_› ?_
     rotate_left 1
     ·intro w hSw
      (try dsimp only at hSw)
      first | (go_simp; done) | (go_simp; with_reducible rfl)
     try simp only [Act.put, sA, sB, sC]
     refine tY 5 (v := ?_) rfl (by kernel_rfl) (.inl ⟨by rfl, ?_⟩) ‹_› ?_
     rotate_left 1
     ·intro w hSw
      (try dsimp only at hSw)
      first | (go_simp; done) | (go_simp; with_reducible rfl)
     try simp only [Act.put, sA, sB, sC]
     refine wpAnyH_ready (rs := [6]) (by kernel_rfl) (by simp) ?_
     refine rC rfl (fun K hK => ?_) AllReadyH.nil
     go_simp
     refine (dU CY _).mono ?_
     rintro r w5 ⟨rfl, b5⟩
     have hb5 := bT hbr b5
     obtain ⟨P5, X5, B5, -, MM⟩ := dU KQ w5 hb5
     have HX5 := dH X5
     have HB5 := dH B5
     have HP5 := dH P5
     have HM5 := dH MM
     clear X5 B5 P5 MM
     (try go_wp2_with fail)
     refine hK.out _ _ ?_ (fun hHeld => ?_)
     ·exact ⟨⟨dU HX5 0 _ rfl, dU HX5 1 _ rfl, dU HX5 2 _ rfl, dU HX5 3 _ rfl⟩, dU HM5⟩
     clear hK K
     try simp only [Act.put, sA, sB, sC]
     refine wpAnyH_ready (rs := [7]) (by kernel_rfl) (by simp) ?_
     refine rC rfl (fun K hK => ?_) AllReadyH.nil
     go_simp
     have hb57 := bT hb5 (ba w5 (.cells #[.int .i64 bx, .int .i64 bw, .bool bh, .string bd] 36))
     (try go_wp2_with fail)
     refine hK.out _ _ ?_ (fun hHeld => ?_)
     ·obtain ⟨-, X7, -, -, M7⟩ := dU KQ _ hb57
      exact ⟨⟨X7 0 _ rfl, X7 1 _ rfl, X7 2 _ rfl, X7 3 _ rfl⟩, M7⟩
     clear hK K
     try simp only [Act.put, sA, sB, sC]
     refine wpAnyH_ready (rs := [8]) (by kernel_rfl) (by simp) ?_
     refine rC rfl (fun K hK => ?_) AllReadyH.nil
     refine step_apR elemE rfl _ _ rfl (w.heap.size + 1) (.slice oa zs.length oc) zs rfl ((dU HP5).below (ba _ _)) _ [⟨bx, bw, bh, bd⟩] rfl (dU RB _ _) (by simp; omega) (by simp; omega) (by have := hb5.size; simp; omega) ?_
     intro v6 w6 P6 g6 t6
     have hb6 := Below.grown (bT (dU HB5) (ba _ _)) g6 (by have := hb5.size; simp; omega) (fun k hk => by have := ((dU HP5).touched elemE hk).1; omega)
     have hx6 := Bx.grown (Bx.below (dU HX5) (ba _ _)) g6 (fun e => by have := ((dU HP5).touched elemE e).1; omega)
     have hsz6 : w.heap.size + 1 ≤ w6.heap.size := by have h1 := g6.size; have := hb5.size; simp at h1; omega
     refine hK.out _ _ ?_ (fun hHeld => ?_)
     ·exact ⟨⟨hx6 0 _ rfl, hx6 1 _ rfl, hx6 2 _ rfl, hx6 3 _ rfl⟩, dU HC2 w6 hb6⟩
     clear hK K
     try simp only [Act.put, sA, sB, sC]
     refine tY 9 (v := ?_) rfl (by kernel_rfl) (.inl ⟨by rfl, ?_⟩) ‹_› ?_
     rotate_left 1
     ·intro w hSw
      (try dsimp only at hSw)
      first | (go_simp; done) | (go_simp; with_reducible rfl)
     try simp only [Act.put, sA, sB, sC]
     refine wpAnyH_done (by kernel_rfl) ?_ _
     refine NoPanic.normal ?_
     go_wp2
     go_roundw
     case rel => exact ⟨k + 1, true, zs ++ [⟨bx, bw, bh, bd⟩], by go_num, rfl, by omega, by simpa using P6, HK, hx6, hb6, hsz6⟩
     case measure => simp [intOf]; omega
    ·have d1 : (yx == x) = false := by simp; omega
     have d2 : decide (x < yx) = true := decide_eq_true (by omega)
     have HK : Hid (KeepAt ⟨x, wv, ho, d⟩ (es.take (k + 1)) (zs ++ [⟨x, wv, ho, d⟩] ++ [⟨yx, yw, yh, yd⟩]) true) := by rw [Hid, dU HT]; exact (dU hka).ahead h1
     clear hka HT
     go_wp2
     go_quiet (fail)
     go_wp2
     go_quiet (fail)
     go_wp2_with (at_builtin; refine wp_apR elemE rfl _ _ rfl (w.heap.size + 1) (.slice oa zs.length oc) zs rfl (ApR.below (dU K _ (by first | exact Below.refl _ _ | exact below_drewN (Below.refl _ _) _ | exact below_drewN (below_drewN (Below.refl _ _) _) _)).1 (ba _ _)) _ [⟨x, wv, ho, d⟩] rfl (dU RO _ _) ?c1 ?c2 ?c3 ?_)
     case c1 => (try simp); omega
     case c2 => (try simp); omega
     case c3 => have := (dU K _ (Below.refl _ _)).2.2.2; (try simp); omega
     intro v2 w2 P2 g2 t2
     have hb2 := Below.grown (bT (dU K _ (by first | exact Below.refl _ _ | exact below_drewN (Below.refl _ _) _ | exact below_drewN (below_drewN (Below.refl _ _) _) _)).2.2.1 (ba _ _)) g2 (by have := (dU K _ (Below.refl _ _)).2.2.2; simp; omega) (fun k hk => by have := ((dU K _ (Below.refl _ _)).1.touched elemE hk).1; omega)
     have hx2 := Bx.grown (Bx.below (dU K _ (by first | exact Below.refl _ _ | exact below_drewN (Below.refl _ _) _ | exact below_drewN (below_drewN (Below.refl _ _) _) _)).2.1 (ba _ _)) g2 (fun e => by have := ((dU K _ (Below.refl _ _)).1.touched elemE e).1; omega)
     have hsz2 : w.heap.size + 1 ≤ w2.heap.size := by have h1 := g2.size; have h2 := (dU K _ (Below.refl _ _)).2.2.2; simp at h1; omega
     obtain ⟨pa, pc, rfl⟩ := ApR.slice elemE P2
     obtain ⟨e0, e1, e2, e3⟩ := dU HC w2 hb2
     generalize hL : zs ++ [(⟨x, wv, ho, d⟩ : Ent)] = zs2 at *
     have hz2 : zs2.length ≤ es.length + 2 := by rw [← hL]; simp; omega
     clear hL
     have K2 : Hid (∀ W, Below w2.heap.size w2 W → ApE W (w.heap.size + 1) (.slice pa zs2.length pc) zs2 ∧ Bx W w.heap.size [.int .i64 x, .int .i64 wv, .bool ho, .string d] ∧ Below w.heap.size w W ∧ w.heap.size + 1 ≤ w2.heap.size) := fun W hB => ⟨P2.below hB, hx2.below hB, bT hb2 hB, hsz2⟩
     clear K c0 c1 c2 c3 y0 y1 y2 y3 HC g2 t2 P2 hb2 hx2 hsz2
     go_wp2_with (at_builtin; refine wp_apR elemE rfl _ _ rfl (w.heap.size + 1) (.slice pa zs2.length pc) zs2 rfl (ApR.below (dU K2 _ (by first | exact Below.refl _ _ | exact below_drewN (Below.refl _ _) _ | exact below_drewN (below_drewN (Below.refl _ _) _) _)).1 (ba _ _)) _ [⟨yx, yw, yh, yd⟩] rfl (dU RE _ _) ?c1 ?c2 ?c3 ?_)
     case c1 => (try simp); omega
     case c2 => (try simp); omega
     case c3 => have := (dU K2 _ (Below.refl _ _)).2.2.2; (try simp); omega
     intro v3 w3 P3 g3 t3
     have hb3 := Below.grown (bT (dU K2 _ (by first | exact Below.refl _ _ | exact below_drewN (Below.refl _ _) _ | exact below_drewN (below_drewN (Below.refl _ _) _) _)).2.2.1 (ba _ _)) g3 (by have := (dU K2 _ (Below.refl _ _)).2.2.2; simp; omega) (fun k hk => by have := ((dU K2 _ (Below.refl _ _)).1.touched elemE hk).1; omega)
     have hx3 := Bx.grown (Bx.below (dU K2 _ (by first | exact Below.refl _ _ | exact below_drewN (Below.refl _ _) _ | exact below_drewN (below_drewN (Below.refl _ _) _) _)).2.1 (ba _ _)) g3 (fun e => by have := ((dU K2 _ (Below.refl _ _)).1.touched elemE e).1; omega)
     have hsz3 : w.heap.size + 1 ≤ w3.heap.size := by have h1 := g3.size; have h2 := (dU K2 _ (Below.refl _ _)).2.2.2; simp at h1; omega
     clear K2 e0 e1 e2 e3
     clear g3 t3
     go_wp2
     go_roundw
     case rel => exact ⟨k + 1, true, zs2 ++ [⟨yx, yw, yh, yd⟩], by go_num, rfl, by omega, by simpa using P3, by simpa using HK, hx3, hb3, hsz3⟩
     case measure => simp [intOf]; omega
   ·have HK : Hid (KeepAt ⟨x, wv, ho, d⟩ (es.take (k + 1)) (zs ++ [⟨yx, yw, yh, yd⟩]) true) := by rw [Hid, dU HT]; exact (dU hka).on (.inl rfl)
    clear hka HT
    go_wp2
    go_quiet (fail)
    go_wp2
    go_quiet (fail)
    go_wp2_with (at_builtin; refine wp_apR elemE rfl _ _ rfl (w.heap.size + 1) (.slice oa zs.length oc) zs rfl (ApR.below (dU K _ (by first | exact Below.refl _ _ | exact below_drewN (Below.refl _ _) _ | exact below_drewN (below_drewN (Below.refl _ _) _) _)).1 (ba _ _)) _ [⟨yx, yw, yh, yd⟩] rfl (dU RE _ _) ?c1 ?c2 ?c3 ?_)
    case c1 => (try simp); omega
    case c2 => (try simp); omega
    case c3 => have := (dU K _ (Below.refl _ _)).2.2.2; (try simp); omega
    intro v2 w2 P2 g2 t2
    have hb2 := Below.grown (bT (dU K _ (by first | exact Below.refl _ _ | exact below_drewN (Below.refl _ _) _ | exact below_drewN (below_drewN (Below.refl _ _) _) _)).2.2.1 (ba _ _)) g2 (by have := (dU K _ (Below.refl _ _)).2.2.2; simp; omega) (fun k hk => by have := ((dU K _ (Below.refl _ _)).1.touched elemE hk).1; omega)
    have hx2 := Bx.grown (Bx.below (dU K _ (by first | exact Below.refl _ _ | exact below_drewN (Below.refl _ _) _ | exact below_drewN (below_drewN (Below.refl _ _) _) _)).2.1 (ba _ _)) g2 (fun e => by have := ((dU K _ (Below.refl _ _)).1.touched elemE e).1; omega)
    have hsz2 : w.heap.size + 1 ≤ w2.heap.size := by have h1 := g2.size; have h2 := (dU K _ (Below.refl _ _)).2.2.2; simp at h1; omega
    clear K c0 c1 c2 c3 y0 y1 y2 y3 HC
    clear g2 t2
    go_wp2
    go_roundw
    case rel => exact ⟨k + 1, true, zs ++ [⟨yx, yw, yh, yd⟩], by go_num, rfl, by omega, by simpa using P2, by simpa using HK, hx2, hb2, hsz2⟩
    case measure => simp [intOf]; omega
  ·have e1 : es.take k = es := List.take_of_length_le (by omega)
   rw [e1] at hka
   clear e1 HV
   have K : Hid (∀ W, Below wr.heap.size wr W → ApE W (w.heap.size + 1) (.slice oa zs.length oc) zs ∧ Bx W w.heap.size [.int .i64 x, .int .i64 wv, .bool ho, .string d] ∧ Below w.heap.size w W ∧ w.heap.size + 1 ≤ wr.heap.size) := fun W hB => ⟨hap.below hB, hx.below hB, bT hb hB, hsz⟩
   cases p
   ·obtain ⟨m1, rfl⟩ := (dU hka).2 rfl
    have eP : Hid (zs ++ [⟨x, wv, ho, d⟩] = keepL ⟨x, wv, ho, d⟩ zs) := by
     have := keepL_all m1 []
     rw [Hid]
     simpa [keepL] using this.symm
    clear m1 hka hap hx hb hsz
    go_wp2_with (at_builtin; refine wp_apR elemE rfl _ _ rfl (w.heap.size + 1) (.slice oa zs.length oc) zs rfl (ApR.below (dU K _ (by first | exact Below.refl _ _ | exact below_drewN (Below.refl _ _) _ | exact below_drewN (below_drewN (Below.refl _ _) _) _)).1 (ba _ _)) _ [⟨x, wv, ho, d⟩] rfl (dU RO _ _) ?c1 ?c2 ?c3 ?_)
    case c1 => (try simp); omega
    case c2 => (try simp); omega
    case c3 => have := (dU K _ (Below.refl _ _)).2.2.2; (try simp); omega
    intro v2 w2 P2 g2 t2
    have hb2 := Below.grown (bT (dU K _ (by first | exact Below.refl _ _ | exact below_drewN (Below.refl _ _) _ | exact below_drewN (below_drewN (Below.refl _ _) _) _)).2.2.1 (ba _ _)) g2 (by have := (dU K _ (Below.refl _ _)).2.2.2; simp; omega) (fun k hk => by have := ((dU K _ (Below.refl _ _)).1.touched elemE hk).1; omega)
    have hx2 := Bx.grown (Bx.below (dU K _ (by first | exact Below.refl _ _ | exact below_drewN (Below.refl _ _) _ | exact below_drewN (below_drewN (Below.refl _ _) _) _)).2.1 (ba _ _)) g2 (fun e => by have := ((dU K _ (Below.refl _ _)).1.touched elemE e).1; omega)
    have hsz2 : w.heap.size + 1 ≤ w2.heap.size := by have h1 := g2.size; have h2 := (dU K _ (Below.refl _ _)).2.2.2; simp at h1; omega
    have q : Hid (ApE w2 w.heap.size v2 (keepL ⟨x, wv, ho, d⟩ zs)) := by rw [Hid, ← dU eP]; exact P2.mono (by omega)
    clear g2 t2 P2 eP K y0 y1 y2 y3
    go_wp2
    go_ret
    exact ⟨⟨_, rfl, dU q⟩, hb2⟩
   ·have eP := ((dU hka).1 rfl).2
    have q : Hid (ApE wr w.heap.size (.slice oa zs.length oc) (keepL ⟨x, wv, ho, d⟩ es)) := by rw [Hid, ← eP]; exact hap.mono (by omega)
    clear eP hka hap K y0 y1 y2 y3
    go_wp2
    go_ret
    exact ⟨⟨_, rfl, dU q⟩, hb⟩
section
variable {T TS : TypeId} {zs : List Value} {w : World} {ops : Array Oper} {o : Oper} {a : Act} {Q : Exit → Act → World → Prop} {K : Act → World → Prop} {F : Prop}
end
theorem touch_base {α : Type} {T TS : TypeId} {z : Value} {sz bytes : Nat} {cl : α → List Value} {w : World} {base b : Nat} {v : Value} {ms : List α} (E : Elem T TS z sz bytes cl) (h : ApR T sz cl w base v ms) (hb : b < base) : touch v ≠ some b := fun e => by have := (h.touched E e).1; omega
open Classical in
noncomputable def crashM (s : St) (keep : Int) : St × Bool := if stP s then (if crashP s keep then (⟨crashK s keep, [], s.lock⟩, true) else (s, false)) else (zeroSt, false)
theorem crashM_bad {s : St} {keep : Int} (h : ¬ stP s) : crashM s keep = (zeroSt, false) := if_neg h
theorem crashM_no {s : St} {keep : Int} (h : stP s) (hp : ¬ crashP s keep) : crashM s keep = (s, false) := (if_pos h).trans (if_neg hp)
theorem crashM_yes {s : St} {keep : Int} (h : stP s) (hp : crashP s keep) : crashM s keep = (⟨crashK s keep, [], s.lock⟩, true) := (if_pos h).trans (if_pos hp)
theorem i64_and1E (n : Int) : bits .and .i64 n 1 = n % 2 := by
 have h1 : (BitVec.ofInt 64 1).toNat = 2 ^ 1 - 1 := by decide
 have key : (BitVec.ofInt 64 n &&& BitVec.ofInt 64 1).toNat = (n % ((2 ^ 64 : Nat) : Int)).toNat % 2 ^ 1 := by
  rw [BitVec.toNat_and, BitVec.toNat_ofInt, h1, Nat.and_two_pow_sub_one_eq_mod]
 show IntKind.i64.wrap ((BitVec.ofInt 64 n &&& BitVec.ofInt 64 1).toNat : Nat) = n % 2
 rw [key, IntKind.wrap_i64]
 omega
set_option maxHeartbeats 8000000 in
theorem specCrash_any (v : Value) (s : St) (keep : Int) (w : World) (hv : Rs w v s) (hf : fitS s) :
  Calls Tryz.prog 182 #[v, .int .i64 keep] w fun r w' => (∃ u, r = .returned (.tuple #[u, .bool (crashM s keep).2]) ∧ OwS w' w.heap.size u (crashM s keep).1) ∧ Below w.heap.size w w' := by
 have ba : ∀ (w : World) o, Below w.heap.size w (w.alloc o) := fun w o => (Below.refl _ _).alloc (Nat.le_refl _) o
 have C1 := dH fun W (hb : Below w.heap.size w W) => specStoreOk_any v s W (hv.below hb) hf
 have C2 := dH fun W (hb : Below w.heap.size w W) (h : stP s) => l6Copy_any v s W (hv.below hb) (by have := h.1.1; omega) (by have := h.2.1.1; omega)
 obtain ⟨kv, lv, rfl, rk, rl⟩ := hv
 have HK := dH fun W (hb : Below w.heap.size w W) => rk.below hb
 have HL := dH fun W (hb : Below w.heap.size w W) => rl.below hb
 obtain ⟨-, ka, kc, rfl, -, -⟩ := rk
 obtain ⟨-, la, lc, rfl, -, -⟩ := rl
 have PB : Hid (¬ stP s → crashM s keep = (zeroSt, false)) := crashM_bad
 have PN : Hid (stP s → ¬ crashP s keep → crashM s keep = (s, false)) := crashM_no
 have PY : Hid (stP s → crashP s keep → crashM s keep = (⟨crashK s keep, [], s.lock⟩, true)) := crashM_yes
 generalize crashM s keep = M at *
 clear hf
 have X0 := (BxZ.new w [.slice ka s.kept.length kc, .slice la s.late.length lc, .int .i64 s.lock] 174 (Nat.le_refl _)).below (ba _ (.cells #[.slice none 0 0, .slice none 0 0, .int .i64 0] 174))
 have Z0 := BxZ.new (B := w.heap.size) (w.alloc (.cells #[.slice ka s.kept.length kc, .slice la s.late.length lc, .int .i64 s.lock] 174)) [.slice none 0 0, .slice none 0 0, .int .i64 0] 174 (by simp)
 have B0 := bT (ba w (.cells #[.slice ka s.kept.length kc, .slice la s.late.length lc, .int .i64 s.lock] 174)) (ba _ (.cells #[.slice none 0 0, .slice none 0 0, .int .i64 0] 174))
 have e1 : (w.alloc (.cells #[.slice ka s.kept.length kc, .slice la s.late.length lc, .int .i64 s.lock] 174)).heap.size = w.heap.size + 1 := by simp
 rw [e1] at Z0
 clear e1
 go_enter Tryz.func182, Tryz.ntmps182
 go_wp2_with fail
 generalize (w.alloc (.cells #[.slice ka s.kept.length kc, .slice la s.late.length lc, .int .i64 s.lock] 174)).alloc (.cells #[.slice none 0 0, .slice none 0 0, .int .i64 0] 174) = w0 at *
 have K : Hid (∀ W, Below w0.heap.size w0 W → BxZ W w.heap.size w.heap.size [.slice ka s.kept.length kc, .slice la s.late.length lc, .int .i64 s.lock] ∧ BxZ W w.heap.size (w.heap.size + 1) [.slice none 0 0, .slice none 0 0, .int .i64 0] ∧ Below w.heap.size w W) := fun W hb => ⟨X0.below hb, Z0.below hb, bT B0 hb⟩
 have hlt := Z0.lt
 clear X0 Z0
 refine (dU C1 _ B0).mono ?_
 rintro r w1 ⟨hr1, b1⟩
 by_cases hs : stP s
 ·obtain rfl := hr1.of_yes hs
  have HS := dH hs
  have hkl : s.kept.length ≤ 200 := hs.1.1
  have hll : s.late.length ≤ 20 := hs.2.1.1
  clear hr1 PB hs
  obtain ⟨X1, -, B1⟩ := dU K w1 b1
  have k0 := (X1.2 0 _ rfl).1
  have k1 := (X1.2 1 _ rfl).1
  have k2 := (X1.2 2 _ rfl).1
  clear X1
  have hw1 : w.heap.size + 1 < w1.heap.size := by have := b1.size; omega
  have HK1 := dH fun W (hb : Below w1.heap.size w1 W) => dU HK W (bT B1 hb)
  have KX := dH fun W (hb : Below w1.heap.size w1 W) => (dU K W (bT b1 hb)).1
  have bE : Below w1.heap.size w1 (w1.alloc (.cells #[] 36)).drew := (ba _ _).drew
  have bZE : Below w1.heap.size w1 ((w1.alloc (.cells #[.slice none 0 0, .slice none 0 0, .int .i64 0] 174)).alloc (.cells #[] 36)).drew := (bT (ba _ _) (ba _ _)).drew
  have bEZ : Below w1.heap.size w1 ((w1.alloc (.cells #[] 36)).alloc (.cells #[.slice none 0 0, .slice none 0 0, .int .i64 0] 174)).drew := (bT (ba _ _) (ba _ _)).drew
  have ZZE := (BxZ.new (B := w1.heap.size) w1 [.slice none 0 0, .slice none 0 0, .int .i64 0] 174 (Nat.le_refl _)).below (ba _ (.cells #[] 36))
  have ZEZ := BxZ.new (B := w1.heap.size) (w1.alloc (.cells #[] 36)) [.slice none 0 0, .slice none 0 0, .int .i64 0] 174 (by simp)
  have eE : (w1.alloc (.cells #[] 36)).heap.size = w1.heap.size + 1 := by simp
  rw [eE] at ZEZ
  have HZZE := dH ZZE
  have HZEZ := dH ZEZ
  clear ZZE ZEZ eE
  go_wp2_with fail
  go_cut [6] (fun sv wx => ∃ bo v5, sv = .pointer (some ⟨bo, 0, none⟩) ∧ BxZ wx w1.heap.size bo [v5, .slice none 0 0, .int .i64 s.lock] ∧ ApE wx w1.heap.size v5 s.kept ∧ touch v5 ≠ some bo ∧ Below w1.heap.size w1 wx)
  case first =>
   go_region_held3 (fun W => W.cell? ⟨w.heap.size, 0, none⟩ = some (.slice ka s.kept.length kc) ∧ W.cell? ⟨w.heap.size, 2, none⟩ = some (.int .i64 s.lock)) (first | exact ⟨q0, q2⟩ | exact ⟨sO (sO (sO q0 (.inl (by omega))) (.inl (by omega))) (.inl (by omega)), sO (sO (sO q2 (.inl (by omega))) (.inl (by omega))) (.inl (by omega))⟩ | go_keep)
    (first
     | (refine step_cpR elemE rfl _ _ rfl _ rfl _ s.kept rfl (dU HK1 _ bE) (by omega) ?_; intro v5 w5 P5 b5; have hb5 := bT bE b5; have q0 := ((dU KX w5 hb5).2 0 _ rfl).1; have q2 := ((dU KX w5 hb5).2 2 _ rfl).1; have P5' := P5.mono (base' := w1.heap.size) bE.size; obtain ⟨a5, c5, rfl⟩ := ApR.slice elemE P5)
     | (refine step_cpR elemE rfl _ _ rfl _ rfl _ s.kept rfl (dU HK1 _ bZE) (by omega) ?_; intro v5 w5 P5 b5; have hb5 := bT bZE b5; have q0 := ((dU KX w5 hb5).2 0 _ rfl).1; have q2 := ((dU KX w5 hb5).2 2 _ rfl).1; have BX := (dU HZZE).drew'.below b5; obtain ⟨z0, f0⟩ := BX.2 0 _ rfl; obtain ⟨z1, f1⟩ := BX.2 1 _ rfl; obtain ⟨z2, f2⟩ := BX.2 2 _ rfl; have TB := touch_base elemE P5 (show w1.heap.size < _ by simp <;> omega); have P5' := P5.mono (base' := w1.heap.size) bZE.size; obtain ⟨a5, c5, rfl⟩ := ApR.slice elemE P5)
     | (refine step_cpR elemE rfl _ _ rfl _ rfl _ s.kept rfl (dU HK1 _ bEZ) (by omega) ?_; intro v5 w5 P5 b5; have hb5 := bT bEZ b5; have q0 := ((dU KX w5 hb5).2 0 _ rfl).1; have q2 := ((dU KX w5 hb5).2 2 _ rfl).1; have BX := (dU HZEZ).drew'.below b5; obtain ⟨z0, f0⟩ := BX.2 0 _ rfl; obtain ⟨z1, f1⟩ := BX.2 1 _ rfl; obtain ⟨z2, f2⟩ := BX.2 2 _ rfl; have TB := touch_base elemE P5 (show w1.heap.size + 1 < _ by simp <;> omega); have P5' := P5.mono (base' := w1.heap.size) bEZ.size; obtain ⟨a5, c5, rfl⟩ := ApR.slice elemE P5))
   all_goals
    go_wp2_with fail
    go_meet
    case rel =>
     first
     | exact ⟨w5.heap.size, _, rfl, BxZ.new w5 [.slice a5 s.kept.length c5, .slice none 0 0, .int .i64 s.lock] 174 hb5.size, P5'.below (ba _ _), (fun e => by have := (P5'.touched elemE e).2; omega), bT hb5 (ba _ _)⟩
     | exact ⟨_, _, rfl, ((BX.put 0 (.slice a5 s.kept.length c5)).put 1 (.slice none 0 0)).put 2 (.int .i64 s.lock), ApR.put elemE (ApR.put elemE (ApR.put elemE P5' TB _) TB _) TB _, TB, ((hb5.setCell BX.1 _).setCell BX.1 _).setCell BX.1 _⟩
  case rest =>
   obtain ⟨bo, v5, rfl, BX, P5, TB, bc⟩ := hcut
   have KL := dH fun W (hb : Below w1.heap.size w1 W) => dU HL W (bT B1 hb)
   have hbo : w1.heap.size ≤ bo := BX.1
   have CRK : Hid (crashK s keep = crashL s.kept keep s.late 0) := rfl
   clear bE bZE bEZ HZZE HZEZ k0 k1 k2 HK HK1 HL
   go_wp2
   go_loopw [7] (fun i wr => ∃ (k : Nat) (v6 : Value), i = .int .i64 (k : Int) ∧ k ≤ s.late.length ∧ BxZ wr w1.heap.size bo [v6, .slice none 0 0, .int .i64 s.lock] ∧ ApE wr w1.heap.size v6 (crashL s.kept keep (s.late.take k) 0) ∧ touch v6 ≠ some bo ∧ Below w1.heap.size w1 wr) (fun i _ => s.late.length - (intOf i).toNat)
   case atStart => exact ⟨0, v5, rfl, Nat.zero_le _, BX, P5, TB, bc⟩
   case round =>
    obtain ⟨k, v6, rfl, hk, BX, P6, TB6, hb⟩ := hrel
    have Xr := dU KX wr hb
    have k0 := (Xr.2 0 _ rfl).1
    have k1 := (Xr.2 1 _ rfl).1
    have k2 := (Xr.2 2 _ rfl).1
    clear Xr P5
    by_cases hlt : (k : Int) < (s.late.length : Int)
    ·have hkl : k < s.late.length := by omega
     have hT := dH (List.take_succ_eq_append_getElem hkl)
     have hS := dH (crashL_snoc s.kept keep (s.late.take k) s.late[k] 0)
     have hlen0 := crashL_len keep (s.late.take k) s.kept 0
     have hlt0 : (s.late.take k).length = k := by simp; omega
     rw [hlt0] at hS hlen0
     have hS' : Hid (crashL s.kept keep (s.late.take (k + 1)) 0 = if bitE keep k then keepL s.late[k] (crashL s.kept keep (s.late.take k) 0) else crashL s.kept keep (s.late.take k) 0) := by rw [Hid, dU hT, dU hS]; simp
     obtain ⟨b, off, rfl, hc⟩ := (dU KL wr hb).ent hkl
     have hbw : b < w1.heap.size := by
      obtain ⟨b2, off2, e2, hc2⟩ := (dU KL w1 (Below.refl _ _)).ent hkl
      cases e2
      exact dCell_lt (hc2 k hkl).1
     have hbit : Hid (bitE keep k = (bits .and .i64 (keep / 2 ^ k) 1 == 1)) := by rw [Hid, i64_and1E]; rfl
     obtain ⟨c0, c1, c2, c3⟩ := hc k hkl
     generalize s.late[k] = y at *
     generalize crashL s.kept keep (s.late.take k) 0 = L at *
     have hL : L.length ≤ 1048576 := by omega
     clear hc hT hS hlt0
     have hk64 : (k : Int) ≤ 64 := by omega
     cases hq : bitE keep k with
     | true =>
      rw [hq] at hbit hS'
      have hbit' := (dU hbit).symm
      obtain ⟨a6, c6, rfl⟩ := ApR.slice elemE P6
      have CK := dH fun W (hB : Below wr.heap.size wr W) => l6Keep_any (.slice a6 L.length c6) L y W ((ApR.own elemE P6).rw.below hB) hL
      obtain ⟨yx, yw, yh, yd⟩ := y
      unfold Ent.val at CK
      simp only at *
      clear hbit hq
      obtain ⟨o0, g0⟩ := BX.2 0 _ rfl
      have hne : bo ≠ w.heap.size := by omega
      clear KX KL
      go_wp2
      refine wp_region_noPanic ?_
      refine wp_region_held_drew (S := fun W => W.cell? ⟨w.heap.size, 1, none⟩ = some (.slice (some ⟨b, off, none⟩) s.late.length lc) ∧ W.cell? ⟨b, off + k * 4, none⟩ = some (.int .i64 yx) ∧ W.cell? ⟨b, off + k * 4 + 1, none⟩ = some (.int .i64 yw) ∧ W.cell? ⟨b, off + k * 4 + 2, none⟩ = some (.bool yh) ∧ W.cell? ⟨b, off + k * 4 + 3, none⟩ = some (.string yd)) (by kernel_rfl) ?_ (fun hHeld => ?_)
      ·go_keep
      refine tY 0 (v := ?_) rfl (by kernel_rfl) (.inl ⟨by rfl, ?_⟩) ‹_› ?_
      rotate_left 1
      ·intro w hSw
       (try dsimp only at hSw)
       first | (go_simp; done) | (go_simp; with_reducible rfl)
      try simp only [Act.put, sA, sB, sC]
      refine tY 2 (v := ?_) rfl (by kernel_rfl) (.inl ⟨by rfl, ?_⟩) ‹_› ?_
      rotate_left 1
      ·intro w hSw
       (try dsimp only at hSw)
       first | (go_simp; done) | (go_simp; with_reducible rfl)
      try simp only [Act.put, sA, sB, sC]
      refine tY 3 (v := ?_) rfl (by kernel_rfl) (.inl ⟨by rfl, ?_⟩) ‹_› ?_
      rotate_left 1
      ·intro w hSw
       (try dsimp only at hSw)
       first | (go_simp; done) | (go_simp; with_reducible rfl)
      try simp only [Act.put, sA, sB, sC]
      refine tY 4 (v := ?_) rfl (by kernel_rfl) (.inl ⟨by rfl, ?_⟩) ‹_› ?_
      rotate_left 1
      ·intro w hSw
       (try dsimp only at hSw)
       first | (go_simp; done) | (go_simp; with_reducible rfl)
      try simp only [Act.put, sA, sB, sC]
      refine tY 5 (v := ?_) rfl (by kernel_rfl) (.inl ⟨by rfl, ?_⟩) ‹_› ?_
      rotate_left 1
      ·intro w hSw
       (try dsimp only at hSw)
       first | (go_simp; done) | (go_simp; with_reducible rfl)
      try simp only [Act.put, sA, sB, sC]
      refine tY 6 (v := ?_) rfl (by kernel_rfl) (.inl ⟨by rfl, ?_⟩) ‹_› ?_
      rotate_left 1
      ·intro w hSw
       (try dsimp only at hSw)
       first | (go_simp; done) | (go_simp; with_reducible rfl)
      try simp only [Act.put, sA, sB, sC]
      refine wpAnyH_ready (rs := [1]) (by kernel_rfl) (by simp) ?_
      refine rC rfl (fun K hK => ?_) AllReadyH.nil
      go_simp
      have o0d : wr.drew.cell? ⟨bo, 0, none⟩ = some (.slice a6 L.length c6) := o0
      go_simp
      (try go_wp2_with fail)
      refine hK.out _ _ ?_ (fun hHeld => ?_)
      ·go_keep
      clear hK K
      try simp only [Act.put, sA, sB, sC]
      refine wpAnyH_ready (rs := [7]) (by kernel_rfl) (by simp) ?_
      refine rC rfl (fun K hK => ?_) AllReadyH.nil
      go_simp
      refine (dU CK _ (Below.refl _ _).drew).mono ?_
      rintro r w6 ⟨⟨u6, rfl, Q6⟩, b6⟩
      have hb6 := bT (Below.refl _ _ : Below wr.heap.size wr wr).drew b6
      have BX6 := BX.below hb6
      obtain ⟨o0', g0'⟩ := BX6.2 0 _ rfl
      have q1 := (hb6.cell (p := ⟨w.heap.size, 1, none⟩) (dCell_lt k1)).trans k1
      have y0 := (hb6.cell (p := ⟨b, off + k * 4, none⟩) (dCell_lt c0)).trans c0
      have y1 := (hb6.cell (p := ⟨b, off + k * 4 + 1, none⟩) (dCell_lt c1)).trans c1
      have y2 := (hb6.cell (p := ⟨b, off + k * 4 + 2, none⟩) (dCell_lt c2)).trans c2
      have y3 := (hb6.cell (p := ⟨b, off + k * 4 + 3, none⟩) (dCell_lt c3)).trans c3
      obtain ⟨a7, c7, rfl⟩ := ApR.slice elemE Q6
      (try go_wp2_with fail)
      refine hK.out _ _ ?_ (fun hHeld => ?_)
      ·go_keep
      clear hK K
      try simp only [Act.put, sA, sB, sC]
      refine tY 8 (v := ?_) rfl (by kernel_rfl) (.inl ⟨by rfl, ?_⟩) ‹_› ?_
      rotate_left 1
      ·intro w hSw
       (try dsimp only at hSw)
       first | (go_simp; done) | (go_simp; with_reducible rfl)
      try simp only [Act.put, sA, sB, sC]
      refine wpAnyH_ready (rs := [9]) (by kernel_rfl) (by simp) ?_
      refine rC rfl (fun K hK => ?_) AllReadyH.nil
      go_simp
      refine hK.out _ _ ?_ (fun hHeld => ?_)
      ·exact ⟨sO q1 (.inl (by omega)), sO y0 (.inl (by omega)), sO y1 (.inl (by omega)), sO y2 (.inl (by omega)), sO y3 (.inl (by omega))⟩
      clear hK K
      try simp only [Act.put, sA, sB, sC]
      refine wpAnyH_done (by kernel_rfl) ?_ _
      refine NoPanic.normal ?_
      have hblt := BX.lt
      have TB7 := touch_base elemE Q6 (show bo < _ from hblt)
      have P7 := dH ((ApR.put elemE Q6 TB7 (o' := 0) (.slice a7 (keepL ⟨yx, yw, yh, yd⟩ L).length c7)).mono (base' := w1.heap.size) hb.size)
      have BX7 := dH (BX6.put 0 (.slice a7 (keepL ⟨yx, yw, yh, yd⟩ L).length c7))
      have hb7 := dH ((bT hb hb6).setCell (p := ⟨bo, 0, none⟩) hbo (.slice a7 (keepL ⟨yx, yw, yh, yd⟩ L).length c7))
      clear q1 y0 y1 y2 y3 o0' g0' hHeld BX6 b6 hb6 c0 c1 c2 c3 k0 k1 k2 o0 g0 CK P6 BX hb Q6 hbit'
      go_wp2
      go_roundw
      case rel => exact ⟨k + 1, _, by go_num, by omega, dU BX7, by rw [dU hS', if_pos trivial]; exact dU P7, TB7, dU hb7⟩
      case measure => simp [intOf]; omega
     | false =>
      rw [hq] at hbit hS'
      have hbit' := (dU hbit).symm
      obtain ⟨a6, c6, rfl⟩ := ApR.slice elemE P6
      clear hbit hq c0 c1 c2 c3
      go_wp2
      go_roundw
      case rel => exact ⟨k + 1, _, by go_num, by omega, BX, by rw [dU hS']; exact P6, TB6, hb⟩
      case measure => simp [intOf]; omega
    ·have e1 : s.late.take k = s.late := List.take_of_length_le (by omega)
     rw [e1, ← dU CRK] at P6
     have HP6 := dH P6
     obtain ⟨a6, c6, rfl⟩ := ApR.slice elemE P6
     have hB0 := bT b1 hb
     obtain ⟨-, -, Bw⟩ := dU K wr hB0
     have C2' := dH (dU C2 wr Bw (dU HS))
     have CPD : Hid (crashP s keep ↔ 0 ≤ keep ∧ keep ≤ 1048575 ∧ (crashK s keep).length ≤ 200) := Iff.rfl
     obtain ⟨o0, -⟩ := BX.2 0 _ rfl
     obtain ⟨o1, -⟩ := BX.2 1 _ rfl
     obtain ⟨o2, -⟩ := BX.2 2 _ rfl
     have HW : Hid (w.heap.size + 1 < wr.heap.size) := by have := hb.size; exact (by omega : w.heap.size + 1 < wr.heap.size)
     have FIN : Hid (∀ (w3 : World) (u3 : Value), OwS w3 wr.heap.size u3 s → Below wr.heap.size wr w3 → ∃ ka3 kc3 la3 lc3, u3 = .agg #[.slice ka3 s.kept.length kc3, .slice la3 s.late.length lc3, .int .i64 s.lock] ∧ BxZ w3 w.heap.size (w.heap.size + 1) [.slice none 0 0, .slice none 0 0, .int .i64 0] ∧ ∃ V, V = ((w3.setCell ⟨w.heap.size + 1, 0, none⟩ (.slice ka3 s.kept.length kc3)).setCell ⟨w.heap.size + 1, 1, none⟩ (.slice la3 s.late.length lc3)).setCell ⟨w.heap.size + 1, 2, none⟩ (.int .i64 s.lock) ∧ Bx V (w.heap.size + 1) [.slice ka3 s.kept.length kc3, .slice la3 s.late.length lc3, .int .i64 s.lock] ∧ OwS V w.heap.size (.agg #[.slice ka3 s.kept.length kc3, .slice la3 s.late.length lc3, .int .i64 s.lock]) s ∧ Below w.heap.size w V) := fun w3 u3 O3 b3 => by
      obtain ⟨ka3, kc3, la3, lc3, rfl⟩ := O3.shape
      obtain ⟨-, Z3, B3⟩ := dU K w3 (bT hB0 b3)
      have hw := dU HW
      have hw2 : w.heap.size ≤ wr.heap.size := by omega
      exact ⟨ka3, kc3, la3, lc3, rfl, Z3, _, rfl, (((Z3.put 0 (.slice ka3 s.kept.length kc3)).put 1 (.slice la3 s.late.length lc3)).put 2 (.int .i64 s.lock)).bx,
       (((O3.far (b := w.heap.size + 1) (o := 0) hw (.slice ka3 s.kept.length kc3)).far (b := w.heap.size + 1) (o := 1) hw (.slice la3 s.late.length lc3)).far (b := w.heap.size + 1) (o := 2) hw (.int .i64 s.lock)).mono hw2,
       ((B3.setCell (p := ⟨w.heap.size + 1, 0, none⟩) (by simp only; omega) _).setCell (p := ⟨w.heap.size + 1, 1, none⟩) (by simp only; omega) _).setCell (p := ⟨w.heap.size + 1, 2, none⟩) (by simp only; omega) _⟩
     have ZW : Hid (BxZ wr w.heap.size (w.heap.size + 1) [.slice none 0 0, .slice none 0 0, .int .i64 0]) := (dU K wr hB0).2.1
     have HB := dH Bw
     have hbo2 : w.heap.size + 1 < bo := by omega
     clear e1 P6 KX KL CRK C2 hB0 Bw K
     by_cases hp : crashP s keep
     ·have eM := dU PY (dU HS) hp
      obtain ⟨h0, h1, h2⟩ := (dU CPD).1 hp
      have CI := dH fun W => l1In_yes keep 0 1048575 h0 h1 W
      have d200 : ¬ (200 : Int) < ((crashK s keep).length : Int) := by omega
      have hw := dU HW
      have TB' := TB6
      have ZZ := dH (((((dU ZW).put 0 (.slice a6 (crashK s keep).length c6)).put 1 (.slice none 0 0)).put 2 (.int .i64 s.lock)).bx)
      have OO : Hid (OwS (((wr.setCell ⟨w.heap.size + 1, 0, none⟩ (.slice a6 (crashK s keep).length c6)).setCell ⟨w.heap.size + 1, 1, none⟩ (.slice none 0 0)).setCell ⟨w.heap.size + 1, 2, none⟩ (.int .i64 s.lock)) w.heap.size (.agg #[.slice a6 (crashK s keep).length c6, .slice none 0 0, .int .i64 s.lock]) ⟨crashK s keep, [], s.lock⟩) :=
       ⟨_, _, rfl, (ApR.far elemE (ApR.far elemE (ApR.far elemE (dU HP6) (b := w.heap.size + 1) (o' := 0) hw1 (.slice a6 (crashK s keep).length c6)) (b := w.heap.size + 1) (o' := 1) hw1 (.slice none 0 0)) (b := w.heap.size + 1) (o' := 2) hw1 (.int .i64 s.lock)).mono (by omega), .inl ⟨rfl, none, rfl⟩, by
        by_cases ht : touch (.slice a6 (crashK s keep).length c6) = none
        ·exact .inl ht
        ·exact .inr (fun e => ht (e.trans rfl))⟩
      have BB := dH ((((dU HB).setCell (p := ⟨w.heap.size + 1, 0, none⟩) (by simp only; omega) (.slice a6 (crashK s keep).length c6)).setCell (p := ⟨w.heap.size + 1, 1, none⟩) (by simp only; omega) (.slice none 0 0)).setCell (p := ⟨w.heap.size + 1, 2, none⟩) (by simp only; omega) (.int .i64 s.lock))
      obtain ⟨z0, f0⟩ := (dU ZW).2 0 _ rfl
      obtain ⟨z1, f1⟩ := (dU ZW).2 1 _ rfl
      obtain ⟨z2, f2⟩ := (dU ZW).2 2 _ rfl
      clear hp h0 h1 h2 CPD PN PY FIN C2' ZW HB HP6
      go_wp2_with fail
      refine (dU CI _).mono ?_
      rintro r w4 ⟨rfl, rfl⟩
      clear CI
      generalize (crashK s keep).length = nK at *
      go_wp2
      have q0 := dU ZZ 0 _ rfl
      have q1 := dU ZZ 1 _ rfl
      have q2 := dU ZZ 2 _ rfl
      clear z0 z1 z2 f0 f1 f2 o0 o1 o2 k0 k1 k2
      generalize ((w4.setCell ⟨w.heap.size + 1, 0, none⟩ (.slice a6 nK c6)).setCell ⟨w.heap.size + 1, 1, none⟩ (.slice none 0 0)).setCell ⟨w.heap.size + 1, 2, none⟩ (.int .i64 s.lock) = V at *
      subst eM
      refine bodyPost_ret (v := .tuple #[.agg #[.slice a6 nK c6, .slice none 0 0, .int .i64 s.lock], .bool true]) (by simp [results, Tryz.results182, go_sem, q0, q1, q2]) rfl ⟨⟨_, rfl, dU OO⟩, dU BB⟩
     ·have eM := dU PN (dU HS) hp
      by_cases hin : 0 ≤ keep ∧ keep ≤ 1048575
      ·have CI := dH fun W => l1In_yes keep 0 1048575 hin.1 hin.2 W
       have d200 : (200 : Int) < ((crashK s keep).length : Int) := by
        have : ¬ (crashK s keep).length ≤ 200 := fun h => hp ((dU CPD).2 ⟨hin.1, hin.2, h⟩)
        omega
       clear hp hin CPD PN PY ZW HB HP6
       generalize (crashK s keep).length = nK at *
       go_wp2_with fail
       refine (dU CI _).mono ?_
       rintro r w4 ⟨rfl, rfl⟩
       clear CI
       go_wp2_with fail
       refine (dU C2').mono ?_
       rintro r w3 ⟨⟨u3, rfl, O3⟩, b3⟩
       obtain ⟨ka3, kc3, la3, lc3, rfl, ZE, V, hV, hx, hO, hB⟩ := dU FIN w3 u3 O3 b3
       obtain ⟨z0, f0⟩ := ZE.2 0 _ rfl
       obtain ⟨z1, f1⟩ := ZE.2 1 _ rfl
       obtain ⟨z2, f2⟩ := ZE.2 2 _ rfl
       clear O3 b3 FIN C2' ZE o0 o1 o2 k0 k1 k2
       go_wp2
       rw [← hV]
       have q0 := hx 0 _ rfl
       have q1 := hx 1 _ rfl
       have q2 := hx 2 _ rfl
       clear hV hx z0 z1 z2 f0 f1 f2
       subst eM
       refine bodyPost_ret (v := .tuple #[.agg #[.slice ka3 s.kept.length kc3, .slice la3 s.late.length lc3, .int .i64 s.lock], .bool false]) (by simp [results, Tryz.results182, go_sem, q0, q1, q2]) rfl ⟨⟨_, rfl, hO⟩, hB⟩
      ·have CI := dH fun W => l1In_no keep 0 1048575 (by omega) W
       clear hp hin CPD PN PY ZW HB HP6
       generalize (crashK s keep).length = nK at *
       go_wp2_with fail
       refine (dU CI _).mono ?_
       rintro r w4 ⟨rfl, rfl⟩
       clear CI
       go_wp2_with fail
       refine (dU C2').mono ?_
       rintro r w3 ⟨⟨u3, rfl, O3⟩, b3⟩
       obtain ⟨ka3, kc3, la3, lc3, rfl, ZE, V, hV, hx, hO, hB⟩ := dU FIN w3 u3 O3 b3
       obtain ⟨z0, f0⟩ := ZE.2 0 _ rfl
       obtain ⟨z1, f1⟩ := ZE.2 1 _ rfl
       obtain ⟨z2, f2⟩ := ZE.2 2 _ rfl
       clear O3 b3 FIN C2' ZE o0 o1 o2 k0 k1 k2
       go_wp2
       rw [← hV]
       have q0 := hx 0 _ rfl
       have q1 := hx 1 _ rfl
       have q2 := hx 2 _ rfl
       clear hV hx z0 z1 z2 f0 f1 f2
       subst eM
       refine bodyPost_ret (v := .tuple #[.agg #[.slice ka3 s.kept.length kc3, .slice la3 s.late.length lc3, .int .i64 s.lock], .bool false]) (by simp [results, Tryz.results182, go_sem, q0, q1, q2]) rfl ⟨⟨_, rfl, hO⟩, hB⟩
 ·obtain rfl := hr1.of_no hs
  have eM := dU PB hs
  obtain ⟨X1, Z1, B1⟩ := dU K w1 b1
  obtain ⟨z0, f0⟩ := Z1.2 0 _ rfl
  obtain ⟨z1, f1⟩ := Z1.2 1 _ rfl
  obtain ⟨z2, f2⟩ := Z1.2 2 _ rfl
  have ZZ := ((Z1.put 0 (.slice none 0 0)).put 1 (.slice none 0 0)).put 2 (.int .i64 0)
  have BB := ((B1.setCell (p := ⟨w.heap.size + 1, 0, none⟩) (by simp only; omega) (.slice none 0 0)).setCell (p := ⟨w.heap.size + 1, 1, none⟩) (by simp only; omega) (.slice none 0 0)).setCell (p := ⟨w.heap.size + 1, 2, none⟩) (by simp only; omega) (.int .i64 0)
  clear hr1 hs PB PN PY X1 Z1 K C2 b1 HK HL
  go_wp2
  have q0 := (ZZ.2 0 _ rfl).1
  have q1 := (ZZ.2 1 _ rfl).1
  have q2 := (ZZ.2 2 _ rfl).1
  clear ZZ z0 z1 z2 f0 f1 f2
  generalize ((w1.setCell ⟨w.heap.size + 1, 0, none⟩ (.slice none 0 0)).setCell ⟨w.heap.size + 1, 1, none⟩ (.slice none 0 0)).setCell ⟨w.heap.size + 1, 2, none⟩ (.int .i64 0) = V at *
  subst eM
  refine bodyPost_ret (v := .tuple #[.agg #[.slice none 0 0, .slice none 0 0, .int .i64 0], .bool false]) (by simp [results, Tryz.results182, go_sem, q0, q1, q2]) rfl ⟨⟨_, rfl, OwS.zero _ _⟩, BB⟩
theorem OwS.into {w3 : World} {base B rb : Nat} {s : St} {x y z c0 c1 c2 : Value} (O : OwS w3 base (.agg #[c0, c1, c2]) s) (hrb : rb < base) (Z : BxZ w3 B rb [x, y, z]) :
  Bx (((w3.setCell ⟨rb, 0, none⟩ c0).setCell ⟨rb, 1, none⟩ c1).setCell ⟨rb, 2, none⟩ c2) rb [c0, c1, c2] ∧ OwS (((w3.setCell ⟨rb, 0, none⟩ c0).setCell ⟨rb, 1, none⟩ c1).setCell ⟨rb, 2, none⟩ c2) base (.agg #[c0, c1, c2]) s :=
 ⟨(((Z.put 0 c0).put 1 c1).put 2 c2).bx, ((O.far (b := rb) (o := 0) hrb c0).far (b := rb) (o := 1) hrb c1).far (b := rb) (o := 2) hrb c2⟩
theorem below_three {w0 w : World} {B rb : Nat} (h : Below B w0 w) (hb : B ≤ rb) (c0 c1 c2 : Value) : Below B w0 (((w.setCell ⟨rb, 0, none⟩ c0).setCell ⟨rb, 1, none⟩ c1).setCell ⟨rb, 2, none⟩ c2) :=
 ((h.setCell (p := ⟨rb, 0, none⟩) hb c0).setCell (p := ⟨rb, 1, none⟩) hb c1).setCell (p := ⟨rb, 2, none⟩) hb c2
set_option maxHeartbeats 4000000 in
theorem specSync_any (v : Value) (s : St) (w : World) (hv : Rs w v s) (hf : fitS s) :
  Calls Tryz.prog 164 #[v] w fun r w' => (∃ u, r = .returned (.tuple #[u, .bool (crashM s 1048575).2]) ∧ OwS w' w.heap.size u (crashM s 1048575).1) ∧ Below w.heap.size w w' := by
 have ba : ∀ (w : World) o, Below w.heap.size w (w.alloc o) := fun w o => (Below.refl _ _).alloc (Nat.le_refl _) o
 have C1 := dH fun W (hb : Below w.heap.size w W) => specCrash_any v s 1048575 W (hv.below hb) hf
 generalize crashM s 1048575 = M at *
 obtain ⟨m, mb⟩ := M
 obtain ⟨kv, lv, rfl, ⟨-, ka, kc, rfl, -, -⟩, ⟨-, la, lc, rfl, -, -⟩⟩ := hv
 have Z0 := BxZ.new (B := w.heap.size) (w.alloc (.cells #[.slice ka s.kept.length kc, .slice la s.late.length lc, .int .i64 s.lock] 174)) [.slice none 0 0, .slice none 0 0, .int .i64 0] 174 (by simp)
 have B0 := bT (ba w (.cells #[.slice ka s.kept.length kc, .slice la s.late.length lc, .int .i64 s.lock] 174)) (ba _ (.cells #[.slice none 0 0, .slice none 0 0, .int .i64 0] 174))
 have e1 : (w.alloc (.cells #[.slice ka s.kept.length kc, .slice la s.late.length lc, .int .i64 s.lock] 174)).heap.size = w.heap.size + 1 := by simp
 rw [e1] at Z0
 clear e1 hf
 go_enter Tryz.func164, Tryz.ntmps164
 go_wp2_with fail
 generalize (w.alloc (.cells #[.slice ka s.kept.length kc, .slice la s.late.length lc, .int .i64 s.lock] 174)).alloc (.cells #[.slice none 0 0, .slice none 0 0, .int .i64 0] 174) = w0 at *
 have hlt := Z0.lt
 refine (dU C1 _ B0).mono ?_
 rintro r w1 ⟨⟨u, rfl, O1⟩, b1⟩
 obtain ⟨ka1, kc1, la1, lc1, rfl⟩ := O1.shape
 have Z1 := Z0.below b1
 obtain ⟨z0, f0⟩ := Z1.2 0 _ rfl
 obtain ⟨z1, f1⟩ := Z1.2 1 _ rfl
 obtain ⟨z2, f2⟩ := Z1.2 2 _ rfl
 obtain ⟨hx, hO⟩ := OwS.into O1 hlt Z1
 have BB := dH (below_three (bT B0 b1) (Nat.le_succ w.heap.size) (.slice ka1 m.kept.length kc1) (.slice la1 m.late.length lc1) (.int .i64 m.lock))
 have HX := dH hx
 have HO := dH (hO.mono (base' := w.heap.size) (by omega))
 clear O1 Z1 hx hO b1 C1 Z0 B0
 go_wp2
 generalize ((w1.setCell ⟨w.heap.size + 1, 0, none⟩ (.slice ka1 m.kept.length kc1)).setCell ⟨w.heap.size + 1, 1, none⟩ (.slice la1 m.late.length lc1)).setCell ⟨w.heap.size + 1, 2, none⟩ (.int .i64 m.lock) = V at *
 have q0 := dU HX 0 _ rfl
 have q1 := dU HX 1 _ rfl
 have q2 := dU HX 2 _ rfl
 clear z0 z1 z2 f0 f1 f2
 refine bodyPost_ret (v := .tuple #[.agg #[.slice ka1 m.kept.length kc1, .slice la1 m.late.length lc1, .int .i64 m.lock], .bool mb]) (by simp [results, Tryz.results164, go_sem, q0, q1, q2]) rfl ⟨⟨_, rfl, dU HO⟩, dU BB⟩
theorem l1Max_s (a b : Int) (w : World) : Calls Tryz.prog 130 #[.int .i64 a, .int .i64 b] w fun e w' => e = .returned (.int .i64 (max a b)) ∧ w' = w := by
 by_cases h : b < a
 ·have e : max a b = a := by omega
  rw [e]
  clear e
  have hd : decide (b < a) = true := decide_eq_true h
  go_enter Tryz.func130, Tryz.ntmps130
  go_wp2
  go_ret
  exact ⟨rfl, rfl⟩
 ·have e : max a b = b := by omega
  rw [e]
  clear e
  have hd : decide (b < a) = false := decide_eq_false h
  go_enter Tryz.func130, Tryz.ntmps130
  go_wp2
  go_ret
  exact ⟨rfl, rfl⟩
def sealP (s : St) (upto : Int) : Prop := crashP s 1048575 ∧ 0 ≤ upto ∧ upto ≤ 30
open Classical in
noncomputable def sealM (s : St) (upto : Int) : St × Bool := if stP s then (if sealP s upto then (⟨crashK s 1048575, [], max s.lock upto⟩, true) else (s, false)) else (zeroSt, false)
theorem sealM_bad {s : St} {upto : Int} (h : ¬ stP s) : sealM s upto = (zeroSt, false) := if_neg h
theorem sealM_no {s : St} {upto : Int} (h : stP s) (hp : ¬ sealP s upto) : sealM s upto = (s, false) := (if_pos h).trans (if_neg hp)
theorem sealM_yes {s : St} {upto : Int} (h : stP s) (hp : sealP s upto) : sealM s upto = (⟨crashK s 1048575, [], max s.lock upto⟩, true) := (if_pos h).trans (if_pos hp)
set_option maxHeartbeats 8000000 in
theorem specSeal_any (v : Value) (s : St) (upto : Int) (w : World) (hv : Rs w v s) (hf : fitS s) :
  Calls Tryz.prog 165 #[v, .int .i64 upto] w fun r w' => (∃ u, r = .returned (.tuple #[u, .bool (sealM s upto).2]) ∧ OwS w' w.heap.size u (sealM s upto).1) ∧ Below w.heap.size w w' := by
 have ba : ∀ (w : World) o, Below w.heap.size w (w.alloc o) := fun w o => (Below.refl _ _).alloc (Nat.le_refl _) o
 have C1 := dH fun W (hb : Below w.heap.size w W) => specStoreOk_any v s W (hv.below hb) hf
 have C2 := dH fun W (hb : Below w.heap.size w W) (h : stP s) => l6Copy_any v s W (hv.below hb) (by have := h.1.1; omega) (by have := h.2.1.1; omega)
 have C3 := dH fun W (hb : Below w.heap.size w W) => specSync_any v s W (hv.below hb) hf
 obtain ⟨kv, lv, rfl, ⟨-, ka, kc, rfl, -, -⟩, ⟨-, la, lc, rfl, -, -⟩⟩ := hv
 have PB : Hid (¬ stP s → sealM s upto = (zeroSt, false)) := sealM_bad
 have PN : Hid (stP s → ¬ sealP s upto → sealM s upto = (s, false)) := sealM_no
 have PY : Hid (stP s → sealP s upto → sealM s upto = (⟨crashK s 1048575, [], max s.lock upto⟩, true)) := sealM_yes
 have PD : Hid (sealP s upto ↔ crashP s 1048575 ∧ 0 ≤ upto ∧ upto ≤ 30) := Iff.rfl
 have CY : Hid (stP s → crashP s 1048575 → crashM s 1048575 = (⟨crashK s 1048575, [], s.lock⟩, true)) := crashM_yes
 have CN : Hid (stP s → ¬ crashP s 1048575 → crashM s 1048575 = (s, false)) := crashM_no
 generalize sealM s upto = M at *
 clear hf
 have X0 := (BxZ.new w [.slice ka s.kept.length kc, .slice la s.late.length lc, .int .i64 s.lock] 174 (Nat.le_refl _)).below (ba _ (.cells #[.slice none 0 0, .slice none 0 0, .int .i64 0] 174))
 have Z0 := BxZ.new (B := w.heap.size) (w.alloc (.cells #[.slice ka s.kept.length kc, .slice la s.late.length lc, .int .i64 s.lock] 174)) [.slice none 0 0, .slice none 0 0, .int .i64 0] 174 (by simp)
 have B0 := bT (ba w (.cells #[.slice ka s.kept.length kc, .slice la s.late.length lc, .int .i64 s.lock] 174)) (ba _ (.cells #[.slice none 0 0, .slice none 0 0, .int .i64 0] 174))
 have e1 : (w.alloc (.cells #[.slice ka s.kept.length kc, .slice la s.late.length lc, .int .i64 s.lock] 174)).heap.size = w.heap.size + 1 := by simp
 rw [e1] at Z0
 clear e1
 go_enter Tryz.func165, Tryz.ntmps165
 go_wp2_with fail
 generalize (w.alloc (.cells #[.slice ka s.kept.length kc, .slice la s.late.length lc, .int .i64 s.lock] 174)).alloc (.cells #[.slice none 0 0, .slice none 0 0, .int .i64 0] 174) = w0 at *
 have K : Hid (∀ W, Below w0.heap.size w0 W → BxZ W w.heap.size w.heap.size [.slice ka s.kept.length kc, .slice la s.late.length lc, .int .i64 s.lock] ∧ BxZ W w.heap.size (w.heap.size + 1) [.slice none 0 0, .slice none 0 0, .int .i64 0] ∧ Below w.heap.size w W) := fun W hb => ⟨X0.below hb, Z0.below hb, bT B0 hb⟩
 have hlt := Z0.lt
 clear X0 Z0
 refine (dU C1 _ B0).mono ?_
 rintro r w1 ⟨hr1, b1⟩
 by_cases hs : stP s
 ·obtain rfl := hr1.of_yes hs
  have HS := dH hs
  clear hr1 PB hs
  obtain ⟨X1, -, B1⟩ := dU K w1 b1
  have k0 := (X1.2 0 _ rfl).1
  have k1 := (X1.2 1 _ rfl).1
  have k2 := (X1.2 2 _ rfl).1
  have C3' := dH (dU C3 w1 B1)
  clear X1 C3 C1
  have C2' := dH fun W (hb : Below w.heap.size w W) => dU C2 W hb (dU HS)
  clear C2
  by_cases hc : crashP s 1048575
  ·have eC := dU CY (dU HS) hc
   rw [eC] at C3'
   dsimp only at C3'
   by_cases hin : 0 ≤ upto ∧ upto ≤ 30
   ·have eM := dU PY (dU HS) ((dU PD).2 ⟨hc, hin⟩)
    have CI := dH fun W => l1In_yes upto 0 30 hin.1 hin.2 W
    have CM := dH fun W => l1Max_s s.lock upto W
    have hKn : Hid (∀ W base kv lv, ApE W base kv (crashK s 1048575) → ApE W base lv [] → (touch kv = none ∨ touch kv ≠ touch lv) → OwS W base (.agg #[kv, lv, .int .i64 (max s.lock upto)]) ⟨crashK s 1048575, [], max s.lock upto⟩) := fun W base kv lv h1 h2 h3 => ⟨kv, lv, rfl, h1, h2, h3⟩
    clear PN PY PD CY CN hc hin eC C2'
    generalize max s.lock upto = mx at *
    generalize crashK s 1048575 = CK at *
    go_wp2_with fail
    refine (dU C3').mono ?_
    rintro r w2 ⟨⟨u2, rfl, O2⟩, b2⟩
    obtain ⟨a1, c1, a2, c2, rfl⟩ := O2.shape
    (try dsimp only at O2)
    have b23 := ba w2 (.cells #[.slice a1 CK.length c1, .slice a2 0 c2, .int .i64 s.lock] 174)
    have ob := BxZ.new (B := w2.heap.size) w2 [.slice a1 CK.length c1, .slice a2 0 c2, .int .i64 s.lock] 174 (Nat.le_refl _)
    have b04 := bT (bT b1 b2) b23
    obtain ⟨X4, -, B4⟩ := dU K _ b04
    have j0 := (X4.2 0 _ rfl).1
    have j1 := (X4.2 1 _ rfl).1
    have j2 := (X4.2 2 _ rfl).1
    clear X4 k0 k1 k2 C3'
    obtain ⟨kv, lv, e2, h2, h3, h4⟩ := O2
    cases e2
    have T2 : touch (.slice a1 CK.length c1) ≠ some w2.heap.size := fun e => by have := (h2.touched elemE e).2; omega
    have T3 : touch (.slice a2 0 c2) ≠ some w2.heap.size := fun e => by have := (h3.touched elemE e).2; omega
    have hbs := b2.size
    have hb1s := b1.size
    have o2 := (ob.2 2 _ rfl).1
    have P2 := h2.below b23
    have P3 := h3.below b23
    clear h2 h3
    go_wp2_with fail
    generalize hbo : w2.heap.size = bo at *
    generalize w2.alloc (.cells #[.slice a1 CK.length c1, .slice a2 0 c2, .int .i64 s.lock] 174) = w4 at *
    refine (dU CI _).mono ?_
    rintro r w5 ⟨rfl, rfl⟩
    clear CI
    obtain ⟨p0, g0⟩ := ob.2 0 _ rfl
    obtain ⟨p1, g1⟩ := ob.2 1 _ rfl
    obtain ⟨p2, g2⟩ := ob.2 2 _ rfl
    go_wp2_with fail
    refine (dU CM _).mono ?_
    rintro r w6 ⟨rfl, rfl⟩
    clear CM
    obtain ⟨-, Z6, B6⟩ := dU K w6 b04
    obtain ⟨z0, f0⟩ := Z6.2 0 _ rfl
    obtain ⟨z1, f1⟩ := Z6.2 1 _ rfl
    obtain ⟨z2, f2⟩ := Z6.2 2 _ rfl
    have hrb : w.heap.size + 1 < w1.heap.size := by omega
    have hrb2 : w.heap.size + 1 < bo := by omega
    have HX := dH ((((Z6.far (b' := bo) (o := 2) (by omega) (.int .i64 mx)).put 0 (.slice a1 CK.length c1)).put 1 (.slice a2 0 c2)).put 2 (.int .i64 mx)).bx
    have Q2 := ApR.far elemE (ApR.far elemE (ApR.far elemE (ApR.put elemE P2 T2 (o' := 2) (.int .i64 mx)) (b := w.heap.size + 1) (o' := 0) hrb (.slice a1 CK.length c1)) (b := w.heap.size + 1) (o' := 1) hrb (.slice a2 0 c2)) (b := w.heap.size + 1) (o' := 2) hrb (.int .i64 mx)
    have Q3 := ApR.far elemE (ApR.far elemE (ApR.far elemE (ApR.put elemE P3 T3 (o' := 2) (.int .i64 mx)) (b := w.heap.size + 1) (o' := 0) hrb (.slice a1 CK.length c1)) (b := w.heap.size + 1) (o' := 1) hrb (.slice a2 0 c2)) (b := w.heap.size + 1) (o' := 2) hrb (.int .i64 mx)
    have HO := dH (dU hKn _ _ _ _ (Q2.mono (base' := w.heap.size) (by omega)) (Q3.mono (base' := w.heap.size) (by omega)) h4)
    have BB := dH (below_three (B6.setCell (p := ⟨bo, 2, none⟩) (by simp only; omega) (.int .i64 mx)) (Nat.le_succ w.heap.size) (.slice a1 CK.length c1) (.slice a2 0 c2) (.int .i64 mx))
    clear Q2 Q3 P2 P3 hKn h4 Z6 B6 T2 T3 K b04 ob j0 j1 j2 o2
    go_wp2
    generalize (((w6.setCell ⟨bo, 2, none⟩ (.int .i64 mx)).setCell ⟨w.heap.size + 1, 0, none⟩ (.slice a1 CK.length c1)).setCell ⟨w.heap.size + 1, 1, none⟩ (.slice a2 0 c2)).setCell ⟨w.heap.size + 1, 2, none⟩ (.int .i64 mx) = V at *
    have q0 := dU HX 0 _ rfl
    have q1 := dU HX 1 _ rfl
    have q2 := dU HX 2 _ rfl
    clear z0 z1 z2 f0 f1 f2 p0 p1 p2 g0 g1 g2
    subst eM
    refine bodyPost_ret (v := .tuple #[.agg #[.slice a1 CK.length c1, .slice a2 0 c2, .int .i64 mx], .bool true]) (by simp [results, Tryz.results165, go_sem, q0, q1, q2]) rfl ⟨⟨_, rfl, dU HO⟩, dU BB⟩
   ·have eM := dU PN (dU HS) fun h => hin ((dU PD).1 h).2
    have CI := dH fun W => l1In_no upto 0 30 (by omega) W
    clear PN PY PD CY CN hc hin eC
    generalize crashK s 1048575 = CK at *
    go_wp2_with fail
    refine (dU C3').mono ?_
    rintro r w2 ⟨⟨u2, rfl, O2⟩, b2⟩
    obtain ⟨a1, c1, a2, c2, rfl⟩ := O2.shape
    (try dsimp only at O2)
    have b23 := ba w2 (.cells #[.slice a1 CK.length c1, .slice a2 0 c2, .int .i64 s.lock] 174)
    have ob := BxZ.new (B := w2.heap.size) w2 [.slice a1 CK.length c1, .slice a2 0 c2, .int .i64 s.lock] 174 (Nat.le_refl _)
    have b04 := bT (bT b1 b2) b23
    obtain ⟨X4, -, B4⟩ := dU K _ b04
    have j0 := (X4.2 0 _ rfl).1
    have j1 := (X4.2 1 _ rfl).1
    have j2 := (X4.2 2 _ rfl).1
    clear X4 k0 k1 k2 C3'
    clear O2 ob b23 b2
    go_wp2_with fail
    generalize w2.alloc (.cells #[.slice a1 CK.length c1, .slice a2 0 c2, .int .i64 s.lock] 174) = w4 at *
    refine (dU CI _).mono ?_
    rintro r w6 ⟨rfl, rfl⟩
    clear CI
    go_wp2_with fail
    refine (dU C2' _ (by assumption)).mono ?_
    rintro r w5 ⟨⟨u5, rfl, O5⟩, b5⟩
    obtain ⟨ka5, kc5, la5, lc5, rfl⟩ := O5.shape
    have b05 := bT b04 b5
    obtain ⟨-, Z5, B5⟩ := dU K w5 b05
    obtain ⟨z0, f0⟩ := Z5.2 0 _ rfl
    obtain ⟨z1, f1⟩ := Z5.2 1 _ rfl
    obtain ⟨z2, f2⟩ := Z5.2 2 _ rfl
    obtain ⟨hx, hO⟩ := OwS.into O5 (rb := w.heap.size + 1) (by have := b04.size; omega) Z5
    have BB := dH (below_three B5 (Nat.le_succ w.heap.size) (.slice ka5 s.kept.length kc5) (.slice la5 s.late.length lc5) (.int .i64 s.lock))
    have HX := dH hx
    have HO := dH (hO.mono (base' := w.heap.size) (by have := b04.size; omega))
    clear O5 b5 Z5 hx hO C2' K b04 b05 B5 j0 j1 j2
    go_wp2
    generalize ((w5.setCell ⟨w.heap.size + 1, 0, none⟩ (.slice ka5 s.kept.length kc5)).setCell ⟨w.heap.size + 1, 1, none⟩ (.slice la5 s.late.length lc5)).setCell ⟨w.heap.size + 1, 2, none⟩ (.int .i64 s.lock) = V at *
    have q0 := dU HX 0 _ rfl
    have q1 := dU HX 1 _ rfl
    have q2 := dU HX 2 _ rfl
    clear z0 z1 z2 f0 f1 f2
    subst eM
    refine bodyPost_ret (v := .tuple #[.agg #[.slice ka5 s.kept.length kc5, .slice la5 s.late.length lc5, .int .i64 s.lock], .bool false]) (by simp [results, Tryz.results165, go_sem, q0, q1, q2]) rfl ⟨⟨_, rfl, dU HO⟩, dU BB⟩
  ·have eC := dU CN (dU HS) hc
   have eM := dU PN (dU HS) fun h => hc ((dU PD).1 h).1
   rw [eC] at C3'
   (try dsimp only at C3')
   clear PN PY PD CY CN hc eC
   go_wp2_with fail
   refine (dU C3').mono ?_
   rintro r w2 ⟨⟨u2, rfl, O2⟩, b2⟩
   obtain ⟨a1, c1, a2, c2, rfl⟩ := O2.shape
   (try dsimp only at O2)
   have b23 := ba w2 (.cells #[.slice a1 s.kept.length c1, .slice a2 s.late.length c2, .int .i64 s.lock] 174)
   have ob := BxZ.new (B := w2.heap.size) w2 [.slice a1 s.kept.length c1, .slice a2 s.late.length c2, .int .i64 s.lock] 174 (Nat.le_refl _)
   have b04 := bT (bT b1 b2) b23
   obtain ⟨X4, -, B4⟩ := dU K _ b04
   have j0 := (X4.2 0 _ rfl).1
   have j1 := (X4.2 1 _ rfl).1
   have j2 := (X4.2 2 _ rfl).1
   clear X4 k0 k1 k2 C3'
   clear O2 ob b23 b2
   go_wp2_with fail
   generalize w2.alloc (.cells #[.slice a1 s.kept.length c1, .slice a2 s.late.length c2, .int .i64 s.lock] 174) = w4 at *
   go_wp2_with fail
   refine (dU C2' _ (by assumption)).mono ?_
   rintro r w5 ⟨⟨u5, rfl, O5⟩, b5⟩
   obtain ⟨ka5, kc5, la5, lc5, rfl⟩ := O5.shape
   have b05 := bT b04 b5
   obtain ⟨-, Z5, B5⟩ := dU K w5 b05
   obtain ⟨z0, f0⟩ := Z5.2 0 _ rfl
   obtain ⟨z1, f1⟩ := Z5.2 1 _ rfl
   obtain ⟨z2, f2⟩ := Z5.2 2 _ rfl
   obtain ⟨hx, hO⟩ := OwS.into O5 (rb := w.heap.size + 1) (by have := b04.size; omega) Z5
   have BB := dH (below_three B5 (Nat.le_succ w.heap.size) (.slice ka5 s.kept.length kc5) (.slice la5 s.late.length lc5) (.int .i64 s.lock))
   have HX := dH hx
   have HO := dH (hO.mono (base' := w.heap.size) (by have := b04.size; omega))
   clear O5 b5 Z5 hx hO C2' K b04 b05 B5 j0 j1 j2
   go_wp2
   generalize ((w5.setCell ⟨w.heap.size + 1, 0, none⟩ (.slice ka5 s.kept.length kc5)).setCell ⟨w.heap.size + 1, 1, none⟩ (.slice la5 s.late.length lc5)).setCell ⟨w.heap.size + 1, 2, none⟩ (.int .i64 s.lock) = V at *
   have q0 := dU HX 0 _ rfl
   have q1 := dU HX 1 _ rfl
   have q2 := dU HX 2 _ rfl
   clear z0 z1 z2 f0 f1 f2
   subst eM
   refine bodyPost_ret (v := .tuple #[.agg #[.slice ka5 s.kept.length kc5, .slice la5 s.late.length lc5, .int .i64 s.lock], .bool false]) (by simp [results, Tryz.results165, go_sem, q0, q1, q2]) rfl ⟨⟨_, rfl, dU HO⟩, dU BB⟩
 ·obtain rfl := hr1.of_no hs
  have eM := dU PB hs
  obtain ⟨X1, Z1, B1⟩ := dU K w1 b1
  obtain ⟨z0, f0⟩ := Z1.2 0 _ rfl
  obtain ⟨z1, f1⟩ := Z1.2 1 _ rfl
  obtain ⟨z2, f2⟩ := Z1.2 2 _ rfl
  have ZZ := ((Z1.put 0 (.slice none 0 0)).put 1 (.slice none 0 0)).put 2 (.int .i64 0)
  have BB := below_three B1 (Nat.le_succ w.heap.size) (.slice none 0 0) (.slice none 0 0) (.int .i64 0)
  clear hr1 hs PB PN PY X1 Z1 K C2 b1 C1 C3
  go_wp2
  have q0 := (ZZ.2 0 _ rfl).1
  have q1 := (ZZ.2 1 _ rfl).1
  have q2 := (ZZ.2 2 _ rfl).1
  clear ZZ z0 z1 z2 f0 f1 f2
  generalize ((w1.setCell ⟨w.heap.size + 1, 0, none⟩ (.slice none 0 0)).setCell ⟨w.heap.size + 1, 1, none⟩ (.slice none 0 0)).setCell ⟨w.heap.size + 1, 2, none⟩ (.int .i64 0) = V at *
  subst eM
  refine bodyPost_ret (v := .tuple #[.agg #[.slice none 0 0, .slice none 0 0, .int .i64 0], .bool false]) (by simp [results, Tryz.results165, go_sem, q0, q1, q2]) rfl ⟨⟨_, rfl, OwS.zero _ _⟩, BB⟩
open Classical in
noncomputable def eraM (s : St) (x : Int) : List Ent := if stP s then eraL s.kept x else []
theorem eraL_snoc (es : List Ent) (e : Ent) (x : Int) : eraL (es ++ [e]) x = if e.pl / 4294967296 = x then eraL es x ++ [e] else eraL es x := by
 unfold eraL
 rw [List.filter_append]
 by_cases h : e.pl / 4294967296 = x <;> simp [h]
theorem eraL_len (es : List Ent) (x : Int) : (eraL es x).length ≤ es.length := List.length_filter_le _ _
set_option maxHeartbeats 4000000 in
theorem specEra_any (v : Value) (s : St) (x : Int) (w : World) (hv : Rs w v s) (hf : fitS s) :
  Calls Tryz.prog 141 #[v, .int .i64 x] w fun r w' => (∃ u, r = .returned u ∧ ApE w' w.heap.size u (eraM s x)) ∧ Below w.heap.size w w' := by
 have ba : ∀ (w : World) o, Below w.heap.size w (w.alloc o) := fun w o => (Below.refl _ _).alloc (Nat.le_refl _) o
 have C1 := dH fun W (hb : Below w.heap.size w W) => specStoreOk_any v s W (hv.below hb) hf
 obtain ⟨kv, lv, rfl, rk, rl⟩ := hv
 have HK := dH fun W (hb : Below w.heap.size w W) => rk.below hb
 have hk9 := rk.1
 obtain ⟨-, ka, kc, rfl, -, -⟩ := rk
 obtain ⟨-, la, lc, rfl, -, -⟩ := rl
 have PB : Hid (¬ stP s → eraM s x = []) := fun h => if_neg h
 have PY : Hid (stP s → eraM s x = eraL s.kept x) := fun h => if_pos h
 generalize eraM s x = M at *
 clear hf
 have X0 := (BxZ.new w [.slice ka s.kept.length kc, .slice la s.late.length lc, .int .i64 s.lock] 174 (Nat.le_refl _)).bx.below (ba _ (.cells #[] 36))
 have B0 := bT (ba w (.cells #[.slice ka s.kept.length kc, .slice la s.late.length lc, .int .i64 s.lock] 174)) (ba _ (.cells #[] 36))
 have hs0 : Hid (w.heap.size + 1 ≤ ((w.alloc (.cells #[.slice ka s.kept.length kc, .slice la s.late.length lc, .int .i64 s.lock] 174)).alloc (.cells #[] 36)).heap.size) := by simp [Hid]
 by_cases hs : stP s
 ·have HS := dH hs
  have hkl : s.kept.length ≤ 200 := hs.1.1
  have eP := dU PY hs
  subst eP
  clear PB PY hs
  go_enter Tryz.func141, Tryz.ntmps141
  go_wp2
  generalize (w.alloc (.cells #[.slice ka s.kept.length kc, .slice la s.late.length lc, .int .i64 s.lock] 174)).alloc (.cells #[] 36) = w0 at *
  go_loopw [5, 6] (fun o i wr => ∃ (k : Nat), i = .int .i64 (k : Int) ∧ k ≤ s.kept.length ∧ ApE wr (w.heap.size + 1) o (eraL (s.kept.take k) x) ∧ Bx wr w.heap.size [.slice ka s.kept.length kc, .slice la s.late.length lc, .int .i64 s.lock] ∧ Below w.heap.size w wr ∧ w.heap.size + 1 ≤ wr.heap.size) (fun _ i _ => s.kept.length - (intOf i).toNat)
  case atStart => exact ⟨0, rfl, Nat.zero_le _, .inl ⟨rfl, _, rfl⟩, X0, B0, dU hs0⟩
  case round =>
   obtain ⟨k, rfl, hk, hap, hx, hb, hsz⟩ := hrel
   clear X0 B0 hs0
   have k0 := hx 0 _ rfl
   have k1 := hx 1 _ rfl
   have k2 := hx 2 _ rfl
   by_cases hlt : (k : Int) < (s.kept.length : Int)
   ·have hkl' : k < s.kept.length := by omega
    have HT := dH (List.take_succ_eq_append_getElem hkl')
    have hS : Hid (eraL (s.kept.take (k + 1)) x = if s.kept[k].pl / 4294967296 = x then eraL (s.kept.take k) x ++ [s.kept[k]] else eraL (s.kept.take k) x) := by rw [Hid, dU HT, eraL_snoc]
    have hzl : (eraL (s.kept.take k) x).length ≤ 200 := by
     have := eraL_len (s.kept.take k) x
     rw [List.length_take] at this
     omega
    have hpl : isPl s.kept[k].pl := ((dU HS).1.2 _ (List.getElem_mem hkl')).1
    have HC := dH fun W (hB : Below w.heap.size w W) => (dU HK W hB).ent hkl'
    have RE : Hid (∀ (w : World) T, Rw 4 Ent.cl (w.alloc (.cells #[.int .i64 s.kept[k].pl, .int .i64 s.kept[k].wave, .bool s.kept[k].hole, .string s.kept[k].data] T)) (.slice (some ⟨w.heap.size, 0, none⟩) 1 1) [s.kept[k]]) := fun w T => rw_one w s.kept[k] T 1 (by omega)
    have HC' : Hid (∃ b off, ka = some ⟨b, off, none⟩ ∧ ∀ W, Below w.heap.size w W → EntAt W b (off + k * 4) s.kept[k]) := by
     obtain ⟨b, off, e, -⟩ := dU HC wr hb
     refine ⟨b, off, e, fun W hB => ?_⟩
     obtain ⟨b', off', e', hc'⟩ := dU HC W hB
     rw [e] at e'
     cases e'
     exact hc' k hkl'
    obtain ⟨b, off, rfl, hc⟩ := dU HC'
    have HCC := dH hc
    generalize eraL (s.kept.take k) x = zs at *
    generalize s.kept[k] = y at *
    obtain ⟨yx, yw, yh, yd⟩ := y
    simp only at *
    obtain ⟨oa, oc, rfl⟩ := ApR.slice elemE hap
    clear hc HC HC' HT
    go_wp2_with fail
    refine (dU C1 _ hb).mono ?_
    rintro r w1 ⟨hr1, b1⟩
    obtain rfl := hr1.of_yes (dU HS)
    have hap1 := hap.below b1
    have hx1 := hx.below b1
    have hb1 := bT hb b1
    have hsz1 : w.heap.size + 1 ≤ w1.heap.size := by have := b1.size; omega
    obtain ⟨c0, c1, c2, c3⟩ := dU HCC w1 hb1
    clear k0 k1 k2 hr1 b1 hap hx hb hsz
    have k0 := hx1 0 _ rfl
    have CE := dH (flip (specEpoch_yes yx hpl w1))
    clear C1 HCC
    go_wp2_with fail
    refine (dU CE).mono ?_
    rintro r w2 ⟨rfl, rfl⟩
    clear CE
    by_cases hxe : yx / 4294967296 = x
    ·have eS := dH ((dU hS).trans (if_pos hxe))
     have d1 : (yx / 4294967296 == x) = true := by simp [hxe]
     clear hS hxe
     go_wp2_with (at_builtin; refine wp_apR elemE rfl _ _ rfl (w.heap.size + 1) (.slice oa zs.length oc) zs rfl (hap1.below (ba _ _)) _ [⟨yx, yw, yh, yd⟩] rfl (dU RE _ _) ?c1 ?c2 ?c3 ?_)
     case c1 => (try simp); omega
     case c2 => (try simp); omega
     case c3 => (try simp); omega
     intro v3 w3 P3 g3 t3
     have hb3 := Below.grown (bT hb1 (ba _ _)) g3 (by simp; omega) (fun k hk => by have := (hap1.touched elemE hk).1; omega)
     have hx3 := Bx.grown (Bx.below hx1 (ba _ _)) g3 (fun e => by have := (hap1.touched elemE e).1; omega)
     have hsz3 : w.heap.size + 1 ≤ w3.heap.size := by have h1 := g3.size; simp at h1; omega
     clear g3 t3 hap1 hx1 hb1 hsz1 c0 c1 c2 c3 k0 RE
     go_wp2
     go_roundw
     case rel => exact ⟨k + 1, by go_num, by omega, by rw [dU eS]; exact P3, hx3, hb3, hsz3⟩
     case measure => simp [intOf]; omega
    ·have eS := dH ((dU hS).trans (if_neg hxe))
     have d1 : (yx / 4294967296 == x) = false := by simp [hxe]
     clear hS hxe RE
     go_wp2
     go_roundw
     case rel => exact ⟨k + 1, by go_num, by omega, by rw [dU eS]; exact hap1, hx1, hb1, hsz1⟩
     case measure => simp [intOf]; omega
   ·have e1 : s.kept.take k = s.kept := List.take_of_length_le (by omega)
    rw [e1] at hap
    have q := dH (hap.mono (base' := w.heap.size) (by omega))
    obtain ⟨oa, oc, rfl⟩ := ApR.slice elemE hap
    clear e1 hap HK C1
    go_wp2
    go_ret
    exact ⟨⟨_, rfl, dU q⟩, hb⟩
 ·have HS := dH hs
  have eP := dU PB hs
  subst eP
  clear PB PY hs HK
  have q : Hid (∀ W a, ApE W w.heap.size (.slice a 0 0) []) := fun W a => .inl ⟨rfl, a, rfl⟩
  have k0 := X0 0 _ rfl
  have k1 := X0 1 _ rfl
  have k2 := X0 2 _ rfl
  have C1' := dH (dU C1 _ B0)
  clear X0
  by_cases h0 : (0 : Int) < (s.kept.length : Int)
  ·go_enter Tryz.func141, Tryz.ntmps141
   go_wp2
   refine wp_loop_rounds 1 ?_
   rw [rounds_succ]
   go_wp2_with fail
   refine (dU C1').mono ?_
   rintro r w1 ⟨hr1, b1⟩
   obtain rfl := hr1.of_no (dU HS)
   have hb1 := bT B0 b1
   clear hr1 b1 C1 C1' k0 k1 k2
   go_wp2
   go_ret
   exact ⟨⟨_, rfl, dU q _ _⟩, hb1⟩
  ·go_enter Tryz.func141, Tryz.ntmps141
   go_wp2
   refine wp_loop_rounds 1 ?_
   rw [rounds_succ]
   go_wp2
   go_ret
   exact ⟨⟨_, rfl, dU q _ _⟩, B0⟩
end Go.Proofs.YtjkjmapibcfcdaaGreat
