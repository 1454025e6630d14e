/- impl's StorePut. -/
import Derived.Test.YtejmfohkobhidaaImFk
namespace Go.Proofs.Ytejmfohkobhidaa
open Go.ChangeShapes Go.WideShapes Go.ChangeAt Go.RowKit
set_option linter.unusedVariables false
set_option linter.unusedSimpArgs false
set_option maxRecDepth 100000

set_option maxHeartbeats 8000000 in
theorem implPut_any (v : Value) (s : St) (e : Ent) (w : World) (hv : Rs w v s) (hf : fitS s) (he : e.fits) :
    Calls Try.prog 8 #[v, e.val] w fun r w' => (∃ u, r = .returned (.tuple #[u, .bool (putM s e).2]) ∧ OwS w' w.heap.size u (putM s e).1) ∧ Below w.heap.size w w' := by
  have ba : ∀ (w : World) o, Below w.heap.size w (w.alloc o) := fun w o => (Below.refl _ _).alloc (Nat.le_refl _) o
  have C1 := dHide fun W (hb : Below w.heap.size w W) => implStoreOk_any v s W (hv.below hb) hf
  have C2 := dHide fun W (hb : Below w.heap.size w W) (h : stP s) => copied_any v s W (hv.below hb) (by have := h.1.1; omega) (by have := h.2.1.1; omega)
  have C3 := dHide fun W (hb : Below w.heap.size w W) m hy hn => unchanged_any v s W (hv.below hb) hf m hy hn
  have C4 := dHide fun W => implEntOk_any e he W
  have C5 := dHide fun W (hb : Below w.heap.size w W) (h : entP e) => refuses_any v s e W (hv.below hb) h
  have LF : Hid (¬ (stP s ∧ putP s e) → Left s (putM s e)) := left_put
  have PD : Hid (putP s e ↔ entP e ∧ takesP s e ∧ s.late.length ≠ 20) := Iff.rfl
  have PY : Hid (stP s → putP s e → putM s e = (⟨s.kept, s.late ++ [e], s.lock⟩, true)) := putM_yes
  have RO : Hid (∀ (w : World) T, Rw 4 Ent.cl (w.alloc (.cells #[.int .i64 e.pl, .int .i64 e.wave, .bool e.hole, .string e.data] T)) (.slice (some ⟨w.heap.size, 0, none⟩) 1 1) [e]) := fun w T => rw_one w e T 1 (by omega)
  obtain ⟨kv, lv, rfl, ⟨-, ka, kc, rfl, -, -⟩, ⟨-, la, lc, rfl, -, -⟩⟩ := hv
  clear hf he
  generalize putM s e = M at *
  obtain ⟨yx, yw, yh, yd⟩ := e
  unfold Ent.val at *
  simp only at *
  have X0 := ((BxZ.new (B := w.heap.size) w [.slice ka s.kept.length kc, .slice la s.late.length lc, .int .i64 s.lock] 26 (Nat.le_refl _)).below (ba _ (.cells #[.int .i64 yx, .int .i64 yw, .bool yh, .string yd] 28))).below (ba _ (.cells #[.slice none 0 0, .slice none 0 0, .int .i64 0] 26))
  have Y0 := (Bx.new (w.alloc (.cells #[.slice ka s.kept.length kc, .slice la s.late.length lc, .int .i64 s.lock] 26)) [.int .i64 yx, .int .i64 yw, .bool yh, .string yd] 28).below (ba _ (.cells #[.slice none 0 0, .slice none 0 0, .int .i64 0] 26))
  have Z0 := BxZ.new (B := w.heap.size) ((w.alloc (.cells #[.slice ka s.kept.length kc, .slice la s.late.length lc, .int .i64 s.lock] 26)).alloc (.cells #[.int .i64 yx, .int .i64 yw, .bool yh, .string yd] 28)) [.slice none 0 0, .slice none 0 0, .int .i64 0] 26 (by simp; omega)
  have B0 := belowThen (belowThen (ba w (.cells #[.slice ka s.kept.length kc, .slice la s.late.length lc, .int .i64 s.lock] 26)) (ba _ (.cells #[.int .i64 yx, .int .i64 yw, .bool yh, .string yd] 28))) (ba _ (.cells #[.slice none 0 0, .slice none 0 0, .int .i64 0] 26))
  have e1 : (w.alloc (.cells #[.slice ka s.kept.length kc, .slice la s.late.length lc, .int .i64 s.lock] 26)).heap.size = w.heap.size + 1 := by simp
  have e2 : ((w.alloc (.cells #[.slice ka s.kept.length kc, .slice la s.late.length lc, .int .i64 s.lock] 26)).alloc (.cells #[.int .i64 yx, .int .i64 yw, .bool yh, .string yd] 28)).heap.size = w.heap.size + 1 + 1 := by simp
  rw [e1] at Y0
  rw [e2] at Z0
  clear e1 e2
  go_enter Try.func8, Try.ntmps8
  go_wp2_with fail
  generalize ((w.alloc (.cells #[.slice ka s.kept.length kc, .slice la s.late.length lc, .int .i64 s.lock] 26)).alloc (.cells #[.int .i64 yx, .int .i64 yw, .bool yh, .string yd] 28)).alloc (.cells #[.slice none 0 0, .slice none 0 0, .int .i64 0] 26) = w0 at *
  refine (dUnhide C1 _ B0).mono ?_
  rintro r w1 ⟨hr, b1⟩
  have B1 := belowThen B0 b1
  have X1 := X0.below b1
  have Y1 := Y0.below b1
  have Z1 := Z0.below b1
  clear B0 b1 X0 Z0 C1 Y0
  have p0 := (X1.2 0 _ rfl).1
  have p1 := (X1.2 1 _ rfl).1
  have p2 := (X1.2 2 _ rfl).1
  have e0 := Y1 0 _ rfl
  have e1 := Y1 1 _ rfl
  have e2 := Y1 2 _ rfl
  have e3 := Y1 3 _ rfl
  have hsz := B1.size
  by_cases hs : stP s
  · obtain rfl := hr.of_yes hs
    have hl0 : s.late.length ≤ 20 := hs.2.1.1
    have C2 := dHide fun W hb => dUnhide C2 W hb hs
    have LF := dHide fun (h : ¬ putP s ⟨yx, yw, yh, yd⟩) => dUnhide LF (fun h2 => h h2.2)
    have PY := dHide (dUnhide PY hs)
    clear hs
    go_wp2_with fail
    refine (dUnhide C4 _).mono ?_
    rintro r w2 ⟨⟨b2, rfl, k2⟩, bl2⟩
    have B2 := belowThen B1 bl2
    have X2 := X1.below bl2
    have Y2 := Y1.below bl2
    have Z2 := Z1.below bl2
    clear B1 X1 Y1 Z1 bl2 p0 p1 p2 e0 e1 e2 e3
    have p0 := (X2.2 0 _ rfl).1
    have p1 := (X2.2 1 _ rfl).1
    have p2 := (X2.2 2 _ rfl).1
    have e0 := Y2 0 _ rfl
    have e1 := Y2 1 _ rfl
    have e2 := Y2 2 _ rfl
    have e3 := Y2 3 _ rfl
    have hsz2 := B2.size
    cases b2
    · obtain ⟨m, rfl, hy, hn⟩ := dUnhide LF fun h => by have := k2.2 ((dUnhide PD).1 h).1; cases this
      have C3 := dHide fun W hb => dUnhide C3 W hb m hy hn
      clear hy hn LF C2 PY C5 k2
      go_wp2_with fail
      refine (dUnhide C3 _ B2).mono ?_
      rintro r w4 ⟨⟨u, rfl, O4⟩, b4⟩
      obtain ⟨ka4, kc4, la4, lc4, rfl⟩ := O4.shape
      have Z4 := Z2.below b4
      obtain ⟨z0, f0⟩ := Z4.2 0 _ rfl
      obtain ⟨z1, f1⟩ := Z4.2 1 _ rfl
      obtain ⟨z2, f2⟩ := Z4.2 2 _ rfl
      obtain ⟨hx, hO⟩ := OwS.into O4 Z2.lt Z4
      have BB := dHide (below_three (rb := w.heap.size + 1 + 1) (belowThen B2 b4) (by omega) (.slice ka4 m.kept.length kc4) (.slice la4 m.late.length lc4) (.int .i64 m.lock))
      have HX := dHide hx
      have HO := dHide (hO.mono (base' := w.heap.size) B2.size)
      clear O4 Z4 hx hO b4 Z2 X2 Y2 p0 p1 p2 e0 e1 e2 e3
      go_wp2
      generalize ((w4.setCell ⟨w.heap.size + 1 + 1, 0, none⟩ (.slice ka4 m.kept.length kc4)).setCell ⟨w.heap.size + 1 + 1, 1, none⟩ (.slice la4 m.late.length lc4)).setCell ⟨w.heap.size + 1 + 1, 2, none⟩ (.int .i64 m.lock) = V at *
      have q0 := dUnhide HX 0 _ rfl
      have q1 := dUnhide HX 1 _ rfl
      have q2 := dUnhide HX 2 _ rfl
      clear z0 z1 z2 f0 f1 f2
      refine bodyPost_ret (v := .tuple #[.agg #[.slice ka4 m.kept.length kc4, .slice la4 m.late.length lc4, .int .i64 m.lock], .bool false]) (by simp [results, Try.results8, go_sem, q0, q1, q2]) rfl ⟨⟨_, rfl, dUnhide HO⟩, dUnhide BB⟩
    have HE := dHide (k2.1 rfl)
    clear k2
    go_wp2_with fail
    refine (dUnhide C5 _ B2 (dUnhide HE)).mono ?_
    rintro r w3 ⟨⟨b3, rfl, k3⟩, bl3⟩
    have B3 := belowThen B2 bl3
    have X3 := X2.below bl3
    have Y3 := Y2.below bl3
    have Z3 := Z2.below bl3
    clear B2 X2 Y2 Z2 bl3 p0 p1 p2 e0 e1 e2 e3 C5
    have p0 := (X3.2 0 _ rfl).1
    have p1 := (X3.2 1 _ rfl).1
    have p2 := (X3.2 2 _ rfl).1
    have e0 := Y3 0 _ rfl
    have e1 := Y3 1 _ rfl
    have e2 := Y3 2 _ rfl
    have e3 := Y3 3 _ rfl
    have hsz3 := B3.size
    cases b3
    · have HT : Hid (takesP s ⟨yx, yw, yh, yd⟩) := Classical.byContradiction fun h => by have := k3.2 h; cases this
      clear k3
      by_cases hn : s.late.length = 20
      · obtain ⟨m, rfl, hy, hn2⟩ := dUnhide LF fun h => ((dUnhide PD).1 h).2.2 hn
        have C3 := dHide fun W hb => dUnhide C3 W hb m hy hn2
        have hd : ((s.late.length : Int) == 20) = true := by simp; omega
        clear hy hn2 LF C2 PY hn
        go_wp2_with fail
        refine (dUnhide C3 _ B3).mono ?_
        rintro r w4 ⟨⟨u, rfl, O4⟩, b4⟩
        obtain ⟨ka4, kc4, la4, lc4, rfl⟩ := O4.shape
        have Z4 := Z3.below b4
        obtain ⟨z0, f0⟩ := Z4.2 0 _ rfl
        obtain ⟨z1, f1⟩ := Z4.2 1 _ rfl
        obtain ⟨z2, f2⟩ := Z4.2 2 _ rfl
        obtain ⟨hx, hO⟩ := OwS.into O4 Z3.lt Z4
        have BB := dHide (below_three (rb := w.heap.size + 1 + 1) (belowThen B3 b4) (by omega) (.slice ka4 m.kept.length kc4) (.slice la4 m.late.length lc4) (.int .i64 m.lock))
        have HX := dHide hx
        have HO := dHide (hO.mono (base' := w.heap.size) B3.size)
        clear O4 Z4 hx hO b4 Z3 X3 Y3 p0 p1 p2 e0 e1 e2 e3
        go_wp2
        generalize ((w4.setCell ⟨w.heap.size + 1 + 1, 0, none⟩ (.slice ka4 m.kept.length kc4)).setCell ⟨w.heap.size + 1 + 1, 1, none⟩ (.slice la4 m.late.length lc4)).setCell ⟨w.heap.size + 1 + 1, 2, none⟩ (.int .i64 m.lock) = V at *
        have q0 := dUnhide HX 0 _ rfl
        have q1 := dUnhide HX 1 _ rfl
        have q2 := dUnhide HX 2 _ rfl
        clear z0 z1 z2 f0 f1 f2
        refine bodyPost_ret (v := .tuple #[.agg #[.slice ka4 m.kept.length kc4, .slice la4 m.late.length lc4, .int .i64 m.lock], .bool false]) (by simp [results, Try.results8, go_sem, q0, q1, q2]) rfl ⟨⟨_, rfl, dUnhide HO⟩, dUnhide BB⟩
      · have eM := dUnhide PY ((dUnhide PD).2 ⟨dUnhide HE, dUnhide HT, hn⟩)
        have hd : ((s.late.length : Int) == 20) = false := by simp; omega
        clear LF C3 PY
        go_wp2_with fail
        refine (dUnhide C2 _ B3).mono ?_
        rintro r w4 ⟨⟨u, rfl, O4⟩, b4⟩
        obtain ⟨kv1, lv1, rfl, P1, P2, SEP⟩ := O4
        obtain ⟨a1, c1, rfl⟩ := ApR.slice elemE P1
        obtain ⟨a2, c2, rfl⟩ := ApR.slice elemE P2
        have bN := ba w4 (.cells #[.slice a1 s.kept.length c1, .slice a2 s.late.length c2, .int .i64 s.lock] 26)
        have bE := ba (w4.alloc (.cells #[.slice a1 s.kept.length c1, .slice a2 s.late.length c2, .int .i64 s.lock] 26)) (.cells #[.int .i64 yx, .int .i64 yw, .bool yh, .string yd] 28)
        have N4 := BxZ.new (B := w.heap.size) w4 [.slice a1 s.kept.length c1, .slice a2 s.late.length c2, .int .i64 s.lock] 26 (belowThen B3 b4).size
        have Y4 := (Y3.below b4).below bN
        have hs4 := b4.size
        have hlt := Z3.lt
        have RO1 := dUnhide RO (w4.alloc (.cells #[.slice a1 s.kept.length c1, .slice a2 s.late.length c2, .int .i64 s.lock] 26)) 28
        have eS : (w4.alloc (.cells #[.slice a1 s.kept.length c1, .slice a2 s.late.length c2, .int .i64 s.lock] 26)).heap.size = w4.heap.size + 1 := by simp
        rw [eS] at RO1
        have HRO := dHide RO1
        have HQ2 := dHide ((P2.below bN).below bE)
        have hln : (s.late ++ [(⟨yx, yw, yh, yd⟩ : Ent)]).length = s.late.length + 1 := by simp
        have FIN : Hid (∀ w5 a5 c5 ln, ln = (s.late ++ [(⟨yx, yw, yh, yd⟩ : Ent)]).length → ApE w5 w3.heap.size (.slice a5 ln c5) (s.late ++ [⟨yx, yw, yh, yd⟩]) → ((w4.alloc (.cells #[.slice a1 s.kept.length c1, .slice a2 s.late.length c2, .int .i64 s.lock] 26)).alloc (.cells #[.int .i64 yx, .int .i64 yw, .bool yh, .string yd] 28)).grownBy w5 (touch (.slice a2 s.late.length c2)) → (touch (.slice a5 ln c5) = touch (.slice a2 s.late.length c2) ∨ ∀ k, touch (.slice a5 ln c5) = some k → ((w4.alloc (.cells #[.slice a1 s.kept.length c1, .slice a2 s.late.length c2, .int .i64 s.lock] 26)).alloc (.cells #[.int .i64 yx, .int .i64 yw, .bool yh, .string yd] 28)).heap.size ≤ k) →
            BxZ w5 w.heap.size w4.heap.size [.slice a1 s.kept.length c1, .slice a2 s.late.length c2, .int .i64 s.lock] ∧ BxZ w5 w.heap.size (w.heap.size + 1 + 1) [.slice none 0 0, .slice none 0 0, .int .i64 0] ∧ Below w.heap.size w ((((w5.setCell ⟨w4.heap.size, 1, none⟩ (.slice a5 ln c5)).setCell ⟨w.heap.size + 1 + 1, 0, none⟩ (.slice a1 s.kept.length c1)).setCell ⟨w.heap.size + 1 + 1, 1, none⟩ (.slice a5 ln c5)).setCell ⟨w.heap.size + 1 + 1, 2, none⟩ (.int .i64 s.lock)) ∧ Bx ((((w5.setCell ⟨w4.heap.size, 1, none⟩ (.slice a5 ln c5)).setCell ⟨w.heap.size + 1 + 1, 0, none⟩ (.slice a1 s.kept.length c1)).setCell ⟨w.heap.size + 1 + 1, 1, none⟩ (.slice a5 ln c5)).setCell ⟨w.heap.size + 1 + 1, 2, none⟩ (.int .i64 s.lock)) (w.heap.size + 1 + 1) [.slice a1 s.kept.length c1, .slice a5 ln c5, .int .i64 s.lock] ∧ OwS ((((w5.setCell ⟨w4.heap.size, 1, none⟩ (.slice a5 ln c5)).setCell ⟨w.heap.size + 1 + 1, 0, none⟩ (.slice a1 s.kept.length c1)).setCell ⟨w.heap.size + 1 + 1, 1, none⟩ (.slice a5 ln c5)).setCell ⟨w.heap.size + 1 + 1, 2, none⟩ (.int .i64 s.lock)) w.heap.size (.agg #[.slice a1 s.kept.length c1, .slice a5 ln c5, .int .i64 s.lock]) ⟨s.kept, s.late ++ [⟨yx, yw, yh, yd⟩], s.lock⟩) := fun w5 a5 c5 ln hle P5 g5 t5 => by
          have T1 : touch (.slice a1 s.kept.length c1) ≠ some w4.heap.size := fun e => by have := (P1.touched elemE e).2; omega
          have T2 : touch (.slice a2 s.late.length c2) ≠ some w4.heap.size := fun e => by have := (P2.touched elemE e).2; omega
          have N5 := (N4.below bE).grown g5 T2
          have Z5 := (((Z3.below b4).below bN).below bE).grown g5 (touch_base elemE P2 (by omega))
          have PK5 := ApR.kept elemE ((P1.below bN).below bE) g5 (by
            rcases SEP with h | h
            · by_cases h2 : touch (.slice a2 s.late.length c2) = none
              · exact .inl h2
              · exact .inr (by rw [h]; exact fun e => h2 e.symm)
            · exact .inr h)
          have B5 := (belowThen (belowThen (belowThen B3 b4) bN) bE).grown g5 (belowThen (belowThen (belowThen B3 b4) bN) bE).size (fun j hj => by have := (P2.touched elemE hj).1; omega)
          have SP5 := sep_symm (sep_after ((P1.below bN).below bE) (sep_symm SEP) t5)
          have T5 := touch_after (w := ((w4.alloc (.cells #[.slice a1 s.kept.length c1, .slice a2 s.late.length c2, .int .i64 s.lock] 26)).alloc (.cells #[.int .i64 yx, .int .i64 yw, .bool yh, .string yd] 28))) (b := w4.heap.size) (by simp; omega) T2 t5
          have PK6 := ApR.put elemE PK5 (b := w4.heap.size) (o' := 1) T1 (.slice a5 ln c5)
          have PL6 := ApR.put elemE P5 (b := w4.heap.size) (o' := 1) T5 (.slice a5 ln c5)
          have Z6 := Z5.far (b' := w4.heap.size) (o := 1) (by omega) (.slice a5 ln c5)
          have B6 := B5.setCell (p := ⟨w4.heap.size, 1, none⟩) (show w.heap.size ≤ w4.heap.size by omega) (.slice a5 ln c5)
          have O6 : OwS (w5.setCell ⟨w4.heap.size, 1, none⟩ (.slice a5 ln c5)) w3.heap.size (.agg #[.slice a1 s.kept.length c1, .slice a5 ln c5, .int .i64 s.lock]) ⟨s.kept, s.late ++ [⟨yx, yw, yh, yd⟩], s.lock⟩ := ⟨_, _, rfl, PK6, PL6, SP5⟩
          obtain ⟨hx, hO⟩ := OwS.into O6 hlt Z6
          exact ⟨N5, Z5, below_three B6 (by omega) _ _ _, hx, hO.mono (base' := w.heap.size) (by omega)⟩
        have n1 := (N4.2 1 _ rfl).1
        have y0 := Y4 0 _ rfl
        have y1 := Y4 1 _ rfl
        have y2 := Y4 2 _ rfl
        have y3 := Y4 3 _ rfl
        have hne1 : w4.heap.size ≠ w.heap.size + 1 + 1 := by omega
        clear P1 P2 SEP B3 X3 Y3 Z3 b4 bN bE C2 p0 p1 p2 e0 e1 e2 e3 N4 Y4 RO1 eS RO
        subst eM
        go_wp2_with (at_builtin; refine wp_apR elemE rfl _ _ rfl w3.heap.size _ s.late rfl (dUnhide HQ2) _ [⟨yx, yw, yh, yd⟩] rfl (dUnhide HRO) (by simp; omega) (by simp; omega) (by simp; omega) ?_; intro v5 w5 P5 g5 t5; obtain ⟨a5, c5, rfl⟩ := ApR.slice elemE P5; obtain ⟨N5, Z5, B7, X7, O7⟩ := dUnhide FIN w5 a5 c5 _ rfl P5 g5 t5; rw [hln] at B7 X7 O7; rw [hln]; have HB := dHide B7; have HX := dHide X7; have HO := dHide O7; obtain ⟨n0, f0⟩ := N5.2 0 _ rfl; obtain ⟨n1, f1⟩ := N5.2 1 _ rfl; obtain ⟨n2, f2⟩ := N5.2 2 _ rfl; obtain ⟨z0, g0⟩ := Z5.2 0 _ rfl; obtain ⟨z1, g1⟩ := Z5.2 1 _ rfl; obtain ⟨z2, g2⟩ := Z5.2 2 _ rfl; clear N5 Z5 B7 X7 O7 g5 t5 P5 FIN HQ2 HRO)
        generalize (((w5.setCell ⟨w4.heap.size, 1, none⟩ (.slice a5 (s.late.length + 1) c5)).setCell ⟨w.heap.size + 1 + 1, 0, none⟩ (.slice a1 s.kept.length c1)).setCell ⟨w.heap.size + 1 + 1, 1, none⟩ (.slice a5 (s.late.length + 1) c5)).setCell ⟨w.heap.size + 1 + 1, 2, none⟩ (.int .i64 s.lock) = V at *
        have q0 := dUnhide HX 0 _ rfl
        have q1 := dUnhide HX 1 _ rfl
        have q2 := dUnhide HX 2 _ rfl
        clear z0 z1 z2 f0 f1 f2 g0 g1 g2 n0 n1 n2
        refine bodyPost_ret (v := .tuple #[.agg #[.slice a1 s.kept.length c1, .slice a5 (s.late.length + 1) c5, .int .i64 s.lock], .bool true]) (by simp [results, Try.results8, go_sem, q0, q1, q2]) rfl ⟨⟨_, rfl, dUnhide HO⟩, dUnhide HB⟩
    · obtain ⟨m, rfl, hy, hn⟩ := dUnhide LF fun h => (k3.1 rfl) ((dUnhide PD).1 h).2.1
      have C3 := dHide fun W hb => dUnhide C3 W hb m hy hn
      clear hy hn LF C2 PY k3
      go_wp2_with fail
      refine (dUnhide C3 _ B3).mono ?_
      rintro r w4 ⟨⟨u, rfl, O4⟩, b4⟩
      obtain ⟨ka4, kc4, la4, lc4, rfl⟩ := O4.shape
      have Z4 := Z3.below b4
      obtain ⟨z0, f0⟩ := Z4.2 0 _ rfl
      obtain ⟨z1, f1⟩ := Z4.2 1 _ rfl
      obtain ⟨z2, f2⟩ := Z4.2 2 _ rfl
      obtain ⟨hx, hO⟩ := OwS.into O4 Z3.lt Z4
      have BB := dHide (below_three (rb := w.heap.size + 1 + 1) (belowThen B3 b4) (by omega) (.slice ka4 m.kept.length kc4) (.slice la4 m.late.length lc4) (.int .i64 m.lock))
      have HX := dHide hx
      have HO := dHide (hO.mono (base' := w.heap.size) B3.size)
      clear O4 Z4 hx hO b4 Z3 X3 Y3 p0 p1 p2 e0 e1 e2 e3
      go_wp2
      generalize ((w4.setCell ⟨w.heap.size + 1 + 1, 0, none⟩ (.slice ka4 m.kept.length kc4)).setCell ⟨w.heap.size + 1 + 1, 1, none⟩ (.slice la4 m.late.length lc4)).setCell ⟨w.heap.size + 1 + 1, 2, none⟩ (.int .i64 m.lock) = V at *
      have q0 := dUnhide HX 0 _ rfl
      have q1 := dUnhide HX 1 _ rfl
      have q2 := dUnhide HX 2 _ rfl
      clear z0 z1 z2 f0 f1 f2
      refine bodyPost_ret (v := .tuple #[.agg #[.slice ka4 m.kept.length kc4, .slice la4 m.late.length lc4, .int .i64 m.lock], .bool false]) (by simp [results, Try.results8, go_sem, q0, q1, q2]) rfl ⟨⟨_, rfl, dUnhide HO⟩, dUnhide BB⟩
  · obtain rfl := hr.of_no hs
    obtain ⟨m, rfl, hy, hn⟩ := dUnhide LF fun h => hs h.1
    have C3 := dHide fun W hb => dUnhide C3 W hb m hy hn
    clear hs hy hn LF C2 PY C5
    go_wp2_with fail
    refine (dUnhide C3 _ B1).mono ?_
    rintro r w4 ⟨⟨u, rfl, O4⟩, b4⟩
    obtain ⟨ka4, kc4, la4, lc4, rfl⟩ := O4.shape
    have Z4 := Z1.below b4
    obtain ⟨z0, f0⟩ := Z4.2 0 _ rfl
    obtain ⟨z1, f1⟩ := Z4.2 1 _ rfl
    obtain ⟨z2, f2⟩ := Z4.2 2 _ rfl
    obtain ⟨hx, hO⟩ := OwS.into O4 Z1.lt Z4
    have BB := dHide (below_three (rb := w.heap.size + 1 + 1) (belowThen B1 b4) (by omega) (.slice ka4 m.kept.length kc4) (.slice la4 m.late.length lc4) (.int .i64 m.lock))
    have HX := dHide hx
    have HO := dHide (hO.mono (base' := w.heap.size) B1.size)
    clear O4 Z4 hx hO b4 Z1 X1 Y1 p0 p1 p2 e0 e1 e2 e3
    go_wp2
    generalize ((w4.setCell ⟨w.heap.size + 1 + 1, 0, none⟩ (.slice ka4 m.kept.length kc4)).setCell ⟨w.heap.size + 1 + 1, 1, none⟩ (.slice la4 m.late.length lc4)).setCell ⟨w.heap.size + 1 + 1, 2, none⟩ (.int .i64 m.lock) = V at *
    have q0 := dUnhide HX 0 _ rfl
    have q1 := dUnhide HX 1 _ rfl
    have q2 := dUnhide HX 2 _ rfl
    clear z0 z1 z2 f0 f1 f2
    refine bodyPost_ret (v := .tuple #[.agg #[.slice ka4 m.kept.length kc4, .slice la4 m.late.length lc4, .int .i64 m.lock], .bool false]) (by simp [results, Try.results8, go_sem, q0, q1, q2]) rfl ⟨⟨_, rfl, dUnhide HO⟩, dUnhide BB⟩
end Go.Proofs.Ytejmfohkobhidaa
