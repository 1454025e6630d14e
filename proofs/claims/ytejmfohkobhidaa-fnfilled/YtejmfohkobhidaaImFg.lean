/- impl's copyEntries, Store.copied, Store.unchanged, Store.refuses. -/
import Derived.Test.YtejmfohkobhidaaImFe
import Derived.Test.YtejmfohkobhidaaCpP
import Derived.Test.YtejmfohkobhidaaGbE
import Derived.Test.YtejmfohkobhidaaStE
namespace Go.Proofs.Ytejmfohkobhidaa
open Go.ChangeShapes Go.WideShapes Go.ChangeAt Go.RowKit
set_option linter.unusedVariables false
set_option linter.unusedSimpArgs false
set_option maxRecDepth 100000

theorem zerosE_len (n : Nat) : (zerosE n).toList.length = n * 4 := by rw [Array.length_toList]; exact size_madeCells _ _
set_option maxHeartbeats 4000000 in
theorem copyEntries_any (v : Value) (es : List Ent) (w : World) (hv : Rw 4 Ent.cl w v es) (hl : es.length ≤ 1048576) :
    Calls Try.prog 69 #[v] w fun r w' => (∃ u, r = .returned u ∧ ApE w' w.heap.size u es) ∧ Below w.heap.size w w' := by
  have hlen : (fcells Ent.cl es).length = es.length * 4 := fcells_len elemE.len es
  have hw := MapKept.heap_alloc w (.cells (zerosE es.length) 28)
  have HR : Hid ((w.alloc (.cells (zerosE es.length) 28)).heap[w.heap.size]? = some (.cells (zerosE es.length).toList.toArray 28 (0, 0))) := by
    show _ = _
    simpa using hw.1
  have hB : Below w.heap.size w (w.alloc (.cells (zerosE es.length) 28)) := (Below.refl _ _).alloc (Nat.le_refl _) _
  have hv1 := hv.below hB
  obtain ⟨-, a, c, rfl, hac, -⟩ := id hv1
  have HS : Hid (0 < (fcells Ent.cl es).length → ∃ ad, a = some ad ∧ ∀ j u, (fcells Ent.cl es)[j]? = some u → (w.alloc (.cells (zerosE es.length) 28)).cell? (ad.add j) = some u) := fun h0 => by
    obtain ⟨-, a', c', e, -, h⟩ := hv1
    cases e
    obtain ⟨b, off, rfl, hc⟩ := orR_of_lt h (k := 0) (by omega)
    exact ⟨_, rfl, rw_news elemE hc⟩
  have HZ := dHide (zerosE_len es.length)
  have o1 := dHide (fcells_one elemE es)
  have FIN : Hid (∀ w', w'.heap[w.heap.size]? = some (.cells (splice (zerosE es.length).toList 0 (fcells Ent.cl es)).toArray 28 (0, 0)) → (w.alloc (.cells (zerosE es.length) 28)).grownBy w' (some w.heap.size) → (∃ u, Ending.returned (.slice (some ⟨w.heap.size, 0, none⟩) es.length es.length) = .returned u ∧ ApE w' w.heap.size u es) ∧ Below w.heap.size w w') := fun w' h1 h2 => by
    have e : splice (zerosE es.length).toList 0 (fcells Ent.cl es) = fcells Ent.cl es := by
      unfold splice
      rw [List.drop_eq_nil_of_le (by rw [zerosE_len, hlen]; omega)]
      simp
    rw [e] at h1
    refine ⟨⟨_, rfl, .inr ⟨hlen, .inr ⟨w.heap.size, es.length, _, rfl, Nat.le_refl _, h1, Nat.le_refl _, by show es.length ≤ 9223372036854775807; omega, by simpa using hlen, ?_⟩⟩⟩, hB.grown h2 hB.size (fun k hk => by cases hk; exact Nat.le_refl _)⟩
    simp [← hlen]
  have mk := fun W => makeE es.length (by omega) W
  generalize (zerosE es.length).toList = ZL at *
  generalize hF : fcells Ent.cl es = FC at *
  generalize es.length = n at *
  clear hv hv1 hw hF
  go_enter Try.func69, Try.ntmps69
  go_wp2_with (refine wp_copyK rfl _ _ 24 24 rfl 28 4 elemE.under (by kernel_rfl) (by decide) _ _ _ _ _ _ rfl rfl w.heap.size 0 ZL 28 (dUnhide HR) FC (by rw [show Nat.min n n = n from Nat.min_self n]; exact hlen) (fun h => ⟨rfl, dUnhide HS h⟩) (by rw [dUnhide HZ, hlen]; omega) (dUnhide o1) ?_; intro W2 R2 G2; have F := dHide (dUnhide FIN W2 (dUnhide R2) (dUnhide G2)); clear R2 G2)
  go_ret
  exact dUnhide F
theorem sep_symm {u v : Value} (h : touch u = none ∨ touch u ≠ touch v) : touch v = none ∨ touch v ≠ touch u := by
  by_cases hv : touch v = none
  · exact .inl hv
  · right
    intro e
    rcases h with h | h
    · exact hv (e.trans h)
    · exact h e.symm
set_option maxHeartbeats 4000000 in
theorem copied_any (v : Value) (s : St) (w : World) (hv : Rs w v s) (hk : s.kept.length ≤ 1048576) (hl : s.late.length ≤ 1048576) :
    Calls Try.prog 31 #[v] w fun e w' => (∃ u, e = .returned u ∧ OwS w' w.heap.size u s) ∧ Below w.heap.size w w' := by
  obtain ⟨kv, lv, rfl, rk, rl⟩ := hv
  have HK := dHide fun W (hb : Below w.heap.size w W) => copyEntries_any kv s.kept W (rk.below hb) hk
  have HL := dHide fun W (hb : Below w.heap.size w W) => copyEntries_any lv s.late W (rl.below hb) hl
  obtain ⟨-, ka, kc, rfl, -, -⟩ := rk
  obtain ⟨-, la, lc, rfl, -, -⟩ := rl
  have EX : Hid (∀ (W : World) a b, ApE W w.heap.size a s.kept → ApE W w.heap.size b s.late → (touch a = none ∨ touch a ≠ touch b) → OwS W w.heap.size (.agg #[a, b, .int .i64 s.lock]) s) := fun W a b h1 h2 h3 => ⟨a, b, rfl, h1, h2, h3⟩
  generalize s.lock = sl at *
  have ba : ∀ (w : World) o, Below w.heap.size w (w.alloc o) := fun w o => (Below.refl _ _).alloc (Nat.le_refl _) o
  go_enter Try.func31, Try.ntmps31
  go_wp2_with fail
  have X0 := BxZ.new w [.slice ka s.kept.length kc, .slice la s.late.length lc, .int .i64 sl] 26 (Nat.le_refl _)
  have X1 := X0.below (ba _ (.cells #[.slice none 0 0, .slice none 0 0, .int .i64 0] 26))
  have Z1 := BxZ.new (B := w.heap.size) (w.alloc (.cells #[.slice ka s.kept.length kc, .slice la s.late.length lc, .int .i64 sl] 26)) [.slice none 0 0, .slice none 0 0, .int .i64 0] 26 (by simp)
  have B1 := belowThen (ba w (.cells #[.slice ka s.kept.length kc, .slice la s.late.length lc, .int .i64 sl] 26)) (ba _ (.cells #[.slice none 0 0, .slice none 0 0, .int .i64 0] 26))
  have e1 : (w.alloc (.cells #[.slice ka s.kept.length kc, .slice la s.late.length lc, .int .i64 sl] 26)).heap.size = w.heap.size + 1 := by simp
  rw [e1] at Z1
  clear X0 e1
  generalize hW : (w.alloc (.cells #[.slice ka s.kept.length kc, .slice la s.late.length lc, .int .i64 sl] 26)).alloc (.cells #[.slice none 0 0, .slice none 0 0, .int .i64 0] 26) = w0 at *
  clear hW
  have HX := dHide X1
  have HZ := dHide Z1
  have k0 := (X1.2 0 _ rfl).1
  have k1 := (X1.2 1 _ rfl).1
  have k2 := (X1.2 2 _ rfl).1
  have hlt := Z1.lt
  clear X1 Z1
  have HK0 := dHide fun W (hb : Below w0.heap.size w0 W) => dUnhide HK W (belowThen B1 hb)
  have HL0 := dHide fun W (hb : Below w0.heap.size w0 W) => dUnhide HL W (belowThen B1 hb)
  have hb1 : Below w0.heap.size w0 w0.drew := (Below.refl _ _).drew
  clear HK HL
  go_region_held3 (fun W => W.cell? ⟨w.heap.size, 0, none⟩ = some (.slice ka s.kept.length kc) ∧ W.cell? ⟨w.heap.size, 1, none⟩ = some (.slice la s.late.length lc) ∧ W.cell? ⟨w.heap.size, 2, none⟩ = some (.int .i64 sl)) (first | exact ⟨set_other (set_other (set_other q0 (.inl (by omega))) (.inl (by omega))) (.inl (by omega)), set_other (set_other (set_other q1 (.inl (by omega))) (.inl (by omega))) (.inl (by omega)), set_other (set_other (set_other q2 (.inl (by omega))) (.inl (by omega))) (.inl (by omega))⟩ | exact ⟨q0, q1, q2⟩ | exact ⟨p0, p1, p2⟩ | go_keep)
    (first
      | (go_at_call 69; refine (dUnhide HL0 _ hb5).mono ?_; rintro e w6 ⟨⟨v6, rfl, P6⟩, b6⟩
         have PK := (PF.below b6).mono (base' := w0.heap.size) (by have := hb1.size; simp <;> omega); have SEP := dHide (touch_ne elemE PF P6 (Nat.le_refl _)); have HPK := dHide PK; have hb6 := belowThen hb5 b6; have HPL := dHide (P6.mono (base' := w0.heap.size) hb5.size); obtain ⟨a6, c6, rfl⟩ := ApR.slice elemE P6; have q0 := ((dUnhide HX).below hb6 |>.2 0 _ rfl).1; have q1 := ((dUnhide HX).below hb6 |>.2 1 _ rfl).1; have q2 := ((dUnhide HX).below hb6 |>.2 2 _ rfl).1; obtain ⟨z0, f0⟩ := ((dUnhide HZ).below hb6).2 0 _ rfl; obtain ⟨z1, f1⟩ := ((dUnhide HZ).below hb6).2 1 _ rfl; obtain ⟨z2, f2⟩ := ((dUnhide HZ).below hb6).2 2 _ rfl; clear P6 b6 PK PF)
      | (go_at_call 69; refine (dUnhide HK0 _ hb1).mono ?_; rintro e w5 ⟨⟨v5, rfl, PF⟩, b5⟩
         have hb5 := belowThen hb1 b5; obtain ⟨a5, c5, rfl⟩ := ApR.slice elemE PF; have p0 := ((dUnhide HX).below hb5 |>.2 0 _ rfl).1; have p1 := ((dUnhide HX).below hb5 |>.2 1 _ rfl).1; have p2 := ((dUnhide HX).below hb5 |>.2 2 _ rfl).1; clear b5))
  all_goals
    have BB := (((belowThen B1 hb6).setCell (p := ⟨w.heap.size + 1, 0, none⟩) (Nat.le_succ _) (.slice a5 s.kept.length c5)).setCell (p := ⟨w.heap.size + 1, 1, none⟩) (Nat.le_succ _) (.slice a6 s.late.length c6)).setCell (p := ⟨w.heap.size + 1, 2, none⟩) (Nat.le_succ _) (.int .i64 sl)
    have ZZ := ((((dUnhide HZ).below hb6).put 0 (.slice a5 s.kept.length c5)).put 1 (.slice a6 s.late.length c6)).put 2 (.int .i64 sl)
    have e0 := (ZZ.2 0 _ rfl).1
    have e1 := (ZZ.2 1 _ rfl).1
    have e2 := (ZZ.2 2 _ rfl).1
    have OO := dHide (dUnhide EX _ _ _ (((ApR.far elemE (ApR.far elemE (ApR.far elemE (dUnhide HPK) (b := w.heap.size + 1) (o' := 0) (by omega) (.slice a5 s.kept.length c5)) (b := w.heap.size + 1) (o' := 1) (by omega) (.slice a6 s.late.length c6)) (b := w.heap.size + 1) (o' := 2) (by omega) (.int .i64 sl))).mono B1.size) (((ApR.far elemE (ApR.far elemE (ApR.far elemE (dUnhide HPL) (b := w.heap.size + 1) (o' := 0) (by omega) (.slice a5 s.kept.length c5)) (b := w.heap.size + 1) (o' := 1) (by omega) (.slice a6 s.late.length c6)) (b := w.heap.size + 1) (o' := 2) (by omega) (.int .i64 sl))).mono B1.size) (dUnhide SEP))
    clear ZZ HPK HPL SEP z0 z1 z2 f0 f1 f2 q0 q1 q2 p0 p1 p2 k0 k1 k2 EX HZ HX HK0 HL0 hb1
    generalize (((w6.setCell ⟨w.heap.size + 1, 0, none⟩ (.slice a5 s.kept.length c5)).setCell ⟨w.heap.size + 1, 1, none⟩ (.slice a6 s.late.length c6)).setCell ⟨w.heap.size + 1, 2, none⟩ (.int .i64 sl)) = V at *
    go_wp2
    refine bodyPost_ret (v := .agg #[.slice a5 s.kept.length c5, .slice a6 s.late.length c6, .int .i64 sl]) (by simp [results, Try.results31, go_sem, e0, e1, e2]) rfl ⟨⟨_, rfl, dUnhide OO⟩, BB⟩
/-- What is answered beside false. -/
theorem unchanged_any (v : Value) (s : St) (w : World) (hv : Rs w v s) (hf : fitS s) (m : St) (hy : stP s → m = s) (hn : ¬ stP s → m = zeroSt) :
    Calls Try.prog 30 #[v] w fun e w' => (∃ u, e = .returned u ∧ OwS w' w.heap.size u m) ∧ Below w.heap.size w w' := by
  have ba : ∀ (w : World) o, Below w.heap.size w (w.alloc o) := fun w o => (Below.refl _ _).alloc (Nat.le_refl _) o
  have C1 := dHide fun W (hb : Below w.heap.size w W) => implStoreOk_any v s W (hv.below hb) hf
  have C2 := dHide fun W (hb : Below w.heap.size w W) (h : stP s) => copied_any v s W (hv.below hb) (by have := h.1.1; omega) (by have := h.2.1.1; omega)
  obtain ⟨kv, lv, rfl, ⟨-, ka, kc, rfl, -, -⟩, ⟨-, la, lc, rfl, -, -⟩⟩ := hv
  have HY := dHide hy
  have HN := dHide hn
  have X0 := Bx.new w [.slice ka s.kept.length kc, .slice la s.late.length lc, .int .i64 s.lock] 26
  have X1 := X0.below (ba _ (.cells #[.slice none 0 0, .slice none 0 0, .int .i64 0] 26))
  have Z0 := BxZ.new (B := w.heap.size) (w.alloc (.cells #[.slice ka s.kept.length kc, .slice la s.late.length lc, .int .i64 s.lock] 26)) [.slice none 0 0, .slice none 0 0, .int .i64 0] 26 (by simp)
  have B0 := belowThen (ba w (.cells #[.slice ka s.kept.length kc, .slice la s.late.length lc, .int .i64 s.lock] 26)) (ba _ (.cells #[.slice none 0 0, .slice none 0 0, .int .i64 0] 26))
  have e1 : (w.alloc (.cells #[.slice ka s.kept.length kc, .slice la s.late.length lc, .int .i64 s.lock] 26)).heap.size = w.heap.size + 1 := by simp
  rw [e1] at Z0
  clear e1 hf hy hn X0
  go_enter Try.func30, Try.ntmps30
  go_wp2_with fail
  generalize (w.alloc (.cells #[.slice ka s.kept.length kc, .slice la s.late.length lc, .int .i64 s.lock] 26)).alloc (.cells #[.slice none 0 0, .slice none 0 0, .int .i64 0] 26) = w0 at *
  refine (dUnhide C1 _ B0).mono ?_
  rintro r w1 ⟨hr, b1⟩
  have B1 := belowThen B0 b1
  have X2 := X1.below b1
  have Z1 := Z0.below b1
  clear B0 b1 X1 Z0 C1
  have q0 := X2 0 _ rfl
  have q1 := X2 1 _ rfl
  have q2 := X2 2 _ rfl
  by_cases hs : stP s
  · obtain rfl := hr.of_yes hs
    obtain rfl := dUnhide HY hs
    have C2 := dHide fun W hb => dUnhide C2 W hb hs
    clear hs hr HN HY X2
    go_wp2_with fail
    refine (dUnhide C2 _ B1).mono ?_
    rintro r w2 ⟨⟨u, rfl, O2⟩, b2⟩
    obtain ⟨ka1, kc1, la1, lc1, rfl⟩ := O2.shape
    have hlt := Z1.lt
    have Z2 := Z1.below b2
    obtain ⟨z0, f0⟩ := Z2.2 0 _ rfl
    obtain ⟨z1, f1⟩ := Z2.2 1 _ rfl
    obtain ⟨z2, f2⟩ := Z2.2 2 _ rfl
    have hx := dHide ((((Z2.put 0 (.slice ka1 m.kept.length kc1)).put 1 (.slice la1 m.late.length lc1)).put 2 (.int .i64 m.lock)).bx)
    have hO := dHide ((((O2.far (b := w.heap.size + 1) (o := 0) hlt (.slice ka1 m.kept.length kc1)).far (b := w.heap.size + 1) (o := 1) hlt (.slice la1 m.late.length lc1)).far (b := w.heap.size + 1) (o := 2) hlt (.int .i64 m.lock)).mono (base' := w.heap.size) B1.size)
    have BB := dHide ((((belowThen B1 b2).setCell (p := ⟨w.heap.size + 1, 0, none⟩) (Nat.le_succ _) (.slice ka1 m.kept.length kc1)).setCell (p := ⟨w.heap.size + 1, 1, none⟩) (Nat.le_succ _) (.slice la1 m.late.length lc1)).setCell (p := ⟨w.heap.size + 1, 2, none⟩) (Nat.le_succ _) (.int .i64 m.lock))
    clear O2 Z2 b2 Z1 B1 q0 q1 q2
    go_wp2
    generalize ((w2.setCell ⟨w.heap.size + 1, 0, none⟩ (.slice ka1 m.kept.length kc1)).setCell ⟨w.heap.size + 1, 1, none⟩ (.slice la1 m.late.length lc1)).setCell ⟨w.heap.size + 1, 2, none⟩ (.int .i64 m.lock) = V at *
    have q0 := dUnhide hx 0 _ rfl
    have q1 := dUnhide hx 1 _ rfl
    have q2 := dUnhide hx 2 _ rfl
    clear z0 z1 z2 f0 f1 f2
    refine bodyPost_ret (v := .agg #[.slice ka1 m.kept.length kc1, .slice la1 m.late.length lc1, .int .i64 m.lock]) (by simp [results, Try.results30, go_sem, q0, q1, q2]) rfl ⟨⟨_, rfl, dUnhide hO⟩, dUnhide BB⟩
  · obtain rfl := hr.of_no hs
    obtain rfl := dUnhide HN hs
    clear hs hr HN HY C2 X2 q0 q1 q2
    obtain ⟨z0, f0⟩ := Z1.2 0 _ rfl
    obtain ⟨z1, f1⟩ := Z1.2 1 _ rfl
    obtain ⟨z2, f2⟩ := Z1.2 2 _ rfl
    have hx := dHide ((((Z1.put 0 (.slice none 0 0)).put 1 (.slice none 0 0)).put 2 (.int .i64 0)).bx)
    have BB := dHide (((B1.setCell (p := ⟨w.heap.size + 1, 0, none⟩) (Nat.le_succ _) (.slice none 0 0)).setCell (p := ⟨w.heap.size + 1, 1, none⟩) (Nat.le_succ _) (.slice none 0 0)).setCell (p := ⟨w.heap.size + 1, 2, none⟩) (Nat.le_succ _) (.int .i64 0))
    clear Z1 B1
    go_wp2
    generalize ((w1.setCell ⟨w.heap.size + 1, 0, none⟩ (.slice none 0 0)).setCell ⟨w.heap.size + 1, 1, none⟩ (.slice none 0 0)).setCell ⟨w.heap.size + 1, 2, none⟩ (.int .i64 0) = V at *
    have q0 := dUnhide hx 0 _ rfl
    have q1 := dUnhide hx 1 _ rfl
    have q2 := dUnhide hx 2 _ rfl
    clear z0 z1 z2 f0 f1 f2
    refine bodyPost_ret (v := .agg #[.slice none 0 0, .slice none 0 0, .int .i64 0]) (by simp [results, Try.results30, go_sem, q0, q1, q2]) rfl ⟨⟨_, rfl, OwS.zero _ _⟩, dUnhide BB⟩
theorem refuses_any (v : Value) (s : St) (e : Ent) (w : World) (hv : Rs w v s) (he : entP e) :
    Calls Try.prog 29 #[v, e.val] w fun r w' => RetB (¬ takesP s e) r ∧ Below w.heap.size w w' := by
  obtain ⟨kv, lv, rfl, ⟨-, ka, kc, rfl, -, -⟩, ⟨-, la, lc, rfl, -, -⟩⟩ := hv
  obtain ⟨x, wv, ho, d⟩ := e
  have hp : isPl x := he.1
  have hw0 : 0 ≤ wv := he.2.1
  have TP : Hid (takesP s ⟨x, wv, ho, d⟩ ↔ if wv = 0 then s.lock < x / 4294967296 else s.lock < wv) := Iff.rfl
  generalize takesP s ⟨x, wv, ho, d⟩ = P at *
  generalize s.lock = sl at *
  have B0 : Below w.heap.size w ((w.alloc (.cells #[.slice ka s.kept.length kc, .slice la s.late.length lc, .int .i64 sl] 26)).alloc (.cells #[.int .i64 x, .int .i64 wv, .bool ho, .string d] 28)) := ((Below.refl _ _).alloc (Nat.le_refl _) _).alloc (by simp) _
  unfold Ent.val
  simp only
  by_cases hw : wv = 0
  · subst hw
    rw [if_pos rfl] at TP
    have R : RetB (¬ P) (.returned (.bool (decide (x / 4294967296 ≤ sl)))) := ⟨_, rfl, fun h hp => by have := (dUnhide TP).1 hp; have := of_decide_eq_true h; omega, fun h => decide_eq_true (by rcases Int.lt_or_le sl (x / 4294967296) with h' | h'; exact absurd ((dUnhide TP).2 h') h; exact h')⟩
    have HE := dHide fun W => implEpoch_yes x hp W
    clear he
    go_enter Try.func29, Try.ntmps29
    go_wp2
    have X0 := (Bx.new w [.slice ka s.kept.length kc, .slice la s.late.length lc, .int .i64 sl] 26).below ((Below.refl _ _).alloc (Nat.le_refl _) (.cells #[.int .i64 x, .int .i64 0, .bool ho, .string d] 28))
    have Y0 := Bx.new (w.alloc (.cells #[.slice ka s.kept.length kc, .slice la s.late.length lc, .int .i64 sl] 26)) [.int .i64 x, .int .i64 0, .bool ho, .string d] 28
    have e1 : (w.alloc (.cells #[.slice ka s.kept.length kc, .slice la s.late.length lc, .int .i64 sl] 26)).heap.size = w.heap.size + 1 := by simp
    rw [e1] at Y0
    clear e1
    generalize (w.alloc (.cells #[.slice ka s.kept.length kc, .slice la s.late.length lc, .int .i64 sl] 26)).alloc (.cells #[.int .i64 x, .int .i64 0, .bool ho, .string d] 28) = w0 at *
    have k0 := Y0 0 _ rfl
    have k2 := X0 2 _ rfl
    have hb1 : Below w0.heap.size w0 w0.drew := (Below.refl _ _).drew
    go_region_held3 (fun W => W.cell? ⟨w.heap.size + 1, 0, none⟩ = some (.int .i64 x) ∧ W.cell? ⟨w.heap.size, 2, none⟩ = some (.int .i64 sl)) (first | exact ⟨q0, q2⟩ | go_keep)
      (first
        | (go_at_call 68; refine (dUnhide HE _).mono ?_; rintro e w1 ⟨rfl, b1⟩; have hb2 := belowThen hb1 b1; have q0 := (Y0.below hb2) 0 _ rfl; have q2 := (X0.below hb2) 2 _ rfl))
    all_goals
      go_wp2
      go_ret
      exact ⟨R, belowThen B0 hb2⟩
  · rw [if_neg hw] at TP
    have hw' : decide (0 < wv) = true := decide_eq_true (by omega)
    have hw2 : (0 : Int) < wv := by omega
    have R : RetB (¬ P) (.returned (.bool (decide (wv ≤ sl)))) := ⟨_, rfl, fun h hp => by have := (dUnhide TP).1 hp; have := of_decide_eq_true h; omega, fun h => decide_eq_true (by rcases Int.lt_or_le sl wv with h' | h'; exact absurd ((dUnhide TP).2 h') h; exact h')⟩
    clear he hw
    go_enter Try.func29, Try.ntmps29
    go_wp2
    go_ret
    exact ⟨R, B0⟩
end Go.Proofs.Ytejmfohkobhidaa
