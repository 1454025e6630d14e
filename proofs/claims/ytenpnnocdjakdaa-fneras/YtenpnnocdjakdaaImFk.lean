/- impl's sortedList.from, StoreTrim, StorePut. -/
import Derived.Test.YtenpnnocdjakdaaImFj
import Derived.Test.YtenpnnocdjakdaaStN
namespace Go.Proofs.Ytenpnnocdjakdaa
open Go.ChangeShapes Go.WideShapes Go.ChangeAt Go.RowKit
set_option linter.unusedVariables false
set_option linter.unusedSimpArgs false
set_option maxRecDepth 100000

theorem Rw.drop {w : World} {b off n cap : Nat} {es : List Ent} (h : Rw 4 Ent.cl w (.slice (some ⟨b, off, none⟩) n cap) es) {i : Nat} (hi : i ≤ es.length) (off' : Nat) (ho : i < es.length → off' = off + i * 4) : Rw 4 Ent.cl w (.slice (some ⟨b, off', none⟩) (es.length - i) (cap - i)) (es.drop i) := by
  obtain ⟨h0, a', cap', e, hc, h⟩ := h
  cases e
  refine ⟨by rw [List.length_drop]; omega, _, _, by rw [List.length_drop], by rw [List.length_drop]; omega, ?_⟩
  rcases Nat.lt_or_ge i es.length with hlt | hge
  · right
    obtain ⟨b', off'', e, hc⟩ := orR_of_lt h hlt
    cases e
    refine ⟨b, off', rfl, fun k hk j u hu => ?_⟩
    rw [List.length_drop] at hk
    have := hc (i + k) (by omega) j u (by rw [List.getElem_drop] at hu; exact hu)
    rw [ho hlt, show off + i * 4 + k * 4 + j = off + (i + k) * 4 + j by omega]
    exact this
  · exact .inl (List.drop_eq_nil_of_le hge)
set_option maxHeartbeats 4000000 in
theorem from_any (v : Value) (es : List Ent) (y : Int) (w0 w : World) (hv : Rw 4 Ent.cl w0 v es) (hb : Below w0.heap.size w0 w) (ha : ascE es) (hl : es.length ≤ 1048576) :
    Calls Try.prog 80 #[v, .int .i64 y] w fun r w' => (∃ (i : Nat) (u : Value), r = .returned u ∧ posP es y i ∧ ∀ W, Below w0.heap.size w0 W → Rw 4 Ent.cl W u (es.drop i)) ∧ Below w.heap.size w w' := by
  have C := dHide (find_any v es y w (hv.below hb) ha hl)
  have HV := dHide fun W (hb : Below w0.heap.size w0 W) => hv.below hb
  obtain ⟨h0, va, vc, rfl, hcap, hva⟩ := hv
  have DR : Hid (∀ W b off, Rw 4 Ent.cl W (.slice (some ⟨b, off, none⟩) es.length vc) es → ∀ i, i ≤ es.length → ∀ off', (i < es.length → off' = off + i * 4) → Rw 4 Ent.cl W (.slice (some ⟨b, off', none⟩) (es.length - i) (vc - i)) (es.drop i)) := fun W b off h i hi off' ho => Rw.drop h hi off' ho
  by_cases he : es = []
  · subst he
    clear hva DR hb
    go_enter Try.func80, Try.ntmps80
    go_wp2_with fail
    refine (dUnhide C).mono ?_
    rintro r w1 ⟨⟨i, b, rfl, h1, h2⟩, b1⟩
    have hi : i = 0 := by have := h1.1; simp at this; exact this
    subst hi
    have HP := dHide h1
    clear C HV h1 h2
    simp only [List.length_nil] at *
    have RN : Hid (∀ (a : Option Addr) c, c ≤ vc → ∀ W, Below w0.heap.size w0 W → Rw 4 Ent.cl W (.slice a 0 c) (List.drop 0 ([] : List Ent))) := fun a c hc W _ => Rw.nil _ _ _ (by omega)
    cases va <;>
    · go_wp2
      all_goals
        go_ret
        exact ⟨⟨0, _, rfl, dUnhide HP, dUnhide RN _ _ (by omega)⟩, b1⟩
  · obtain ⟨b0, o0, rfl, -⟩ : ∃ b off, va = some ⟨b, off, none⟩ ∧ True := by
      rcases hva with h | ⟨b, off, e, -⟩
      · exact absurd h he
      · exact ⟨b, off, e, trivial⟩
    clear hva he hb
    go_enter Try.func80, Try.ntmps80
    go_wp2_with fail
    refine (dUnhide C).mono ?_
    rintro r w1 ⟨⟨i, b, rfl, h1, h2⟩, b1⟩
    have hi := h1.1
    have hi2 : (i : Int) ≤ (es.length : Int) := by omega
    have RN := dHide fun off' ho W hb => dUnhide DR W b0 o0 (dUnhide HV W hb) i hi off' ho
    have HP := dHide h1
    clear C HV DR h1 h2
    by_cases hc : vc = i
    · have RN0 := dHide fun W hb => dUnhide RN o0 (fun h => by omega) W hb
      rw [show vc - i = 0 by omega] at RN0
      clear RN
      go_wp2
      go_ret
      exact ⟨⟨i, _, rfl, dUnhide HP, dUnhide RN0⟩, b1⟩
    · go_wp2
      go_ret
      exact ⟨⟨i, _, rfl, dUnhide HP, dUnhide RN _ (fun h => rfl)⟩, b1⟩
theorem left_trim {s : St} {upto : Int} (h : ¬ (stP s ∧ isPl upto)) : Left s (trimM s upto) := by
  by_cases hs : stP s
  · exact ⟨s, trimM_no hs fun hp => h ⟨hs, hp⟩, fun _ => rfl, fun h => absurd hs h⟩
  · exact ⟨zeroSt, trimM_bad hs, fun h => absurd h hs, fun _ => rfl⟩
theorem left_put {s : St} {e : Ent} (h : ¬ (stP s ∧ putP s e)) : Left s (putM s e) := by
  by_cases hs : stP s
  · exact ⟨s, putM_no hs fun hp => h ⟨hs, hp⟩, fun _ => rfl, fun h => absurd hs h⟩
  · exact ⟨zeroSt, putM_bad hs, fun h => absurd h hs, fun _ => rfl⟩
set_option maxHeartbeats 8000000 in
theorem implTrim_any (v : Value) (s : St) (upto : Int) (w : World) (hv : Rs w v s) (hf : fitS s) (hul : -9223372036854775808 ≤ upto) (huu : upto ≤ 9223372036854775807) :
    Calls Try.prog 29 #[v, .int .i64 upto] w fun r w' => (∃ u, r = .returned (.tuple #[u, .bool (trimM s upto).2]) ∧ OwS w' w.heap.size u (trimM s upto).1) ∧ Below w.heap.size w w' := by
  have ba : ∀ (w : World) o, Below w.heap.size w (w.alloc o) := fun w o => (Below.refl _ _).alloc (Nat.le_refl _) o
  have C1 := dHide fun W (hb : Below w.heap.size w W) => implStoreOk_any v s W (hv.below hb) hf
  have C3 := dHide fun W (hb : Below w.heap.size w W) m hy hn => unchanged_any v s W (hv.below hb) hf m hy hn
  have LF : Hid (¬ (stP s ∧ isPl upto) → Left s (trimM s upto)) := left_trim
  have TY : Hid (stP s → isPl upto → ∀ i, posP s.kept (upto + 1) i → trimM s upto = (⟨s.kept.drop i, s.late, s.lock⟩, true)) := fun hs hp i hi => by rw [trimM_yes hs hp, trimL_pos hi]
  obtain ⟨kv, lv, rfl, rk, rl⟩ := hv
  have C5 := dHide fun W (hb : Below w.heap.size w W) (hs : stP s) => from_any kv s.kept (upto + 1) w W rk hb hs.2.2.1 (by have := hs.1.1; omega)
  have HL := dHide fun W (hb : Below w.heap.size w W) => rl.below hb
  obtain ⟨-, ka, kc, rfl, -, -⟩ := rk
  obtain ⟨-, la, lc, rfl, -, -⟩ := rl
  clear hf
  generalize trimM s upto = M at *
  have X0 := (BxZ.new (B := w.heap.size) w [.slice ka s.kept.length kc, .slice la s.late.length lc, .int .i64 s.lock] 26 (Nat.le_refl _)).below (ba _ (.cells #[.slice none 0 0, .slice none 0 0, .int .i64 0] 26))
  have Z0 := BxZ.new (B := w.heap.size) (w.alloc (.cells #[.slice ka s.kept.length kc, .slice la s.late.length lc, .int .i64 s.lock] 26)) [.slice none 0 0, .slice none 0 0, .int .i64 0] 26 (by simp)
  have B0 := belowThen (ba w (.cells #[.slice ka s.kept.length kc, .slice la s.late.length lc, .int .i64 s.lock] 26)) (ba _ (.cells #[.slice none 0 0, .slice none 0 0, .int .i64 0] 26))
  have e1 : (w.alloc (.cells #[.slice ka s.kept.length kc, .slice la s.late.length lc, .int .i64 s.lock] 26)).heap.size = w.heap.size + 1 := by simp
  rw [e1] at Z0
  clear e1
  go_enter Try.func29, Try.ntmps29
  go_wp2_with fail
  generalize (w.alloc (.cells #[.slice ka s.kept.length kc, .slice la s.late.length lc, .int .i64 s.lock] 26)).alloc (.cells #[.slice none 0 0, .slice none 0 0, .int .i64 0] 26) = w0 at *
  refine (dUnhide C1 _ B0).mono ?_
  rintro r w1 ⟨hr, b1⟩
  have B1 := belowThen B0 b1
  have X1 := X0.below b1
  have Z1 := Z0.below b1
  clear B0 b1 X0 Z0 C1
  have p0 := (X1.2 0 _ rfl).1
  have p1 := (X1.2 1 _ rfl).1
  have p2 := (X1.2 2 _ rfl).1
  have hsz := B1.size
  by_cases hs : stP s
  · obtain rfl := hr.of_yes hs
    by_cases hp : isPl upto
    · have C5 := dHide fun W hb => dUnhide C5 W hb hs
      have TY := dHide (dUnhide TY hs hp)
      have hk0 : s.kept.length ≤ 1048576 := by have := hs.1.1; omega
      have hl0 : s.late.length ≤ 1048576 := by have := hs.2.1.1; omega
      have hw1 : IntKind.i64.wrap (upto + 1) = upto + 1 := by obtain ⟨q0, q1, q2, q3, q4⟩ := hp; rw [IntKind.wrap_i64]; omega
      have CP := dHide fun W => implOk_yes upto hp W
      clear LF C3 hs hp
      go_wp2_with fail
      refine (dUnhide CP _).mono ?_
      rintro r w2 ⟨rfl, b2⟩
      have B2 := belowThen B1 b2
      have X2 := X1.below b2
      have Z2 := Z1.below b2
      clear B1 X1 Z1 p0 p1 p2
      have p0 := (X2.2 0 _ rfl).1
      have p1 := (X2.2 1 _ rfl).1
      have p2 := (X2.2 2 _ rfl).1
      go_wp2_with fail
      refine (sorted_any _ _ s.lock _ ka la s.kept.length kc s.late.length lc rfl rfl).mono ?_
      rintro r w3 ⟨rfl, b3⟩
      have B3 := belowThen B2 b3
      have X3 := X2.below b3
      have Z3 := Z2.below b3
      clear B2 X2 Z2 b2 b3 p0 p1 p2
      have p0 := (X3.2 0 _ rfl).1
      have p1 := (X3.2 1 _ rfl).1
      have p2 := (X3.2 2 _ rfl).1
      go_wp2_with fail
      refine (dUnhide C5 _ B3).mono ?_
      rintro r w5 ⟨⟨i, u, rfl, hp, hR⟩, b5⟩
      have B5 := belowThen B3 b5
      have X5 := X3.below b5
      have Z5 := Z3.below b5
      have eM := dUnhide TY i hp
      obtain ⟨-, ua, uc, rfl, -, -⟩ := hR _ B5
      have X6 := X5.put 0 (.slice ua (s.kept.drop i).length uc)
      have Z6 := Z5.far (b' := w.heap.size) (o := 0) (by omega) (.slice ua (s.kept.drop i).length uc)
      have B6 := B5.setCell (p := ⟨w.heap.size, 0, none⟩) (Nat.le_refl _) (.slice ua (s.kept.drop i).length uc)
      have C6 := dHide (copied_any (.agg #[.slice ua (s.kept.drop i).length uc, .slice la s.late.length lc, .int .i64 s.lock]) ⟨s.kept.drop i, s.late, s.lock⟩ _ ⟨_, _, rfl, hR _ B6, dUnhide HL _ B6⟩ (by rw [List.length_drop]; omega) hl0)
      generalize hm : (⟨s.kept.drop i, s.late, s.lock⟩ : St) = m at *
      subst eM
      obtain ⟨p0, g0⟩ := X5.2 0 _ rfl
      obtain ⟨p1, g1⟩ := X5.2 1 _ rfl
      obtain ⟨p2, g2⟩ := X5.2 2 _ rfl
      generalize (s.kept.drop i).length = dn at *
      clear hm hR hp X3 Z3 B3 b5 X5 Z5 C5 TY HL CP
      go_wp2_with fail
      generalize w5.setCell ⟨w.heap.size, 0, none⟩ (.slice ua dn uc) = w6 at *
      refine (dUnhide C6).mono ?_
      rintro r w4 ⟨⟨u, rfl, O4⟩, b4⟩
      obtain ⟨ka4, kc4, la4, lc4, rfl⟩ := O4.shape
      have Z4 := Z6.below b4
      obtain ⟨z0, f0⟩ := Z4.2 0 _ rfl
      obtain ⟨z1, f1⟩ := Z4.2 1 _ rfl
      obtain ⟨z2, f2⟩ := Z4.2 2 _ rfl
      obtain ⟨hx, hO⟩ := OwS.into O4 Z6.lt Z4
      have BB := dHide (below_three (rb := w.heap.size + 1) (belowThen B6 b4) (by omega) (.slice ka4 m.kept.length kc4) (.slice la4 m.late.length lc4) (.int .i64 m.lock))
      have HX := dHide hx
      have HO := dHide (hO.mono (base' := w.heap.size) B6.size)
      clear O4 Z4 hx hO b4 Z6 X6 p0 p1 p2 g0 g1 g2
      go_wp2
      generalize ((w4.setCell ⟨w.heap.size + 1, 0, none⟩ (.slice ka4 m.kept.length kc4)).setCell ⟨w.heap.size + 1, 1, none⟩ (.slice la4 m.late.length lc4)).setCell ⟨w.heap.size + 1, 2, none⟩ (.int .i64 m.lock) = V at *
      have q0 := dUnhide HX 0 _ rfl
      have q1 := dUnhide HX 1 _ rfl
      have q2 := dUnhide HX 2 _ rfl
      clear z0 z1 z2 f0 f1 f2
      refine bodyPost_ret (v := .tuple #[.agg #[.slice ka4 m.kept.length kc4, .slice la4 m.late.length lc4, .int .i64 m.lock], .bool true]) (by simp [results, Try.results29, go_sem, q0, q1, q2]) rfl ⟨⟨_, rfl, dUnhide HO⟩, dUnhide BB⟩
    · obtain ⟨m, rfl, hy, hn⟩ := dUnhide LF fun h => hp h.2
      have C3 := dHide fun W hb => dUnhide C3 W hb m hy hn
      have CP := dHide fun W => implOk_no upto hul huu hp W
      clear hs hp hy hn LF C5 TY
      go_wp2_with fail
      refine (dUnhide CP _).mono ?_
      rintro r w2 ⟨rfl, b2⟩
      have B2 := belowThen B1 b2
      have X2 := X1.below b2
      have Z2 := Z1.below b2
      clear B1 X1 Z1 b2 p0 p1 p2
      have p0 := (X2.2 0 _ rfl).1
      have p1 := (X2.2 1 _ rfl).1
      have p2 := (X2.2 2 _ rfl).1
      have hsz := B2.size
      go_wp2_with fail
      refine (dUnhide C3 _ B2).mono ?_
      rintro r w4 ⟨⟨u, rfl, O4⟩, b4⟩
      obtain ⟨ka4, kc4, la4, lc4, rfl⟩ := O4.shape
      have Z4 := Z2.below b4
      obtain ⟨z0, f0⟩ := Z4.2 0 _ rfl
      obtain ⟨z1, f1⟩ := Z4.2 1 _ rfl
      obtain ⟨z2, f2⟩ := Z4.2 2 _ rfl
      obtain ⟨hx, hO⟩ := OwS.into O4 Z2.lt Z4
      have BB := dHide (below_three (rb := w.heap.size + 1) (belowThen B2 b4) (by omega) (.slice ka4 m.kept.length kc4) (.slice la4 m.late.length lc4) (.int .i64 m.lock))
      have HX := dHide hx
      have HO := dHide (hO.mono (base' := w.heap.size) B2.size)
      clear O4 Z4 hx hO b4 Z2 X2 p0 p1 p2
      go_wp2
      generalize ((w4.setCell ⟨w.heap.size + 1, 0, none⟩ (.slice ka4 m.kept.length kc4)).setCell ⟨w.heap.size + 1, 1, none⟩ (.slice la4 m.late.length lc4)).setCell ⟨w.heap.size + 1, 2, none⟩ (.int .i64 m.lock) = V at *
      have q0 := dUnhide HX 0 _ rfl
      have q1 := dUnhide HX 1 _ rfl
      have q2 := dUnhide HX 2 _ rfl
      clear z0 z1 z2 f0 f1 f2
      refine bodyPost_ret (v := .tuple #[.agg #[.slice ka4 m.kept.length kc4, .slice la4 m.late.length lc4, .int .i64 m.lock], .bool false]) (by simp [results, Try.results29, go_sem, q0, q1, q2]) rfl ⟨⟨_, rfl, dUnhide HO⟩, dUnhide BB⟩
  · obtain rfl := hr.of_no hs
    obtain ⟨m, rfl, hy, hn⟩ := dUnhide LF fun h => hs h.1
    have C3 := dHide fun W hb => dUnhide C3 W hb m hy hn
    clear hs hy hn LF C5 TY
    go_wp2_with fail
    refine (dUnhide C3 _ B1).mono ?_
    rintro r w4 ⟨⟨u, rfl, O4⟩, b4⟩
    obtain ⟨ka4, kc4, la4, lc4, rfl⟩ := O4.shape
    have Z4 := Z1.below b4
    obtain ⟨z0, f0⟩ := Z4.2 0 _ rfl
    obtain ⟨z1, f1⟩ := Z4.2 1 _ rfl
    obtain ⟨z2, f2⟩ := Z4.2 2 _ rfl
    obtain ⟨hx, hO⟩ := OwS.into O4 Z1.lt Z4
    have BB := dHide (below_three (rb := w.heap.size + 1) (belowThen B1 b4) (by omega) (.slice ka4 m.kept.length kc4) (.slice la4 m.late.length lc4) (.int .i64 m.lock))
    have HX := dHide hx
    have HO := dHide (hO.mono (base' := w.heap.size) B1.size)
    clear O4 Z4 hx hO b4 Z1 X1 p0 p1 p2
    go_wp2
    generalize ((w4.setCell ⟨w.heap.size + 1, 0, none⟩ (.slice ka4 m.kept.length kc4)).setCell ⟨w.heap.size + 1, 1, none⟩ (.slice la4 m.late.length lc4)).setCell ⟨w.heap.size + 1, 2, none⟩ (.int .i64 m.lock) = V at *
    have q0 := dUnhide HX 0 _ rfl
    have q1 := dUnhide HX 1 _ rfl
    have q2 := dUnhide HX 2 _ rfl
    clear z0 z1 z2 f0 f1 f2
    refine bodyPost_ret (v := .tuple #[.agg #[.slice ka4 m.kept.length kc4, .slice la4 m.late.length lc4, .int .i64 m.lock], .bool false]) (by simp [results, Try.results29, go_sem, q0, q1, q2]) rfl ⟨⟨_, rfl, dUnhide HO⟩, dUnhide BB⟩
end Go.Proofs.Ytenpnnocdjakdaa
