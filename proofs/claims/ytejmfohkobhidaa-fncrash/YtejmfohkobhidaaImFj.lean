/- impl's StoreCrash, StoreSync, StoreSeal. -/
import Derived.Test.YtejmfohkobhidaaImFi
namespace Go.Proofs.Ytejmfohkobhidaa
open Go.ChangeShapes Go.WideShapes Go.ChangeAt Go.RowKit
set_option linter.unusedVariables false
set_option linter.unusedSimpArgs false
set_option maxRecDepth 100000

/-- What is answered where nothing is done. -/
def Left (s : St) (M : St × Bool) : Prop := ∃ m, M = (m, false) ∧ (stP s → m = s) ∧ (¬ stP s → m = zeroSt)
theorem left_crash {s : St} {keep : Int} (h : ¬ (stP s ∧ 0 ≤ keep ∧ keep ≤ 1048575)) : Left s (crashM s keep) := by
  by_cases hs : stP s
  · exact ⟨s, crashM_no hs fun hp => h ⟨hs, hp.1, hp.2.1⟩, fun _ => rfl, fun h => absurd hs h⟩
  · exact ⟨zeroSt, crashM_bad hs, fun h => absurd h hs, fun _ => rfl⟩
theorem left_seal {s : St} {upto : Int} (h : ¬ (0 ≤ upto ∧ upto ≤ 30)) : Left s (sealM s upto) := by
  by_cases hs : stP s
  · exact ⟨s, sealM_no hs fun hp => h hp.2, fun _ => rfl, fun h => absurd hs h⟩
  · exact ⟨zeroSt, sealM_bad hs, fun h => absurd h hs, fun _ => rfl⟩
theorem seal_yes {s : St} {upto : Int} (h : 0 ≤ upto ∧ upto ≤ 30) {m : St} (hm : crashM s 1048575 = (m, true)) : sealM s upto = (⟨m.kept, m.late, max m.lock upto⟩, true) := by
  by_cases hs : stP s
  · by_cases hp : crashP s 1048575
    · rw [crashM_yes hs hp] at hm
      cases hm
      exact sealM_yes hs ⟨hp, h⟩
    · rw [crashM_no hs hp] at hm
      cases hm
  · rw [crashM_bad hs] at hm
    cases hm
theorem seal_no {s : St} {upto : Int} {m : St} (hm : crashM s 1048575 = (m, false)) : sealM s upto = (m, false) := by
  by_cases hs : stP s
  · by_cases hp : crashP s 1048575
    · rw [crashM_yes hs hp] at hm
      cases hm
    · rw [crashM_no hs hp] at hm
      cases hm
      exact sealM_no hs fun h => hp h.1
  · rw [crashM_bad hs] at hm
    cases hm
    exact sealM_bad hs
set_option maxHeartbeats 8000000 in
theorem implCrash_any (v : Value) (s : St) (keep : Int) (w : World) (hv : Rs w v s) (hf : fitS s) :
    Calls Try.prog 15 #[v, .int .i64 keep] w fun r w' => (∃ u, r = .returned (.tuple #[u, .bool (crashM s keep).2]) ∧ OwS w' w.heap.size u (crashM s keep).1) ∧ Below w.heap.size w w' := by
  have ba : ∀ (w : World) o, Below w.heap.size w (w.alloc o) := fun w o => (Below.refl _ _).alloc (Nat.le_refl _) o
  have C1 := dHide fun W (hb : Below w.heap.size w W) => implStoreOk_any v s W (hv.below hb) hf
  have C3 := dHide fun W (hb : Below w.heap.size w W) m hy hn => unchanged_any v s W (hv.below hb) hf m hy hn
  have C4 := dHide fun W (hb : Below w.heap.size w W) hs h0 h1 => settled_any v s keep W (hv.below hb) hs h0 h1
  have LF : Hid (¬ (stP s ∧ 0 ≤ keep ∧ keep ≤ 1048575) → Left s (crashM s keep)) := left_crash
  obtain ⟨kv, lv, rfl, ⟨-, ka, kc, rfl, -, -⟩, ⟨-, la, lc, rfl, -, -⟩⟩ := hv
  clear hf
  generalize crashM s keep = M at *
  have X0 := (BxZ.new (B := w.heap.size) w [.slice ka s.kept.length kc, .slice la s.late.length lc, .int .i64 s.lock] 26 (Nat.le_refl _)).below (ba _ (.cells #[.slice none 0 0, .slice none 0 0, .int .i64 0] 26))
  have Z0 := BxZ.new (B := w.heap.size) (w.alloc (.cells #[.slice ka s.kept.length kc, .slice la s.late.length lc, .int .i64 s.lock] 26)) [.slice none 0 0, .slice none 0 0, .int .i64 0] 26 (by simp)
  have B0 := belowThen (ba w (.cells #[.slice ka s.kept.length kc, .slice la s.late.length lc, .int .i64 s.lock] 26)) (ba _ (.cells #[.slice none 0 0, .slice none 0 0, .int .i64 0] 26))
  have e1 : (w.alloc (.cells #[.slice ka s.kept.length kc, .slice la s.late.length lc, .int .i64 s.lock] 26)).heap.size = w.heap.size + 1 := by simp
  rw [e1] at Z0
  clear e1
  go_enter Try.func15, Try.ntmps15
  go_wp2_with fail
  generalize (w.alloc (.cells #[.slice ka s.kept.length kc, .slice la s.late.length lc, .int .i64 s.lock] 26)).alloc (.cells #[.slice none 0 0, .slice none 0 0, .int .i64 0] 26) = w0 at *
  refine (dUnhide C1 _ B0).mono ?_
  rintro r w1 ⟨hr, b1⟩
  have B1 := belowThen B0 b1
  have X1 := X0.below b1
  have Z1 := Z0.below b1
  clear B0 b1 X0 Z0 C1
  have p0 := (X1.2 0 _ rfl).1
  have p1 := (X1.2 1 _ rfl).1
  have p2 := (X1.2 2 _ rfl).1
  have hsz := B1.size
  by_cases hs : stP s
  · obtain rfl := hr.of_yes hs
    by_cases h0 : keep < 0
    · obtain ⟨m, rfl, hy, hn⟩ := dUnhide LF fun h => by omega
      have hd : decide (keep < 0) = true := decide_eq_true h0
      have C3 := dHide fun W hb => dUnhide C3 W hb m hy hn
      clear hs hy hn LF C4 X1
      go_wp2_with fail
      refine (dUnhide C3 _ B1).mono ?_
      rintro r w4 ⟨⟨u, rfl, O4⟩, b4⟩
      obtain ⟨ka4, kc4, la4, lc4, rfl⟩ := O4.shape
      have Z4 := Z1.below b4
      obtain ⟨z0, f0⟩ := Z4.2 0 _ rfl
      obtain ⟨z1, f1⟩ := Z4.2 1 _ rfl
      obtain ⟨z2, f2⟩ := Z4.2 2 _ rfl
      obtain ⟨hx, hO⟩ := OwS.into O4 Z1.lt Z4
      have BB := dHide (below_three (rb := w.heap.size + 1) (belowThen B1 b4) (by omega) (.slice ka4 m.kept.length kc4) (.slice la4 m.late.length lc4) (.int .i64 m.lock))
      have HX := dHide hx
      have HO := dHide (hO.mono (base' := w.heap.size) B1.size)
      clear O4 Z4 hx hO b4 Z1 p0 p1 p2
      go_wp2
      generalize ((w4.setCell ⟨w.heap.size + 1, 0, none⟩ (.slice ka4 m.kept.length kc4)).setCell ⟨w.heap.size + 1, 1, none⟩ (.slice la4 m.late.length lc4)).setCell ⟨w.heap.size + 1, 2, none⟩ (.int .i64 m.lock) = V at *
      have q0 := dUnhide HX 0 _ rfl
      have q1 := dUnhide HX 1 _ rfl
      have q2 := dUnhide HX 2 _ rfl
      clear z0 z1 z2 f0 f1 f2
      refine bodyPost_ret (v := .tuple #[.agg #[.slice ka4 m.kept.length kc4, .slice la4 m.late.length lc4, .int .i64 m.lock], .bool false]) (by simp [results, Try.results15, go_sem, q0, q1, q2]) rfl ⟨⟨_, rfl, dUnhide HO⟩, dUnhide BB⟩
    have hd0 : decide (keep < 0) = false := decide_eq_false h0
    by_cases h1 : 1048575 < keep
    · obtain ⟨m, rfl, hy, hn⟩ := dUnhide LF fun h => by omega
      have hd : decide (1048575 < keep) = true := decide_eq_true h1
      have C3 := dHide fun W hb => dUnhide C3 W hb m hy hn
      clear hs hy hn LF C4 X1
      go_wp2_with fail
      refine (dUnhide C3 _ B1).mono ?_
      rintro r w4 ⟨⟨u, rfl, O4⟩, b4⟩
      obtain ⟨ka4, kc4, la4, lc4, rfl⟩ := O4.shape
      have Z4 := Z1.below b4
      obtain ⟨z0, f0⟩ := Z4.2 0 _ rfl
      obtain ⟨z1, f1⟩ := Z4.2 1 _ rfl
      obtain ⟨z2, f2⟩ := Z4.2 2 _ rfl
      obtain ⟨hx, hO⟩ := OwS.into O4 Z1.lt Z4
      have BB := dHide (below_three (rb := w.heap.size + 1) (belowThen B1 b4) (by omega) (.slice ka4 m.kept.length kc4) (.slice la4 m.late.length lc4) (.int .i64 m.lock))
      have HX := dHide hx
      have HO := dHide (hO.mono (base' := w.heap.size) B1.size)
      clear O4 Z4 hx hO b4 Z1 p0 p1 p2
      go_wp2
      generalize ((w4.setCell ⟨w.heap.size + 1, 0, none⟩ (.slice ka4 m.kept.length kc4)).setCell ⟨w.heap.size + 1, 1, none⟩ (.slice la4 m.late.length lc4)).setCell ⟨w.heap.size + 1, 2, none⟩ (.int .i64 m.lock) = V at *
      have q0 := dUnhide HX 0 _ rfl
      have q1 := dUnhide HX 1 _ rfl
      have q2 := dUnhide HX 2 _ rfl
      clear z0 z1 z2 f0 f1 f2
      refine bodyPost_ret (v := .tuple #[.agg #[.slice ka4 m.kept.length kc4, .slice la4 m.late.length lc4, .int .i64 m.lock], .bool false]) (by simp [results, Try.results15, go_sem, q0, q1, q2]) rfl ⟨⟨_, rfl, dUnhide HO⟩, dUnhide BB⟩
    have hd1 : decide (1048575 < keep) = false := decide_eq_false h1
    have C4 := dHide fun W hb => dUnhide C4 W hb hs (by omega) (by omega)
    obtain ⟨m, mb⟩ := M
    clear hs LF C3 X1
    go_wp2_with fail
    refine (dUnhide C4 _ B1).mono ?_
    rintro r w4 ⟨⟨u, rfl, O4⟩, b4⟩
    obtain ⟨ka4, kc4, la4, lc4, rfl⟩ := O4.shape
    have Z4 := Z1.below b4
    obtain ⟨z0, f0⟩ := Z4.2 0 _ rfl
    obtain ⟨z1, f1⟩ := Z4.2 1 _ rfl
    obtain ⟨z2, f2⟩ := Z4.2 2 _ rfl
    obtain ⟨hx, hO⟩ := OwS.into O4 Z1.lt Z4
    have BB := dHide (below_three (rb := w.heap.size + 1) (belowThen B1 b4) (by omega) (.slice ka4 m.kept.length kc4) (.slice la4 m.late.length lc4) (.int .i64 m.lock))
    have HX := dHide hx
    have HO := dHide (hO.mono (base' := w.heap.size) B1.size)
    clear O4 Z4 hx hO b4 Z1 p0 p1 p2
    go_wp2
    generalize ((w4.setCell ⟨w.heap.size + 1, 0, none⟩ (.slice ka4 m.kept.length kc4)).setCell ⟨w.heap.size + 1, 1, none⟩ (.slice la4 m.late.length lc4)).setCell ⟨w.heap.size + 1, 2, none⟩ (.int .i64 m.lock) = V at *
    have q0 := dUnhide HX 0 _ rfl
    have q1 := dUnhide HX 1 _ rfl
    have q2 := dUnhide HX 2 _ rfl
    clear z0 z1 z2 f0 f1 f2
    refine bodyPost_ret (v := .tuple #[.agg #[.slice ka4 m.kept.length kc4, .slice la4 m.late.length lc4, .int .i64 m.lock], .bool mb]) (by simp [results, Try.results15, go_sem, q0, q1, q2]) rfl ⟨⟨_, rfl, dUnhide HO⟩, dUnhide BB⟩
  · obtain rfl := hr.of_no hs
    obtain ⟨m, rfl, hy, hn⟩ := dUnhide LF fun h => hs h.1
    have C3 := dHide fun W hb => dUnhide C3 W hb m hy hn
    clear hs hy hn LF C4 X1
    go_wp2_with fail
    refine (dUnhide C3 _ B1).mono ?_
    rintro r w4 ⟨⟨u, rfl, O4⟩, b4⟩
    obtain ⟨ka4, kc4, la4, lc4, rfl⟩ := O4.shape
    have Z4 := Z1.below b4
    obtain ⟨z0, f0⟩ := Z4.2 0 _ rfl
    obtain ⟨z1, f1⟩ := Z4.2 1 _ rfl
    obtain ⟨z2, f2⟩ := Z4.2 2 _ rfl
    obtain ⟨hx, hO⟩ := OwS.into O4 Z1.lt Z4
    have BB := dHide (below_three (rb := w.heap.size + 1) (belowThen B1 b4) (by omega) (.slice ka4 m.kept.length kc4) (.slice la4 m.late.length lc4) (.int .i64 m.lock))
    have HX := dHide hx
    have HO := dHide (hO.mono (base' := w.heap.size) B1.size)
    clear O4 Z4 hx hO b4 Z1 p0 p1 p2
    go_wp2
    generalize ((w4.setCell ⟨w.heap.size + 1, 0, none⟩ (.slice ka4 m.kept.length kc4)).setCell ⟨w.heap.size + 1, 1, none⟩ (.slice la4 m.late.length lc4)).setCell ⟨w.heap.size + 1, 2, none⟩ (.int .i64 m.lock) = V at *
    have q0 := dUnhide HX 0 _ rfl
    have q1 := dUnhide HX 1 _ rfl
    have q2 := dUnhide HX 2 _ rfl
    clear z0 z1 z2 f0 f1 f2
    refine bodyPost_ret (v := .tuple #[.agg #[.slice ka4 m.kept.length kc4, .slice la4 m.late.length lc4, .int .i64 m.lock], .bool false]) (by simp [results, Try.results15, go_sem, q0, q1, q2]) rfl ⟨⟨_, rfl, dUnhide HO⟩, dUnhide BB⟩
set_option maxHeartbeats 8000000 in
theorem implSync_any (v : Value) (s : St)  (w : World) (hv : Rs w v s) (hf : fitS s) :
    Calls Try.prog 11 #[v] w fun r w' => (∃ u, r = .returned (.tuple #[u, .bool (crashM s 1048575).2]) ∧ OwS w' w.heap.size u (crashM s 1048575).1) ∧ Below w.heap.size w w' := by
  have ba : ∀ (w : World) o, Below w.heap.size w (w.alloc o) := fun w o => (Below.refl _ _).alloc (Nat.le_refl _) o
  have C1 := dHide fun W (hb : Below w.heap.size w W) => implCrash_any v s 1048575 W (hv.below hb) hf
  obtain ⟨kv, lv, rfl, ⟨-, ka, kc, rfl, -, -⟩, ⟨-, la, lc, rfl, -, -⟩⟩ := hv
  clear hf
  generalize crashM s 1048575 = M at *
  obtain ⟨m, mb⟩ := M
  have X0 := (BxZ.new (B := w.heap.size) w [.slice ka s.kept.length kc, .slice la s.late.length lc, .int .i64 s.lock] 26 (Nat.le_refl _)).below (ba _ (.cells #[.slice none 0 0, .slice none 0 0, .int .i64 0] 26))
  have Z0 := BxZ.new (B := w.heap.size) (w.alloc (.cells #[.slice ka s.kept.length kc, .slice la s.late.length lc, .int .i64 s.lock] 26)) [.slice none 0 0, .slice none 0 0, .int .i64 0] 26 (by simp)
  have B0 := belowThen (ba w (.cells #[.slice ka s.kept.length kc, .slice la s.late.length lc, .int .i64 s.lock] 26)) (ba _ (.cells #[.slice none 0 0, .slice none 0 0, .int .i64 0] 26))
  have e1 : (w.alloc (.cells #[.slice ka s.kept.length kc, .slice la s.late.length lc, .int .i64 s.lock] 26)).heap.size = w.heap.size + 1 := by simp
  rw [e1] at Z0
  clear e1
  clear X0
  go_enter Try.func11, Try.ntmps11
  go_wp2_with fail
  generalize (w.alloc (.cells #[.slice ka s.kept.length kc, .slice la s.late.length lc, .int .i64 s.lock] 26)).alloc (.cells #[.slice none 0 0, .slice none 0 0, .int .i64 0] 26) = w0 at *
  have hsz := B0.size
  refine (dUnhide C1 _ B0).mono ?_
  rintro r w4 ⟨⟨u, rfl, O4⟩, b4⟩
  obtain ⟨ka4, kc4, la4, lc4, rfl⟩ := O4.shape
  have Z4 := Z0.below b4
  obtain ⟨z0, f0⟩ := Z4.2 0 _ rfl
  obtain ⟨z1, f1⟩ := Z4.2 1 _ rfl
  obtain ⟨z2, f2⟩ := Z4.2 2 _ rfl
  obtain ⟨hx, hO⟩ := OwS.into O4 Z0.lt Z4
  have BB := dHide (below_three (rb := w.heap.size + 1) (belowThen B0 b4) (by omega) (.slice ka4 m.kept.length kc4) (.slice la4 m.late.length lc4) (.int .i64 m.lock))
  have HX := dHide hx
  have HO := dHide (hO.mono (base' := w.heap.size) B0.size)
  clear O4 Z4 hx hO b4 Z0 
  go_wp2
  generalize ((w4.setCell ⟨w.heap.size + 1, 0, none⟩ (.slice ka4 m.kept.length kc4)).setCell ⟨w.heap.size + 1, 1, none⟩ (.slice la4 m.late.length lc4)).setCell ⟨w.heap.size + 1, 2, none⟩ (.int .i64 m.lock) = V at *
  have q0 := dUnhide HX 0 _ rfl
  have q1 := dUnhide HX 1 _ rfl
  have q2 := dUnhide HX 2 _ rfl
  clear z0 z1 z2 f0 f1 f2
  refine bodyPost_ret (v := .tuple #[.agg #[.slice ka4 m.kept.length kc4, .slice la4 m.late.length lc4, .int .i64 m.lock], .bool mb]) (by simp [results, Try.results11, go_sem, q0, q1, q2]) rfl ⟨⟨_, rfl, dUnhide HO⟩, dUnhide BB⟩
end Go.Proofs.Ytejmfohkobhidaa
