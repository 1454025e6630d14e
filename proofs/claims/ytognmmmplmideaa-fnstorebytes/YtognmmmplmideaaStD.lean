/- spec's l6Copy, l6Takes. -/
import Derived.Test.YtognmmmplmideaaBuE
import Derived.Deep.RegionHeld3
import Derived.Deep.DeepCutAuto
namespace Go.Proofs.Ytognmmmplmideaa
open Go.ChangeShapes Go.WideShapes Go.ChangeAt Go.RowKit
set_option linter.unusedVariables false
set_option linter.unusedSimpArgs false
set_option maxRecDepth 100000

/-- Entries that may be appended to. -/
abbrev ApE (w : World) (base : Nat) (v : Value) (es : List Ent) : Prop := ApR 66 4 Ent.cl w base v es
/-- A store whose lists may be appended to. -/
def OwS (w : World) (base : Nat) (v : Value) (s : St) : Prop := ∃ kv lv, v = .agg #[kv, lv, .int .i64 s.lock] ∧ ApE w base kv s.kept ∧ ApE w base lv s.late ∧ (touch kv = none ∨ touch kv ≠ touch lv)
theorem OwS.rs {w : World} {base : Nat} {v : Value} {s : St} (h : OwS w base v s) : Rs w v s := by
  obtain ⟨kv, lv, h1, h2, h3, -⟩ := h
  exact ⟨kv, lv, h1, (ApR.own elemE h2).rw, (ApR.own elemE h3).rw⟩
theorem OwS.below {w w' : World} {base : Nat} {v : Value} {s : St} (h : OwS w base v s) (hb : Below w.heap.size w w') : OwS w' base v s := by
  obtain ⟨kv, lv, h1, h2, h3, h4⟩ := h
  exact ⟨kv, lv, h1, h2.below hb, h3.below hb, h4⟩
theorem OwS.mono {w : World} {base base' : Nat} {v : Value} {s : St} (h : OwS w base v s) (hb : base' ≤ base) : OwS w base' v s := by
  obtain ⟨kv, lv, h1, h2, h3, h4⟩ := h
  exact ⟨kv, lv, h1, h2.mono hb, h3.mono hb, h4⟩
set_option maxHeartbeats 4000000 in
theorem l6Copy_any (v : Value) (s : St) (w : World) (hv : Rs w v s) (hk : s.kept.length ≤ 1048576) (hl : s.late.length ≤ 1048576) :
    Calls Try.prog 102 #[v] w fun e w' => (∃ u, e = .returned u ∧ OwS w' w.heap.size u s) ∧ Below w.heap.size w w' := by
  obtain ⟨kv, lv, rfl, rk, rl⟩ := hv
  have HK := dHide fun W (hb : Below w.heap.size w W) => rk.below hb
  have HL := dHide fun W (hb : Below w.heap.size w W) => rl.below hb
  obtain ⟨-, ka, kc, rfl, -, -⟩ := rk
  obtain ⟨-, la, lc, rfl, -, -⟩ := rl
  have EX : Hid (∀ (W : World) a b, ApE W w.heap.size a s.kept → ApE W w.heap.size b s.late → (touch a = none ∨ touch a ≠ touch b) → OwS W w.heap.size (.agg #[a, b, .int .i64 s.lock]) s) := fun W a b h1 h2 h3 => ⟨a, b, rfl, h1, h2, h3⟩
  generalize s.lock = sl at *
  have ba : ∀ (w : World) o, Below w.heap.size w (w.alloc o) := fun w o => (Below.refl _ _).alloc (Nat.le_refl _) o
  go_enter Try.func102, Try.ntmps102
  go_wp2_with fail
  have X0 := BxZ.new w [.slice ka s.kept.length kc, .slice la s.late.length lc, .int .i64 sl] 26 (Nat.le_refl _)
  have X1 := X0.below (ba _ (.cells #[.slice none 0 0, .slice none 0 0, .int .i64 0] 26))
  have Z1 := BxZ.new (B := w.heap.size) (w.alloc (.cells #[.slice ka s.kept.length kc, .slice la s.late.length lc, .int .i64 sl] 26)) [.slice none 0 0, .slice none 0 0, .int .i64 0] 26 (by simp)
  have B1 := belowThen (ba w (.cells #[.slice ka s.kept.length kc, .slice la s.late.length lc, .int .i64 sl] 26)) (ba _ (.cells #[.slice none 0 0, .slice none 0 0, .int .i64 0] 26))
  have e1 : (w.alloc (.cells #[.slice ka s.kept.length kc, .slice la s.late.length lc, .int .i64 sl] 26)).heap.size = w.heap.size + 1 := by simp
  rw [e1] at Z1
  clear X0 e1
  generalize hW : (w.alloc (.cells #[.slice ka s.kept.length kc, .slice la s.late.length lc, .int .i64 sl] 26)).alloc (.cells #[.slice none 0 0, .slice none 0 0, .int .i64 0] 26) = w0 at *
  clear hW
  have HX := dHide X1
  have HZ := dHide Z1
  have k0 := (X1.2 0 _ rfl).1
  have k1 := (X1.2 1 _ rfl).1
  have k2 := (X1.2 2 _ rfl).1
  have hlt := Z1.lt
  clear X1 Z1
  have HK0 := dHide fun W (hb : Below w0.heap.size w0 W) => dUnhide HK W (belowThen B1 hb)
  have HL0 := dHide fun W (hb : Below w0.heap.size w0 W) => dUnhide HL W (belowThen B1 hb)
  have hb1 : Below w0.heap.size w0 (w0.drew.alloc (.cells #[] 66)) := belowThen (Below.refl _ _).drew (ba _ _)
  have hb2 : Below w0.heap.size w0 ((w0.drew.alloc (.cells #[] 66)).alloc (.cells #[] 66)) := belowThen hb1 (ba _ _)
  clear HK HL
  go_region_held3 (fun W => W.cell? ⟨w.heap.size, 0, none⟩ = some (.slice ka s.kept.length kc) ∧ W.cell? ⟨w.heap.size, 1, none⟩ = some (.slice la s.late.length lc) ∧ W.cell? ⟨w.heap.size, 2, none⟩ = some (.int .i64 sl)) (first | exact ⟨set_other (set_other (set_other q0 (.inl (by omega))) (.inl (by omega))) (.inl (by omega)), set_other (set_other (set_other q1 (.inl (by omega))) (.inl (by omega))) (.inl (by omega)), set_other (set_other (set_other q2 (.inl (by omega))) (.inl (by omega))) (.inl (by omega))⟩ | exact ⟨q0, q1, q2⟩ | exact ⟨p0, p1, p2⟩ | go_keep)
    (first
      | (refine step_cpR elemE rfl _ _ rfl _ rfl _ s.late rfl (dUnhide HL0 _ (by first | exact hb5 | exact belowThen hb5 (ba _ _))) (by omega) ?_; intro v6 w6 P6 b6; have hb56 : Below w5.heap.size w5 w6 := by first | exact b6 | exact belowThen (ba _ _) b6
         have hb6 := belowThen hb5 hb56; have HT6 := dHide (touch_ne elemE P5 P6 (by simp <;> omega)); have HP5 := dHide ((P5.below hb56).mono (base' := w0.heap.size) (by have := hb1.size; have := hb2.size; simp <;> omega)); have q0 := ((dUnhide HX).below hb6 |>.2 0 _ rfl).1; have q1 := ((dUnhide HX).below hb6 |>.2 1 _ rfl).1; have q2 := ((dUnhide HX).below hb6 |>.2 2 _ rfl).1; obtain ⟨z0, f0⟩ := ((dUnhide HZ).below hb6).2 0 _ rfl; obtain ⟨z1, f1⟩ := ((dUnhide HZ).below hb6).2 1 _ rfl; obtain ⟨z2, f2⟩ := ((dUnhide HZ).below hb6).2 2 _ rfl; have HP6 := dHide (P6.mono (base' := w0.heap.size) (by have := hb5.size; simp <;> omega)); obtain ⟨a6, c6, rfl⟩ := ApR.slice elemE P6; clear P6 b6 hb56 P5)
      | (refine step_cpR elemE rfl _ _ rfl _ rfl _ s.kept rfl (dUnhide HK0 _ (by first | exact hb1 | exact hb2)) (by omega) ?_; intro v5 w5 P5 b5; have hb5 : Below w0.heap.size w0 w5 := by first | exact belowThen hb1 b5 | exact belowThen hb2 b5
         have p0 := ((dUnhide HX).below hb5 |>.2 0 _ rfl).1; have p1 := ((dUnhide HX).below hb5 |>.2 1 _ rfl).1; have p2 := ((dUnhide HX).below hb5 |>.2 2 _ rfl).1; obtain ⟨a5, c5, rfl⟩ := ApR.slice elemE P5; clear b5))
  all_goals
    have BB := (((belowThen B1 hb6).setCell (p := ⟨w.heap.size + 1, 0, none⟩) (Nat.le_succ _) (.slice a5 s.kept.length c5)).setCell (p := ⟨w.heap.size + 1, 1, none⟩) (Nat.le_succ _) (.slice a6 s.late.length c6)).setCell (p := ⟨w.heap.size + 1, 2, none⟩) (Nat.le_succ _) (.int .i64 sl)
    have ZZ := ((((dUnhide HZ).below hb6).put 0 (.slice a5 s.kept.length c5)).put 1 (.slice a6 s.late.length c6)).put 2 (.int .i64 sl)
    have e0 := (ZZ.2 0 _ rfl).1
    have e1 := (ZZ.2 1 _ rfl).1
    have e2 := (ZZ.2 2 _ rfl).1
    have OO := dHide (dUnhide EX _ _ _ (((ApR.far elemE (ApR.far elemE (ApR.far elemE (dUnhide HP5) (b := w.heap.size + 1) (o' := 0) (by omega) (.slice a5 s.kept.length c5)) (b := w.heap.size + 1) (o' := 1) (by omega) (.slice a6 s.late.length c6)) (b := w.heap.size + 1) (o' := 2) (by omega) (.int .i64 sl))).mono B1.size) (((ApR.far elemE (ApR.far elemE (ApR.far elemE (dUnhide HP6) (b := w.heap.size + 1) (o' := 0) (by omega) (.slice a5 s.kept.length c5)) (b := w.heap.size + 1) (o' := 1) (by omega) (.slice a6 s.late.length c6)) (b := w.heap.size + 1) (o' := 2) (by omega) (.int .i64 sl))).mono B1.size) (dUnhide HT6))
    clear ZZ HP5 HP6 HT6 z0 z1 z2 f0 f1 f2 q0 q1 q2 p0 p1 p2 k0 k1 k2 EX HZ HX HK0 HL0 hb1 hb2
    generalize (((w6.setCell ⟨w.heap.size + 1, 0, none⟩ (.slice a5 s.kept.length c5)).setCell ⟨w.heap.size + 1, 1, none⟩ (.slice a6 s.late.length c6)).setCell ⟨w.heap.size + 1, 2, none⟩ (.int .i64 sl)) = V at *
    go_wp2
    refine bodyPost_ret (v := .agg #[.slice a5 s.kept.length c5, .slice a6 s.late.length c6, .int .i64 sl]) (by simp [results, Try.results102, go_sem, e0, e1, e2]) rfl ⟨⟨_, rfl, dUnhide OO⟩, BB⟩
end Go.Proofs.Ytognmmmplmideaa
