/- The laws' helpers toConfig, markConfig. -/
import Derived.Test.YtognmmmplmideaaDomH
namespace Go.Proofs.Ytognmmmplmideaa
open Go.ChangeShapes Go.WideShapes Go.ChangeAt Go.RowKit
set_option linter.unusedVariables false

/-- Two cells of block b, from block B on, that may be written. -/
def TwoZ (w : World) (B b : Nat) (c0 c1 : Value) : Prop := B ≤ b ∧ Two w b c0 c1 ∧ w.frozen? ⟨b, 0, none⟩ = false ∧ w.frozen? ⟨b, 1, none⟩ = false
theorem TwoZ.kept {w w' : World} {B b : Nat} {c0 c1 : Value} (h : TwoZ w B b c0 c1) (hb : Below w.heap.size w w') : TwoZ w' B b c0 c1 := by
  obtain ⟨h0, h1, f0, f1⟩ := h
  have lt := dCell_lt h1.1
  exact ⟨h0, h1.kept hb, (hb.frozen (p := ⟨b, 0, none⟩) lt).trans f0, (hb.frozen (p := ⟨b, 1, none⟩) lt).trans f1⟩
theorem TwoZ.drawn {w w' : World} {bk B b : Nat} {c0 c1 : Value} (h : TwoZ w B b c0 c1) (hd : Drawn bk w w') (hb : b ≠ bk) : TwoZ w' B b c0 c1 := by
  obtain ⟨h0, ⟨k0, k1⟩, f0, f1⟩ := h
  have lt := dCell_lt k0
  exact ⟨h0, ⟨hd.cell k0 hb, hd.cell k1 hb⟩, (hd.frozen hb lt).trans f0, (hd.frozen hb lt).trans f1⟩
theorem TwoZ.fresh (w : World) (c0 c1 : Value) (T : TypeId) : TwoZ (w.alloc (.cells #[c0, c1] T)) w.heap.size w.heap.size c0 c1 := ⟨Nat.le_refl _, Two.new w _ _ _, by simp, by simp⟩
theorem TwoZ.put0 {w : World} {B b : Nat} {c0 c1 : Value} (h : TwoZ w B b c0 c1) (v : Value) : TwoZ (w.setCell ⟨b, 0, none⟩ v) B b v c1 := by
  obtain ⟨h0, ⟨k0, k1⟩, f0, f1⟩ := h
  exact ⟨h0, ⟨World.cell?_setCell_same _ _ _ k0, set_other k1 (by omega)⟩, (World.frozen?_setCell _ _ _ _).trans f0, (World.frozen?_setCell _ _ _ _).trans f1⟩
theorem TwoZ.put1 {w : World} {B b : Nat} {c0 c1 : Value} (h : TwoZ w B b c0 c1) (v : Value) : TwoZ (w.setCell ⟨b, 1, none⟩ v) B b c0 v := by
  obtain ⟨h0, ⟨k0, k1⟩, f0, f1⟩ := h
  exact ⟨h0, ⟨set_other k0 (by omega), World.cell?_setCell_same _ _ _ k1⟩, (World.frozen?_setCell _ _ _ _).trans f0, (World.frozen?_setCell _ _ _ _).trans f1⟩
theorem TwoZ.far {w : World} {B b b' o : Nat} {c0 c1 : Value} (h : TwoZ w B b c0 c1) (hb : b ≠ b') (v : Value) : TwoZ (w.setCell ⟨b', o, none⟩ v) B b c0 c1 := by
  obtain ⟨h0, ⟨k0, k1⟩, f0, f1⟩ := h
  exact ⟨h0, ⟨set_other k0 (by omega), set_other k1 (by omega)⟩, (World.frozen?_setCell _ _ _ _).trans f0, (World.frozen?_setCell _ _ _ _).trans f1⟩
/-- Ints in another block stay through a store. -/
theorem OwnN.far {w : World} {base : Nat} {v : Value} {xs : List Int} (h : OwnN w base v xs) {b o : Nat} (hb : b < base) (u : Value) : OwnN (w.setCell ⟨b, o, none⟩ u) base v xs := by
  obtain ⟨h0, a, cap, rfl, hcap, h⟩ := h
  refine ⟨h0, a, cap, rfl, hcap, ?_⟩
  rcases h with h | ⟨g, off, rfl, hg, hc⟩
  · exact .inl h
  · exact .inr ⟨g, off, rfl, hg, fun i hi => ⟨set_other (hc i hi).1 (.inl (by omega)), (World.frozen?_setCell _ _ _ _).trans (hc i hi).2⟩⟩
set_option maxHeartbeats 2000000 in
theorem toConfig_any (sv : Value) (ds : List Int) (cop : Int) (w : World) (hd : Ns w sv ds) (hl : ds.length ≤ 1099511627776) :
    Calls Try.prog 18 #[.agg #[sv, .int .i64 cop]] w fun r w' => (∃ o, r = .returned (.agg #[o, .int .i64 cop]) ∧ OwnN w' w.heap.size o ds) ∧ Below w.heap.size w w' := by
  have ha : ∀ (w : World) o, Below w.heap.size w (w.alloc o) := fun w o => (Below.refl _ _).alloc (Nat.le_refl _) o
  have C1 := dHide fun W (hb : Below w.heap.size w W) => toIntS_any sv ds W hl (hd.below hb)
  obtain ⟨h0, a, cap, rfl, -, -⟩ := hd
  go_enter Try.func18, Try.ntmps18
  go_wp2_with fail
  have X1 := Two.new w (.slice a ds.length cap) (.int .i64 cop) 36
  have s1 : (w.alloc (.cells #[.slice a ds.length cap, .int .i64 cop] 36)).heap.size = w.heap.size + 1 := by simp
  have B1 := ha w (.cells #[.slice a ds.length cap, .int .i64 cop] 36)
  generalize w.alloc (.cells #[.slice a ds.length cap, .int .i64 cop] 36) = w1 at *
  have R2 := TwoZ.fresh w1 (.slice none 0 0) (.int .i64 0) 43
  have X2 := X1.kept (ha w1 (.cells #[.slice none 0 0, .int .i64 0] 43))
  have s2 : (w1.alloc (.cells #[.slice none 0 0, .int .i64 0] 43)).heap.size = w.heap.size + 1 + 1 := by simp [s1]
  have B2 := belowThen B1 (ha w1 (.cells #[.slice none 0 0, .int .i64 0] 43))
  rw [s1] at R2
  generalize w1.alloc (.cells #[.slice none 0 0, .int .i64 0] 43) = w2 at *
  have O3 := TwoZ.fresh w2 (.slice none 0 0) (.int .i64 0) 43
  have X3 := X2.kept (ha w2 (.cells #[.slice none 0 0, .int .i64 0] 43))
  have R3 := R2.kept (ha w2 (.cells #[.slice none 0 0, .int .i64 0] 43))
  have s3 : (w2.alloc (.cells #[.slice none 0 0, .int .i64 0] 43)).heap.size = w.heap.size + 1 + 1 + 1 := by simp [s2]
  have B3 := belowThen B2 (ha w2 (.cells #[.slice none 0 0, .int .i64 0] 43))
  rw [s2] at O3
  generalize w2.alloc (.cells #[.slice none 0 0, .int .i64 0] 43) = w3 at *
  clear X1 X2 R2 B1 B2 ha s1 s2
  refine (dUnhide C1 _ B3).mono ?_
  rintro e w4 ⟨⟨o, rfl, q4⟩, b4⟩
  obtain ⟨x0, x1⟩ := X3.kept b4
  have R4 := R3.kept b4
  have O4 := O3.kept b4
  have B4 := belowThen B3 b4
  rw [s3] at q4
  have hq := dHide q4
  obtain ⟨-, ao, co, rfl, -, -⟩ := q4
  clear X3 R3 O3 B3 b4 C1
  have O5 := O4.put0 (.slice ao ds.length co)
  have R5 := R4.far (b' := w.heap.size + 1 + 1) (o := 0) (by omega) (.slice ao ds.length co)
  have y5 : (w4.setCell ⟨w.heap.size + 1 + 1, 0, none⟩ (.slice ao ds.length co)).cell? ⟨w.heap.size, 1, none⟩ = some (.int .i64 cop) := set_other x1 (.inl (by omega))
  have O6 := O5.put1 (.int .i64 cop)
  have R6 := R5.far (b' := w.heap.size + 1 + 1) (o := 1) (by omega) (.int .i64 cop)
  have R7 := R6.put0 (.slice ao ds.length co)
  have R8 := R7.put1 (.int .i64 cop)
  have q8 := dHide ((((OwnN.far (dUnhide hq) (b := w.heap.size + 1 + 1) (o := 0) (by omega) (.slice ao ds.length co)).far (b := w.heap.size + 1 + 1) (o := 1) (by omega) (.int .i64 cop)).far (b := w.heap.size + 1) (o := 0) (by omega) (.slice ao ds.length co)).far (b := w.heap.size + 1) (o := 1) (by omega) (.int .i64 cop))
  have B8 := dHide ((((B4.setCell (p := ⟨w.heap.size + 1 + 1, 0, none⟩) (show w.heap.size ≤ w.heap.size + 1 + 1 by omega) (.slice ao ds.length co)).setCell (p := ⟨w.heap.size + 1 + 1, 1, none⟩) (show w.heap.size ≤ w.heap.size + 1 + 1 by omega) (.int .i64 cop)).setCell (p := ⟨w.heap.size + 1, 0, none⟩) (show w.heap.size ≤ w.heap.size + 1 by omega) (.slice ao ds.length co)).setCell (p := ⟨w.heap.size + 1, 1, none⟩) (show w.heap.size ≤ w.heap.size + 1 by omega) (.int .i64 cop))
  obtain ⟨-, ⟨o40, o41⟩, g40, g41⟩ := O4
  obtain ⟨-, ⟨o50, o51⟩, g50, g51⟩ := O5
  obtain ⟨-, ⟨o60, o61⟩, g60, g61⟩ := O6
  obtain ⟨-, ⟨r60, r61⟩, f60, f61⟩ := R6
  obtain ⟨-, ⟨r70, r71⟩, f70, f71⟩ := R7
  obtain ⟨-, ⟨r80, r81⟩, -⟩ := R8
  clear R4 R5 B4 hq
  go_wp2
  generalize ((((w4.setCell ⟨w.heap.size + 1 + 1, 0, none⟩ (.slice ao ds.length co)).setCell ⟨w.heap.size + 1 + 1, 1, none⟩ (.int .i64 cop)).setCell ⟨w.heap.size + 1, 0, none⟩ (.slice ao ds.length co)).setCell ⟨w.heap.size + 1, 1, none⟩ (.int .i64 cop)) = V at *
  refine bodyPost_ret (v := .agg #[(.slice ao ds.length co), (.int .i64 cop)]) (by simp [results, Try.results18, go_sem, r80, r81]) rfl ⟨⟨_, rfl, (dUnhide q8).mono (by omega)⟩, dUnhide B8⟩
end Go.Proofs.Ytognmmmplmideaa
