/- A drawn config and list: l4DrawOne, DrawSpanOf. -/
import Derived.Test.YtofklfjomofijaaDrwD
namespace Go.Proofs.Ytofklfjomofijaa
open Go.ChangeShapes Go.WideShapes Go.ChangeAt Go.RowKit
set_option linter.unusedVariables false
set_option linter.unusedSimpArgs false

/-- A config that was drawn, in new memory. -/
def DrewC (B : Nat) (c : Value) (ds : List Int) (cop : Int) (W : World) : Prop := ∃ sv, c = .agg #[sv, .int .i64 cop] ∧ OwnN W B sv ds ∧ ds.length ≤ 9 ∧ allInt ds ∧ 0 ≤ cop ∧ cop ≤ 5
/-- A list that was drawn, in new memory. -/
def DrewL (B : Nat) (u : Value) (zs : List Int) (W : World) : Prop := OwnN W B u zs ∧ zs.length ≤ 20 ∧ allInt zs
theorem DrewC.below {B : Nat} {c : Value} {ds : List Int} {cop : Int} {W W' : World} (h : DrewC B c ds cop W) (b : Below W.heap.size W W') : DrewC B c ds cop W' := by
  obtain ⟨sv, h1, h2, h3⟩ := h; exact ⟨sv, h1, h2.below b, h3⟩
theorem DrewL.below {B : Nat} {u : Value} {zs : List Int} {W W' : World} (h : DrewL B u zs W) (b : Below W.heap.size W W') : DrewL B u zs W' := ⟨h.1.below b, h.2⟩
theorem OwnN.blk {w : World} {base : Nat} {v : Value} {xs : List Int} (h : OwnN w base v xs) : xs = [] ∨ base ≤ blockOf v := by
  obtain ⟨-, a, cap, rfl, -, h⟩ := h
  rcases h with h | ⟨b, off, rfl, hb, hc⟩
  · exact .inl h
  · exact .inr hb
theorem OwnN.drawn {bk : Nat} {w w' : World} {base : Nat} {v : Value} {xs : List Int} (h : OwnN w base v xs) (hd : Drawn bk w w') (hb : bk < base) : OwnN w' base v xs := by
  obtain ⟨h0, a, cap, rfl, hcap, h⟩ := h
  refine ⟨h0, a, cap, rfl, hcap, ?_⟩
  rcases h with h | ⟨b, off, rfl, hbb, hc⟩
  · exact .inl h
  · exact .inr ⟨b, off, rfl, hbb, fun i hi => ⟨hd.cell (hc i hi).1 (by omega), (hd.frozen (by omega) (dCell_lt (hc i hi).1)).trans (hc i hi).2⟩⟩
set_option maxHeartbeats 2000000 in
set_option maxRecDepth 100000 in
theorem l4DrawOne_any (a : Option Addr) (len cap : Nat) (w : World) (hr : Row8 w a len) :
    Calls Try.prog 39 #[.slice a len cap] w fun e w' => (∃ c u ds cop zs, e = .returned (.tuple #[c, u]) ∧ DrewC w.heap.size c ds cop w' ∧ DrewL w.heap.size u zs w') ∧ Below w.heap.size w w' := by
  have ha : ∀ (w : World) o, Below w.heap.size w (w.alloc o) := fun w o => (Below.refl _ _).alloc (Nat.le_refl _) o
  go_enter Try.func39, Try.ntmps39
  go_wp2_with fail
  have Z0 := TwoZ.fresh w (.slice none 0 0) (.int .i64 0) 31
  have hr0 := hr.below (ha w (.cells #[.slice none 0 0, .int .i64 0] 31))
  have B0 := ha w (.cells #[.slice none 0 0, .int .i64 0] 31)
  have hs0 : (w.alloc (.cells #[.slice none 0 0, .int .i64 0] 31)).heap.size = w.heap.size + 1 := by simp
  refine (l1New_any a len cap _ hr0).mono ?_
  rintro e w1 ⟨bk, rfl, hbk, hc1, b1⟩
  have Z1 := Z0.kept b1
  have B1 := belowThen B0 b1
  have hk1 : w.heap.size + 1 ≤ bk := by omega
  have hl1 := hc1.lt
  clear Z0 B0 hr0 hr b1 hs0 hbk
  go_wp2_with fail
  refine (l4Draw_any bk _ hc1).mono ?_
  rintro e w2 ⟨⟨sv, ds, cop, rfl, o2, hdl, hda, c0, c1⟩, hc2, hd2⟩
  have Z2 : TwoZ w2 w.heap.size w.heap.size (.slice none 0 0) (.int .i64 0) := Z1.drawn hd2 (by omega)
  have B2 := hd2.below B1 B1.size (by omega)
  have hs2 := hd2.size
  obtain ⟨-, sa, scap, rfl, -, -⟩ := id o2
  have X3 := TwoZ.fresh w2 (.slice sa ds.length scap) (.int .i64 cop) 31
  have b3 := ha w2 (.cells #[.slice sa ds.length scap, .int .i64 cop] 31)
  have Z3 := Z2.kept b3
  have o3 := o2.below b3
  have hc3 := hc2.below b3
  have B3 := belowThen B2 b3
  have hs3 : (w2.alloc (.cells #[.slice sa ds.length scap, .int .i64 cop] 31)).heap.size = w2.heap.size + 1 := by simp
  clear Z1 B1 hc1 hd2 Z2 o2 hc2 B2
  go_wp2
  generalize w2.alloc (.cells #[.slice sa ds.length scap, .int .i64 cop] 31) = w3 at *
  generalize hbx : w2.heap.size = bx at *
  clear hbx b3
  have HX3 := dHide X3
  have HZ3 := dHide Z3
  obtain ⟨-, ⟨k0, k1⟩, -⟩ := id X3
  obtain ⟨-, ⟨r0, r1⟩, g0, g1⟩ := id Z3
  have hbr : Below w3.heap.size w3 w3.drew := (Below.refl _ _).drew
  go_region_held3 (fun W => W.cell? ⟨bx, 0, none⟩ = some (.slice sa ds.length scap) ∧ W.cell? ⟨bx, 1, none⟩ = some (.int .i64 cop)) (first | exact ⟨set_other (set_other q0 (.inl (by omega))) (.inl (by omega)), set_other (set_other q1 (.inl (by omega))) (.inl (by omega))⟩ | go_keep)
    (first
      | (go_at_call 55; refine (l4DrawNodes_any bk _ ds cop _ (hc3.below hbr) (o3.below hbr).bs hdl).mono ?_; rintro e w4 ⟨⟨u, zs, rfl, o4, hzl, hza⟩, hc4, hd4⟩; have hd4 := (Drawn.of_below (bk := bk) hbr).trans hd4; obtain ⟨-, ⟨q0, q1⟩, -⟩ := (dUnhide HX3).drawn hd4 (by omega); have HZ4 := dHide ((dUnhide HZ3).drawn hd4 (by omega)); obtain ⟨-, ⟨s0, s1⟩, t0, t1⟩ := dUnhide HZ4; have O4 := dHide o4; have D4 := dHide (o3.drawn hd4 (by omega)); have B4 := dHide (hd4.below B3 B3.size (by omega))))
  have C5 : Hid (DrewC w.heap.size (.agg #[.slice sa ds.length scap, .int .i64 cop]) ds cop ((w4.setCell ⟨w.heap.size, 0, none⟩ (.slice sa ds.length scap)).setCell ⟨w.heap.size, 1, none⟩ (.int .i64 cop))) :=
    ⟨_, rfl, (((dUnhide D4).far (b := w.heap.size) (o := 0) (by omega) _).far (b := w.heap.size) (o := 1) (by omega) _).mono (by omega), hdl, (fun d h => by have := hda d h; omega), c0, c1⟩
  have L5 : Hid (DrewL w.heap.size u zs ((w4.setCell ⟨w.heap.size, 0, none⟩ (.slice sa ds.length scap)).setCell ⟨w.heap.size, 1, none⟩ (.int .i64 cop))) :=
    ⟨(((ownN_of_row (dUnhide O4)).far (b := w.heap.size) (o := 0) (by have := B3.size; simp; omega) _).far (b := w.heap.size) (o := 1) (by have := B3.size; simp; omega) _).mono (by have := B3.size; simp; omega), hzl, (fun d h => by have := hza d h; omega)⟩
  obtain ⟨-, ⟨e0, e1⟩, -⟩ := ((dUnhide HZ4).put0 (.slice sa ds.length scap)).put1 (.int .i64 cop)
  have hbe := ((dUnhide B4).setCell (p := ⟨w.heap.size, 0, none⟩) (Nat.le_refl _) (.slice sa ds.length scap)).setCell (p := ⟨w.heap.size, 1, none⟩) (Nat.le_refl _) (.int .i64 cop)
  obtain ⟨ua, un, uc, rfl⟩ := rowN_slice (dUnhide O4)
  clear q0 q1 s0 s1 t0 t1 k0 k1 r0 r1 g0 g1 HZ4 O4 D4 B4 HX3 HZ3
  generalize (w4.setCell ⟨w.heap.size, 0, none⟩ (.slice sa ds.length scap)).setCell ⟨w.heap.size, 1, none⟩ (.int .i64 cop) = V at *
  go_wp2
  refine bodyPost_ret (v := .tuple #[.agg #[.slice sa ds.length scap, .int .i64 cop], .slice ua un uc]) (by simp [results, Try.results39, go_sem, e0, e1]) rfl ⟨⟨_, _, _, _, _, rfl, dUnhide C5, dUnhide L5⟩, hbe⟩
theorem DrewC.far {B : Nat} {c : Value} {ds : List Int} {cop : Int} {W : World} (h : DrewC B c ds cop W) {b o : Nat} (hb : b < B) (u : Value) : DrewC B c ds cop (W.setCell ⟨b, o, none⟩ u) := by
  obtain ⟨sv, h1, h2, h3⟩ := h; exact ⟨sv, h1, h2.far hb u, h3⟩
theorem DrewL.far {B : Nat} {v : Value} {zs : List Int} {W : World} (h : DrewL B v zs W) {b o : Nat} (hb : b < B) (u : Value) : DrewL B v zs (W.setCell ⟨b, o, none⟩ u) := ⟨h.1.far hb u, h.2⟩
theorem DrewC.mono {B B' : Nat} {c : Value} {ds : List Int} {cop : Int} {W : World} (h : DrewC B c ds cop W) (hb : B' ≤ B) : DrewC B' c ds cop W := by
  obtain ⟨sv, h1, h2, h3⟩ := h; exact ⟨sv, h1, h2.mono hb, h3⟩
theorem DrewL.mono {B B' : Nat} {v : Value} {zs : List Int} {W : World} (h : DrewL B v zs W) (hb : B' ≤ B) : DrewL B' v zs W := ⟨h.1.mono hb, h.2⟩
end Go.Proofs.Ytofklfjomofijaa
