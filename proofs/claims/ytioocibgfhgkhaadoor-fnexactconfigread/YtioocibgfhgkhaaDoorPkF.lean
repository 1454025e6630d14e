/- Records as bytes: spec's ConfigRead. -/
import Derived.Test.YtioocibgfhgkhaaDoorPkE
import Derived.Test.YtioocibgfhgkhaaDoorGaC
import Derived.Test.YtioocibgfhgkhaaDoorGaA
import Derived.Deep.RegionHeld3
import Derived.Deep.DeepCutAuto
namespace Go.Proofs.YtioocibgfhgkhaaDoor
open Go.ChangeShapes Go.WideShapes Go.ChangeAt Go.RowKit
set_option linter.unusedVariables false
set_option linter.unusedSimpArgs false
set_option maxRecDepth 100000

open Classical in
/-- ConfigRead. -/
noncomputable def cfgR (bs : List UInt8) : List Int × Int × Bool :=
  if endB bs (rdN bs (rdL bs 0 true).2.1 (rdL bs 0 true).2.2).2.1 (rdN bs (rdL bs 0 true).2.1 (rdL bs 0 true).2.2).2.2 = true ∧ cfgP (rdL bs 0 true).1 (rdN bs (rdL bs 0 true).2.1 (rdL bs 0 true).2.2).1 then ((rdL bs 0 true).1, (rdN bs (rdL bs 0 true).2.1 (rdL bs 0 true).2.2).1, true) else ([], 0, false)
theorem rdK_le (bs : List UInt8) (n q : Nat) (ok : Bool) (hq : q ≤ bs.length) : (rdK bs n q ok).2.1 ≤ bs.length := by
  induction n generalizing q ok with
  | zero => exact hq
  | succ n ih =>
    cases ok
    · exact hq
    · rw [rdK_succ]
      exact ih _ _ (rdN_step hq).2.2.1
theorem rdN_le (bs : List UInt8) (q : Nat) (ok : Bool) (hq : q ≤ bs.length) : (rdN bs q ok).2.1 ≤ bs.length := by
  cases ok
  · exact hq
  · exact (rdN_step hq).2.2.1
theorem rdL_le (bs : List UInt8) (q : Nat) (ok : Bool) (hq : q ≤ bs.length) : (rdL bs q ok).2.1 ≤ bs.length := rdK_le _ _ _ _ (rdN_le _ _ _ hq)
theorem OwnN.setNe17 {w : World} {lo b o : Nat} {v : Value} {xs : List Int} (h : OwnN w lo v xs) (hb : xs = [] ∨ blockOf v ≠ b) (u : Value) : OwnN (w.setCell ⟨b, o, none⟩ u) lo v xs := by
  obtain ⟨h0, a, cap, rfl, hcap, h⟩ := h
  refine ⟨h0, a, cap, rfl, hcap, ?_⟩
  rcases h with h | ⟨g, off, rfl, hg, hc⟩
  · exact .inl h
  · rcases hb with hb | hb
    · exact .inl hb
    · exact .inr ⟨g, off, rfl, hg, fun i hi => ⟨set_other (hc i hi).1 (.inl hb), (World.frozen?_setCell _ _ _ _).trans (hc i hi).2⟩⟩
theorem OwnN.ne17 {w : World} {lo : Nat} {v : Value} {xs : List Int} (h : OwnN w lo v xs) : xs = [] ∨ blockOf v ≠ w.heap.size := by
  obtain ⟨h0, a, cap, rfl, hcap, h⟩ := h
  rcases h with h | ⟨g, off, rfl, hg, hc⟩
  · exact .inl h
  · cases xs with
    | nil => exact .inl rfl
    | cons x xs =>
      have := dCell_lt (hc 0 (by simp)).1
      exact .inr (by simp only [blockOf] at this ⊢; omega)
theorem OwnN.drawn17 {bk : Nat} {w w' : World} {base : Nat} {v : Value} {xs : List Int} (h : OwnN w base v xs) (hd : Drawn bk w w') (hb : bk < base) : OwnN w' base v xs := by
  obtain ⟨h0, a, cap, rfl, hcap, h⟩ := h
  refine ⟨h0, a, cap, rfl, hcap, ?_⟩
  rcases h with h | ⟨b, off, rfl, hg, hc⟩
  · exact .inl h
  · exact .inr ⟨b, off, rfl, hg, fun i hi => ⟨hd.cell (hc i hi).1 (by omega), (hd.frozen (by omega) (dCell_lt (hc i hi).1)).trans (hc i hi).2⟩⟩
theorem below_two17 {B b : Nat} {w w' : World} (hb : Below B w w') (h : B ≤ b) (u v : Value) : Below B w ((w'.setCell ⟨b, 0, none⟩ u).setCell ⟨b, 1, none⟩ v) := (hb.setCell (p := ⟨b, 0, none⟩) h u).setCell (p := ⟨b, 1, none⟩) h v
theorem BxZ.two17 {w : World} {B b : Nat} {p q : Value} (h : BxZ w B b [p, q]) (u v : Value) : Bx ((w.setCell ⟨b, 0, none⟩ u).setCell ⟨b, 1, none⟩ v) b [u, v] := ((h.put 0 u).put 1 v).bx
theorem Bs.ne17 {w : World} {v : Value} {bs : List UInt8} (h : Bs w v bs) : bs = [] ∨ blockOf v ≠ w.heap.size + 1 := by
  by_cases e : bs = []
  · exact .inl e
  · exact .inr (by have := h.lt e; omega)
theorem cfgR_yes (bs : List UInt8) (h : endB bs (rdN bs (rdL bs 0 true).2.1 (rdL bs 0 true).2.2).2.1 (rdN bs (rdL bs 0 true).2.1 (rdL bs 0 true).2.2).2.2 = true ∧ cfgP (rdL bs 0 true).1 (rdN bs (rdL bs 0 true).2.1 (rdL bs 0 true).2.2).1) : cfgR bs = ((rdL bs 0 true).1, (rdN bs (rdL bs 0 true).2.1 (rdL bs 0 true).2.2).1, true) := if_pos h
theorem cfgR_no (bs : List UInt8) (h : ¬ (endB bs (rdN bs (rdL bs 0 true).2.1 (rdL bs 0 true).2.2).2.1 (rdN bs (rdL bs 0 true).2.1 (rdL bs 0 true).2.2).2.2 = true ∧ cfgP (rdL bs 0 true).1 (rdN bs (rdL bs 0 true).2.1 (rdL bs 0 true).2.2).1)) : cfgR bs = ([], 0, false) := if_neg h
set_option maxHeartbeats 4000000 in
theorem specConfigRead_any (v : Value) (bs : List UInt8) (w : World) (hv : Bs w v bs) (hl : bs.length ≤ 1048576) :
    Calls Tryd.prog 5 #[v] w fun e w' => (∃ u, e = .returned (.tuple #[.agg #[u, .int .i64 (cfgR bs).2.1], .bool (cfgR bs).2.2]) ∧ OwnN w' w.heap.size u (cfgR bs).1) ∧ Below w.heap.size w w' := by
  have ba : ∀ (w : World) o, Below w.heap.size w (w.alloc o) := fun w o => (Below.refl _ _).alloc (Nat.le_refl _) o
  have hv0 := hv
  obtain ⟨-, a, cap, rfl, -⟩ := hv0
  have hne := hv.ne17
  have B0 := belowThen (ba w (.cells #[.slice none 0 0, .int .i64 0] 25)) (ba _ (.cells #[.slice a bs.length cap, .int .i64 0, .bool true] 43))
  have C0 : Cu ((w.alloc (.cells #[.slice none 0 0, .int .i64 0] 25)).alloc (.cells #[.slice a bs.length cap, .int .i64 0, .bool true] 43)) w.heap.size (w.heap.size + 1) (.slice a bs.length cap) 0 true := by
    have := BxZ.new (B := w.heap.size) (w.alloc (.cells #[.slice none 0 0, .int .i64 0] 25)) [.slice a bs.length cap, .int .i64 0, .bool true] 43 (by simp)
    simpa [Cu] using this
  have R0 : BxZ ((w.alloc (.cells #[.slice none 0 0, .int .i64 0] 25)).alloc (.cells #[.slice a bs.length cap, .int .i64 0, .bool true] 43)) w.heap.size w.heap.size [.slice none 0 0, .int .i64 0] := (BxZ.new (B := w.heap.size) w [.slice none 0 0, .int .i64 0] 25 (Nat.le_refl _)).below (ba _ _)
  have e3 : ((w.alloc (.cells #[.slice none 0 0, .int .i64 0] 25)).alloc (.cells #[.slice a bs.length cap, .int .i64 0, .bool true] 43)).heap.size = w.heap.size + 2 := by simp
  have V0 := hv.below B0
  have EY : Hid (_ → _) := cfgR_yes bs
  have EN : Hid (_ → _) := cfgR_no bs
  generalize cfgR bs = CR at *
  go_enter Tryd.func5, Tryd.ntmps5
  go_wp2_with fail
  have hl0 := rdL_le bs 0 true (Nat.zero_le _)
  generalize (w.alloc (.cells #[.slice none 0 0, .int .i64 0] 25)).alloc (.cells #[.slice a bs.length cap, .int .i64 0, .bool true] 43) = w0 at *
  have C1 := specNums17_any w.heap.size (w.heap.size + 1) _ bs 0 true w0 C0 V0 hl (Nat.zero_le _) hne
  refine C1.mono ?_
  rintro e w1 ⟨⟨u, rfl, O1⟩, c1, d1⟩
  have V1 := V0.drawn d1 hne
  have hs1 := d1.size
  have R1 := R0.drawn d1 (by omega)
  generalize rdL bs 0 true = L at *
  obtain ⟨ds, q1, ok1⟩ := L
  simp only at hl0 O1 c1 EY EN
  obtain ⟨-, ua, uc, rfl, -⟩ := O1.bs
  have hX := BxZ.new (B := w.heap.size) w1 [.slice ua ds.length uc, .int .i64 0] 25 (by omega)
  have B1 : Below w.heap.size w w1 := d1.below B0 (by omega) (by omega)
  have hn1 := rdN_le bs q1 ok1 hl0
  have bX := ba w1 (.cells #[.slice ua ds.length uc, .int .i64 0] 25)
  have c1' := BxZ.below c1 bX
  have C2 := specNum17_any w.heap.size (w.heap.size + 1) _ bs q1 ok1 _ c1' (V1.below bX) hl
  have V2 := V1.below bX
  have B2 := belowThen B1 bX
  have O2 := O1.below bX
  have hs2 := bX.size
  have R2 := R1.below bX
  have hnu : ds = [] ∨ blockOf (.slice ua ds.length uc) ≠ w1.heap.size := O1.ne17
  clear C1 C0 V0 B0 c1 c1' V1 d1 B1 O1 bX hv R0 R1
  go_wp2_with fail
  generalize hx : w1.alloc (.cells #[.slice ua ds.length uc, .int .i64 0] 25) = w2 at *
  refine C2.mono ?_
  rintro e w3 ⟨rfl, c3, d3⟩
  have V3 := V2.drawn d3 hne
  have hs3 := d3.size
  have R3 := R2.drawn d3 (by omega)
  generalize rdN bs q1 ok1 = R at *
  obtain ⟨y, q2, ok2⟩ := R
  simp only at hn1 c3 EY EN
  have X3 := hX.drawn d3 (by omega)
  have O3 := O2.drawn17 d3 (by omega)
  have B3 : Below w.heap.size w w3 := d3.below B2 (by omega) (by omega)
  obtain ⟨g0, g1⟩ := X3.2 1 _ rfl
  have X4 := X3.put 1 (.int .i64 y)
  have c4 := BxZ.far (b' := w1.heap.size) (o := 1) c3 (by omega) (.int .i64 y)
  have O4 := O3.setNe17 hnu (o := 1) (.int .i64 y)
  have R4 := dHide (R3.far (b' := w1.heap.size) (o := 1) (by omega) (.int .i64 y))
  have B4 := B3.setCell (p := ⟨w1.heap.size, 1, none⟩) (by simp only; omega) (.int .i64 y)
  clear C2 hX V2 O2 B2 X3 c3 O3 B3 d3 hx R2 R3
  have CE := specEnd17_any w.heap.size (w.heap.size + 1) _ bs q2 ok2 _ w3 c4 V3
  have Z4 := X4.bx
  have HX4 := dHide Z4
  clear c4 V3 X4
  by_cases hok : endB bs q2 ok2 = true
  · rw [hok] at CE
    have CC := dHide fun W (hb : Below (w3.setCell ⟨w1.heap.size, 1, none⟩ (.int .i64 y)).heap.size (w3.setCell ⟨w1.heap.size, 1, none⟩ (.int .i64 y)) W) => specCfg_any (.slice ua ds.length uc) ds y W (O4.below hb).bs
    have HO := dHide fun W (hb : Below (w3.setCell ⟨w1.heap.size, 1, none⟩ (.int .i64 y)).heap.size (w3.setCell ⟨w1.heap.size, 1, none⟩ (.int .i64 y)) W) => O4.below hb
    clear O4 Z4
    go_wp2_with fail
    clear g0 g1
    generalize w3.setCell ⟨w1.heap.size, 1, none⟩ (.int .i64 y) = w4 at *
    refine CE.mono ?_
    rintro e w5 ⟨rfl, b5⟩
    have C6 := dUnhide CC w5 b5
    have B5 := belowThen B4 b5
    have Z5 := (dUnhide HX4).below b5
    have O5 := dHide (dUnhide HO w5 b5)
    have z0 := Z5 0 _ rfl
    have z1 := Z5 1 _ rfl
    have HZ5 := dHide Z5
    have R5 := dHide ((dUnhide R4).below b5)
    clear CE CC HO HX4 Z5 B4 b5 R4
    go_wp2_with fail
    refine C6.mono ?_
    rintro e w6 ⟨hr6, b6⟩
    have B6 := belowThen B5 b6
    have O6 := dHide ((dUnhide O5).below b6)
    have Z6 := (dUnhide HZ5).below b6
    have z0' := Z6 0 _ rfl
    have z1' := Z6 1 _ rfl
    have R6 := (dUnhide R5).below b6
    obtain ⟨r0, f0⟩ := R6.2 0 _ rfl
    obtain ⟨r1, f1⟩ := R6.2 1 _ rfl
    have OF : ∀ x z, OwnN ((w6.setCell ⟨w.heap.size, 0, none⟩ x).setCell ⟨w.heap.size, 1, none⟩ z) w.heap.size (.slice ua ds.length uc) ds := fun x z => (((dUnhide O6).far (b := w.heap.size) (o := 0) (by omega) x).far (b := w.heap.size) (o := 1) (by omega) z).mono (by omega)
    have OF := dHide OF
    have BF := dHide fun x z => below_two17 B6 (Nat.le_refl w.heap.size) x z
    have RF := dHide fun x z => R6.two17 x z
    clear C6 O5 HZ5 B5 z0 z1 Z6 R5 R6 O6 B6
    by_cases hp : cfgP ds y
    · obtain rfl := hr6.of_yes hp
      have eC := dUnhide EY ⟨hok, hp⟩
      subst eC
      clear EY EN hr6
      go_wp2
      generalize hV : (w6.setCell ⟨w.heap.size, 0, none⟩ (.slice ua ds.length uc)).setCell ⟨w.heap.size, 1, none⟩ (.int .i64 y) = V at *
      have o := dUnhide OF (.slice ua ds.length uc) (.int .i64 y)
      have b := dUnhide BF (.slice ua ds.length uc) (.int .i64 y)
      have r := dUnhide RF (.slice ua ds.length uc) (.int .i64 y)
      rw [hV] at o b r
      have q0 := r 0 _ rfl
      have q1 := r 1 _ rfl
      exact bodyPost_ret (v := .tuple #[.agg #[.slice ua ds.length uc, .int .i64 y], .bool true]) (by simp [results, Tryd.results5, go_sem, q0, q1]) rfl ⟨⟨_, rfl, o⟩, b⟩
    · obtain rfl := hr6.of_no hp
      have eC := dUnhide EN (fun h => hp h.2)
      subst eC
      clear EY EN hr6 OF
      go_wp2
      generalize hV : (w6.setCell ⟨w.heap.size, 0, none⟩ (.slice none 0 0)).setCell ⟨w.heap.size, 1, none⟩ (.int .i64 0) = V at *
      have b := dUnhide BF (.slice none 0 0) (.int .i64 0)
      have r := dUnhide RF (.slice none 0 0) (.int .i64 0)
      rw [hV] at b r
      have q0 := r 0 _ rfl
      have q1 := r 1 _ rfl
      exact bodyPost_ret (v := .tuple #[.agg #[.slice none 0 0, .int .i64 0], .bool false]) (by simp [results, Tryd.results5, go_sem, q0, q1]) rfl ⟨⟨_, rfl, by simp, _, _, rfl, by simp, .inl rfl⟩, b⟩
  · rw [Bool.not_eq_true] at hok
    have eC := dUnhide EN (fun h => by rw [hok] at h; exact absurd h.1 (by simp))
    subst eC
    rw [hok] at CE
    clear EY EN O4 HX4 Z4
    go_wp2_with fail
    clear g0 g1
    generalize w3.setCell ⟨w1.heap.size, 1, none⟩ (.int .i64 y) = w4 at *
    refine CE.mono ?_
    rintro e w5 ⟨rfl, b5⟩
    have B5 := belowThen B4 b5
    have R5 := (dUnhide R4).below b5
    obtain ⟨r0, f0⟩ := R5.2 0 _ rfl
    obtain ⟨r1, f1⟩ := R5.2 1 _ rfl
    have BF := dHide fun x z => below_two17 B5 (Nat.le_refl w.heap.size) x z
    have RF := dHide fun x z => R5.two17 x z
    clear CE R4 R5 B5 B4
    go_wp2
    generalize hV : (w5.setCell ⟨w.heap.size, 0, none⟩ (.slice none 0 0)).setCell ⟨w.heap.size, 1, none⟩ (.int .i64 0) = V at *
    have b := dUnhide BF (.slice none 0 0) (.int .i64 0)
    have r := dUnhide RF (.slice none 0 0) (.int .i64 0)
    rw [hV] at b r
    have q0 := r 0 _ rfl
    have q1 := r 1 _ rfl
    exact bodyPost_ret (v := .tuple #[.agg #[.slice none 0 0, .int .i64 0], .bool false]) (by simp [results, Tryd.results5, go_sem, q0, q1]) rfl ⟨⟨_, rfl, by simp, _, _, rfl, by simp, .inl rfl⟩, b⟩
end Go.Proofs.YtioocibgfhgkhaaDoor
