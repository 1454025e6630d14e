/- Draws of stores: l6DrawAt. -/
import Derived.Test.YtenpnnocdjakdaaStE
import Derived.Test.YtenpnnocdjakdaaDrawB
import Derived.Deep.RegionHeld3
namespace Go.Proofs.Ytenpnnocdjakdaa
open Go.ChangeShapes Go.WideShapes Go.ChangeAt Go.RowKit
set_option linter.unusedVariables false
set_option linter.unusedSimpArgs false
set_option maxRecDepth 100000

set_option maxHeartbeats 4000000 in
theorem l6DrawAt_any (bk : Nat) (ka la : Option Addr) (kc ln lc : Nat) (lk : Int) (es : List Ent) (w : World) (hc : Cur w bk) (hv : Rw 4 Ent.cl w (.slice ka es.length kc) es) (hne : es = [] ∨ blockOf (.slice ka es.length kc) ≠ bk) (hl : es.length ≤ 1048576) (hf : fitE es) :
    Calls Try.prog 78 #[.pointer (some ⟨bk, 0, none⟩), .agg #[.slice ka es.length kc, .slice la ln lc, .int .i64 lk]] w fun e w' => (∃ x, I64 x ∧ e = .returned (.int .i64 x)) ∧ Cur w' bk ∧ Drawn bk w w' := by
  have ba := (Below.refl w.heap.size w).alloc (Nat.le_refl _) (.cells #[.slice ka es.length kc, .slice la ln lc, .int .i64 lk] 26)
  have hlt := hc.lt
  have BX := Bx.new w [.slice ka es.length kc, .slice la ln lc, .int .i64 lk] 26
  simp only [List.toArray] at BX
  have hc0 := hc.below ba
  have hv0 := hv.below ba
  have hd0 : Drawn bk w _ := Drawn.of_below ba
  clear hc hv ba
  have k0 := BX 0 _ rfl
  by_cases he : (0 : Int) < (es.length : Int)
  · go_enter Try.func78, Try.ntmps78
    go_wp2_with fail
    refine (l1Once_any bk 4 (by omega) (by omega) _ hc0).mono ?_
    rintro e w1 ⟨⟨b, rfl⟩, hc1, hd1⟩
    have hv1 := hv0.drawn hd1 hne
    have BX1 := Bx.drawn BX hd1 (by omega)
    have hd := hd0.trans hd1
    clear k0 BX hv0 hc0 hd1 hd0
    have k0 := BX1 0 _ rfl
    cases b with
    | true =>
      go_wp2_with fail
      refine (l1DrawPlace_any bk _ hc1).mono ?_
      rintro e w2 ⟨⟨x, hx, rfl⟩, hc2, hd2⟩
      clear k0 BX1 hc1 hv1
      go_wp2
      go_ret
      exact ⟨⟨x, hx, rfl⟩, hc2, hd.trans hd2⟩
    | false =>
      obtain ⟨b, off, rfl, -⟩ := hv1.ent (k := 0) (by omega)
      have hbn : b ≠ bk := by
        rcases hne with h | h
        · rw [h] at he; simp at he
        · exact h
      have HV := dHide fun W (hd : Drawn bk w1 W) => hv1.drawn hd (.inr hbn)
      have HB := dHide fun W (hd : Drawn bk w1 W) => (Bx.drawn BX1 hd (by omega)) 0 _ rfl
      have L := dHide (l1Below_any bk es.length (by omega) (by omega))
      have hdr := (Drawn.refl bk w1).drew
      have hc1' := hc1.drewN 1
      clear hv1 hne BX1
      have kE : ∀ i (hi : i < es.length), w1.cell? ⟨b, off + i * 4, none⟩ = some (.int .i64 es[i].pl) := fun i hi => by
        obtain ⟨b9, off9, e9, hc9⟩ := (dUnhide HV w1 (Drawn.refl _ _)).ent hi
        cases e9
        exact (hc9 i hi).1
      have hcd : Cur w1.drew bk := hc1.below (Below.refl _ _).drew
      clear hc1'
      go_wp2_with fail
      go_region_held3 (fun W => W.cell? ⟨w.heap.size, 0, none⟩ = some (.slice (some ⟨b, off, none⟩) es.length kc) ∧ ∀ i (hi : i < es.length), W.cell? ⟨b, off + i * 4, none⟩ = some (.int .i64 es[i].pl)) (first | exact ⟨k5, fun i hi => (hc9 i hi).1⟩ | exact ⟨k0, kE⟩ | go_keep)
        (first
          | (go_at_call 73; refine (dUnhide L _ hcd).mono ?_; rintro r w5 ⟨⟨x, hx, rfl⟩, hc5, hd5⟩; have hd6 := hdr.trans hd5; have k5 := dUnhide HB w5 hd6; obtain ⟨b9, off9, e9, hc9⟩ := (dUnhide HV w5 hd6).ent hx; cases e9; obtain ⟨c0, -, -, -⟩ := hc9 x hx; have hfx := hf _ (List.getElem_mem hx); have hxi : (x : Int) < (es.length : Int) := by omega))
      all_goals
        go_wp2
        go_ret
        exact ⟨⟨_, ⟨hfx.1, hfx.2.1⟩, rfl⟩, hc5, hd.trans hd6⟩
  · go_enter Try.func78, Try.ntmps78
    go_wp2_with fail
    refine (l1DrawPlace_any bk _ hc0).mono ?_
    rintro e w2 ⟨⟨x, hx, rfl⟩, hc2, hd2⟩
    clear k0 BX hc0 hv0
    go_wp2
    go_ret
    exact ⟨⟨x, hx, rfl⟩, hc2, hd0.trans hd2⟩
end Go.Proofs.Ytenpnnocdjakdaa
