/- Several texts in one: RetQ, DrwE, RgI. -/
import Derived.Test.YtjkjmapibcfcdaaGreatGaA
import Derived.Test.YtjkjmapibcfcdaaGreatGz17
import Derived.Test.YtjkjmapibcfcdaaGreatGaC
namespace Go.Proofs.YtjkjmapibcfcdaaGreat
open Go.ChangeShapes Go.WideShapes Go.ChangeAt Go.RowKit
set_option linter.unusedSimpArgs false
set_option linter.unusedVariables false
set_option maxRecDepth 100000
theorem retB_yes {F : Nat} {args : Array Value} {w : World} {p : Prop} (h : Calls Tryz.prog F args w fun e w' => RetB p e ∧ Below w.heap.size w w') (hp : p) : Calls Tryz.prog F args w fun e w' => e = .returned (.bool true) ∧ Below w.heap.size w w' := h.mono fun e w' ⟨h1, h2⟩ => ⟨h1.of_yes hp, h2⟩
theorem retB_no {F : Nat} {args : Array Value} {w : World} {p : Prop} (h : Calls Tryz.prog F args w fun e w' => RetB p e ∧ Below w.heap.size w w') (hp : ¬ p) : Calls Tryz.prog F args w fun e w' => e = .returned (.bool false) ∧ Below w.heap.size w w' := h.mono fun e w' ⟨h1, h2⟩ => ⟨h1.of_no hp, h2⟩
def DrewC (B : Nat) (c : Value) (ds : List Int) (cop : Int) (W : World) : Prop := ∃ sv, c = .agg #[sv, .int .i64 cop] ∧ OwnN W B sv ds ∧ ds.length ≤ 9 ∧ allInt ds ∧ 0 ≤ cop ∧ cop ≤ 5
def DrewL (B : Nat) (u : Value) (zs : List Int) (W : World) : Prop := OwnN W B u zs ∧ zs.length ≤ 20 ∧ allInt zs
theorem DrewC.below {B : Nat} {c : Value} {ds : List Int} {cop : Int} {W W' : World} (h : DrewC B c ds cop W) (b : Below W.heap.size W W') : DrewC B c ds cop W' := by
 obtain ⟨sv, h1, h2, h3⟩ := h; exact ⟨sv, h1, h2.below b, h3⟩
theorem DrewL.below {B : Nat} {u : Value} {zs : List Int} {W W' : World} (h : DrewL B u zs W) (b : Below W.heap.size W W') : DrewL B u zs W' := ⟨h.1.below b, h.2⟩
theorem OwnN.blk {w : World} {base : Nat} {v : Value} {xs : List Int} (h : OwnN w base v xs) : xs = [] ∨ base ≤ bO v := by
 obtain ⟨-, a, cap, rfl, -, h⟩ := h
 rcases h with h | ⟨b, off, rfl, hb, hc⟩
 ·exact .inl h
 ·exact .inr hb
theorem OwnN.drawn {bk : Nat} {w w' : World} {base : Nat} {v : Value} {xs : List Int} (h : OwnN w base v xs) (hd : Drawn bk w w') (hb : bk < base) : OwnN w' base v xs := by
 obtain ⟨h0, a, cap, rfl, hcap, h⟩ := h
 refine ⟨h0, a, cap, rfl, hcap, ?_⟩
 rcases h with h | ⟨b, off, rfl, hbb, hc⟩
 ·exact .inl h
 ·exact .inr ⟨b, off, rfl, hbb, fun i hi => ⟨hd.cell (hc i hi).1 (by omega), (hd.frozen (by omega) (dCell_lt (hc i hi).1)).trans (hc i hi).2⟩⟩
theorem DrewC.far {B : Nat} {c : Value} {ds : List Int} {cop : Int} {W : World} (h : DrewC B c ds cop W) {b o : Nat} (hb : b < B) (u : Value) : DrewC B c ds cop (W.setCell ⟨b, o, none⟩ u) := by
 obtain ⟨sv, h1, h2, h3⟩ := h; exact ⟨sv, h1, h2.far hb u, h3⟩
theorem DrewL.far {B : Nat} {v : Value} {zs : List Int} {W : World} (h : DrewL B v zs W) {b o : Nat} (hb : b < B) (u : Value) : DrewL B v zs (W.setCell ⟨b, o, none⟩ u) := ⟨h.1.far hb u, h.2⟩
theorem DrewC.mono {B B' : Nat} {c : Value} {ds : List Int} {cop : Int} {W : World} (h : DrewC B c ds cop W) (hb : B' ≤ B) : DrewC B' c ds cop W := by
 obtain ⟨sv, h1, h2, h3⟩ := h; exact ⟨sv, h1, h2.mono hb, h3⟩
theorem DrewL.mono {B B' : Nat} {v : Value} {zs : List Int} {W : World} (h : DrewL B v zs W) (hb : B' ≤ B) : DrewL B' v zs W := ⟨h.1.mono hb, h.2⟩
set_option maxHeartbeats 4000000 in
theorem l7DrawSet_any (bk : Nat) (sv : Value) (ds : List Int) (cop : Int) (w : World) (hc : Cur w bk) (hv : Ns w sv ds) (hl : ds.length ≤ 9) (hne : ds = [] ∨ bO sv ≠ bk) :
  Calls Tryz.prog 93 #[.pointer (some ⟨bk, 0, none⟩), .agg #[sv, .int .i64 cop]] w fun e w' => (∃ (u : Value) (zs : List Int), e = .returned u ∧ OwnN w' w.heap.size u zs ∧ zs.length ≤ 40 ∧ (∀ z ∈ zs, -1 ≤ z ∧ z ≤ 9)) ∧ Cur w' bk ∧ Drawn bk w w' := by
 have hlt := hc.lt
 have ba : ∀ (w : World) o, Below w.heap.size w (w.alloc o) := fun w o => (Below.refl _ _).alloc (Nat.le_refl _) o
 have HV := dH hv
 obtain ⟨-, a, cap, rfl, -, -⟩ := hv
 have b0 := ba w (.cells #[.slice a ds.length cap, .int .i64 cop] 26)
 have X0 := Bx.new w [.slice a ds.length cap, .int .i64 cop] 26
 have hc0 := hc.below b0
 have V0 := (dU HV).below b0
 clear hc HV
 go_enter Tryz.func93, Tryz.ntmps93
 go_wp2_with fail
 generalize w.alloc (.cells #[.slice a ds.length cap, .int .i64 cop] 26) = w0 at *
 refine (l4DrawNodes_any bk _ ds cop w0 hc0 V0 hl).mono ?_
 rintro e w1 ⟨⟨u1, zs1, rfl, O1, hz1, A1⟩, hc1, hd1⟩
 have X1 := dH (X0.drawn hd1 (by omega))
 have V1 := dH (V0.drawn hd1 hne)
 have D1 := dH ((Drawn.of_below b0).trans hd1)
 have N1 := dH ((ownN_of_row O1).mono (base' := w.heap.size) b0.size)
 have C1 := dH hc1
 clear X0 V0 hc0 O1 hd1 hc1 hne
 go_wp2
 go_loopw [5, 6] (fun o xi wr => ∃ (k : Nat) (zs : List Int), xi = .int .i64 (k : Int) ∧ k ≤ ds.length ∧ Hid (OwnN wr w.heap.size o zs) ∧ zs.length ≤ 20 + k ∧ Hid (∀ z ∈ zs, -1 ≤ z ∧ z ≤ 9) ∧ Hid (Below w1.heap.size w1 wr)) (fun _ xi _ => ds.length - (intOf xi).toNat)
 case atStart => exact ⟨0, zs1, rfl, Nat.zero_le _, N1, by omega, A1, Below.refl _ _⟩
 case round =>
  obtain ⟨k, zs, rfl, hk, HO, hzl, HA, HB⟩ := hrel
  have X2 := (dU X1).below (dU HB)
  have x0 := X2 0 _ rfl
  have x1 := X2 1 _ rfl
  by_cases hkn : (k : Int) < (ds.length : Int)
  ·have CH := dH (specHolds_any _ _ ds zs cop wr ((dU V1).below (dU HB)) (dU HO).bs (by omega))
   go_wp2_with fail
   refine (dU CH).mono ?_
   rintro e w3 ⟨hr3, b3⟩
   have HB3 := dH (bT (dU HB) b3)
   have HO3 := dH ((dU HO).below b3)
   clear CH HB HO X2 x0 x1
   by_cases hh : holdsP ds cop zs
   ·obtain rfl := hr3.of_yes hh
    have C3 := dH ((dU C1).below (dU HB3))
    have D3 := dH ((dU D1).trans (Drawn.of_below (dU HB3)))
    have HA := dU HA
    go_wp2
    go_ret
    first | exact ⟨⟨_, zs, rfl, dU HO3, by omega, HA⟩, dU C3, dU D3⟩ | exact ⟨⟨_, rfl, zs, dU HO3, by omega, HA⟩, dU C3, dU D3⟩
   ·obtain rfl := hr3.of_no hh
    have PT := dH (l4Put_any _ zs (k : Int) w3 (dU HO3).bs (by omega))
    clear hr3 hh
    go_wp2_with fail
    refine (dU PT).mono ?_
    rintro e w4 ⟨⟨u4, zs4, rfl, O4, hz4, P4⟩, b4⟩
    have HB4 := dH (bT (dU HB3) b4)
    have hs3 := (dU HB3).size
    have O4' := dH ((ownN_of_row O4).mono (base' := w.heap.size) (by have := (dU D1).size; omega))
    have HA4 : Hid (∀ z ∈ zs4, -1 ≤ z ∧ z ≤ 9) := fun z h => by
     rcases P4 z h with h1 | h1
     ·rw [h1]; omega
     ·exact dU HA z h1
    clear PT HB3 HO3 O4 P4 b4 HA
    go_wp2
    go_roundw
    case rel => exact ⟨k + 1, zs4, by go_num, by omega, O4', by omega, HA4, HB4⟩
    case measure => simp [intOf]; omega
  ·have C3 := dH ((dU C1).below (dU HB))
   have D3 := dH ((dU D1).trans (Drawn.of_below (dU HB)))
   have HA := dU HA
   go_wp2
   go_ret
   first | exact ⟨⟨_, zs, rfl, dU HO, by omega, HA⟩, dU C3, dU D3⟩ | exact ⟨⟨_, rfl, zs, dU HO, by omega, HA⟩, dU C3, dU D3⟩
end Go.Proofs.YtjkjmapibcfcdaaGreat
