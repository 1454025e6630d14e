/- Several texts in one: DomH, DomI, OpenA, OpenB, SitC, OpenK. -/
import Derived.Test.YtkiclbbialadlaaGreatGaC
import Derived.Test.YtkiclbbialadlaaGreatGaB
import Derived.Test.YtkiclbbialadlaaGreatGaA
import Derived.WalkKit
import Derived.ProofKit
import Derived.OpenShut
import Derived.ShutString
import Derived.Lib.SmallJoins
namespace Go.Proofs.YtkiclbbialadlaaGreat
open Go.ChangeMaps (open_string shut_string)
open Go.ChangeShapes Go.WideShapes Go.ChangeAt Go.RowKit
set_option linter.unusedVariables false
set_option maxRecDepth 100000
def left1 (n : Nat) (left : Int) : Int := if left < (n : Int) then -1 else left - (n : Int)
theorem szIntS_any (v : Value) (xs : List Int) (left : Int) (l0 : 0 ≤ left) (l1 : left ≤ 1048576) (w : World) (hv : Ns w v xs) :
  Calls Tryz.prog 21 #[v, .int .i64 left] w fun r w' => r = .returned (.int .i64 (left1 xs.length left)) ∧ w' = w := by
 obtain ⟨h0, a, cap, rfl, -, -⟩ := hv
 unfold left1
 by_cases hd : left < (xs.length : Int)
 ·rw [if_pos hd]
  have hd' : left - (xs.length : Int) < 0 := by omega
  go_enter Tryz.func21, Tryz.ntmps21
  go_wp2
  go_ret
  exact ⟨rfl, rfl⟩
 ·rw [if_neg hd]
  have hd' : ¬ (left - (xs.length : Int) < 0) := by omega
  go_enter Tryz.func21, Tryz.ntmps21
  go_wp2
  go_ret
  exact ⟨rfl, rfl⟩
theorem szConfig_any (sv : Value) (ds : List Int) (cop left : Int) (l0 : 0 ≤ left) (l1 : left ≤ 1048576) (w : World) (hd : Ns w sv ds) :
  Calls Tryz.prog 19 #[.agg #[sv, .int .i64 cop], .int .i64 left] w fun r w' => r = .returned (.int .i64 (left1 ds.length left)) ∧ Below w.heap.size w w' := by
 have hb0 : ∀ o, Below w.heap.size w (w.alloc o) := fun o => (Below.refl _ _).alloc (Nat.le_refl _) o
 have C1 := dH fun o => szIntS_any sv ds left l0 l1 (w.alloc o) (hd.below (hb0 o))
 obtain ⟨h0, a, cap, rfl, -, -⟩ := hd
 unfold left1 at *
 by_cases hl : left < (ds.length : Int)
 ·rw [if_pos hl] at C1 ⊢
  go_enter Tryz.func19, Tryz.ntmps19
  go_wp2_with fail
  refine (dU C1 _).mono ?_
  rintro e w1 ⟨rfl, rfl⟩
  go_wp2
  go_ret
  exact ⟨rfl, hb0 _⟩
 ·rw [if_neg hl] at C1 ⊢
  have hd' : ¬ (left - (ds.length : Int) < 0) := by omega
  go_enter Tryz.func19, Tryz.ntmps19
  go_wp2_with fail
  refine (dU C1 _).mono ?_
  rintro e w1 ⟨rfl, rfl⟩
  go_wp2
  go_ret
  exact ⟨rfl, hb0 _⟩
set_option maxHeartbeats 1000000 in
theorem eqConfig_yes (sv sv' : Value) (ds : List Int) (cop : Int) (w : World) (hd : Ns w sv ds) (hd' : Ns w sv' ds) :
  Calls Tryz.prog 40 #[.agg #[sv, .int .i64 cop], .agg #[sv', .int .i64 cop]] w fun r w' => r = .returned (.bool true) ∧ Below w.heap.size w w' := by
 have hb0 : ∀ o o', Below w.heap.size w ((w.alloc o).alloc o') := fun o o' => ((Below.refl _ _).alloc (Nat.le_refl _) o).alloc (by simp) o'
 have C1 := dH fun o o' => eqIntS_yes sv sv' ds ((w.alloc o).alloc o') (hd.below (hb0 o o')) (hd'.below (hb0 o o'))
 obtain ⟨h0, a, cap, rfl, -, -⟩ := hd
 obtain ⟨-, a', cap', rfl, -, -⟩ := hd'
 go_enter Tryz.func40, Tryz.ntmps40
 go_wp2_with fail
 have hs : (w.alloc (.cells #[.slice a ds.length cap, .int .i64 cop] 38)).heap.size = w.heap.size + 1 := by simp
 have T0 : Two ((w.alloc (.cells #[.slice a ds.length cap, .int .i64 cop] 38)).alloc (.cells #[.slice a' ds.length cap', .int .i64 cop] 38)) w.heap.size (.slice a ds.length cap) (.int .i64 cop) := (Two.new w _ _ _).kept ((Below.refl _ _).alloc (Nat.le_refl _) _)
 have U0 := Two.new (w.alloc (.cells #[.slice a ds.length cap, .int .i64 cop] 38)) (.slice a' ds.length cap') (.int .i64 cop) 38
 rw [hs] at U0
 refine (dU C1 _ _).mono ?_
 rintro e w1 ⟨rfl, b1⟩
 have B1 := bT (hb0 _ _) b1
 obtain ⟨k0, k1⟩ := T0.kept b1
 obtain ⟨q0, q1⟩ := U0.kept b1
 clear T0 U0 b1 hb0 C1 hs
 go_wp2
 go_ret
 exact ⟨rfl, B1⟩
def TwoZ (w : World) (B b : Nat) (c0 c1 : Value) : Prop := B ≤ b ∧ Two w b c0 c1 ∧ w.frozen? ⟨b, 0, none⟩ = false ∧ w.frozen? ⟨b, 1, none⟩ = false
theorem TwoZ.kept {w w' : World} {B b : Nat} {c0 c1 : Value} (h : TwoZ w B b c0 c1) (hb : Below w.heap.size w w') : TwoZ w' B b c0 c1 := by
 obtain ⟨h0, h1, f0, f1⟩ := h
 have lt := dCell_lt h1.1
 exact ⟨h0, h1.kept hb, (hb.frozen (p := ⟨b, 0, none⟩) lt).trans f0, (hb.frozen (p := ⟨b, 1, none⟩) lt).trans f1⟩
theorem TwoZ.drawn {w w' : World} {bk B b : Nat} {c0 c1 : Value} (h : TwoZ w B b c0 c1) (hd : Drawn bk w w') (hb : b ≠ bk) : TwoZ w' B b c0 c1 := by
 obtain ⟨h0, ⟨k0, k1⟩, f0, f1⟩ := h
 have lt := dCell_lt k0
 exact ⟨h0, ⟨hd.cell k0 hb, hd.cell k1 hb⟩, (hd.frozen hb lt).trans f0, (hd.frozen hb lt).trans f1⟩
theorem TwoZ.fresh (w : World) (c0 c1 : Value) (T : TypeId) : TwoZ (w.alloc (.cells #[c0, c1] T)) w.heap.size w.heap.size c0 c1 := ⟨Nat.le_refl _, Two.new w _ _ _, by simp, by simp⟩
theorem TwoZ.put0 {w : World} {B b : Nat} {c0 c1 : Value} (h : TwoZ w B b c0 c1) (v : Value) : TwoZ (w.setCell ⟨b, 0, none⟩ v) B b v c1 := by
 obtain ⟨h0, ⟨k0, k1⟩, f0, f1⟩ := h
 exact ⟨h0, ⟨World.cell?_setCell_same _ _ _ k0, sO k1 (by omega)⟩, (World.frozen?_setCell _ _ _ _).trans f0, (World.frozen?_setCell _ _ _ _).trans f1⟩
theorem TwoZ.put1 {w : World} {B b : Nat} {c0 c1 : Value} (h : TwoZ w B b c0 c1) (v : Value) : TwoZ (w.setCell ⟨b, 1, none⟩ v) B b c0 v := by
 obtain ⟨h0, ⟨k0, k1⟩, f0, f1⟩ := h
 exact ⟨h0, ⟨sO k0 (by omega), World.cell?_setCell_same _ _ _ k1⟩, (World.frozen?_setCell _ _ _ _).trans f0, (World.frozen?_setCell _ _ _ _).trans f1⟩
theorem TwoZ.far {w : World} {B b b' o : Nat} {c0 c1 : Value} (h : TwoZ w B b c0 c1) (hb : b ≠ b') (v : Value) : TwoZ (w.setCell ⟨b', o, none⟩ v) B b c0 c1 := by
 obtain ⟨h0, ⟨k0, k1⟩, f0, f1⟩ := h
 exact ⟨h0, ⟨sO k0 (by omega), sO k1 (by omega)⟩, (World.frozen?_setCell _ _ _ _).trans f0, (World.frozen?_setCell _ _ _ _).trans f1⟩
set_option maxHeartbeats 2000000 in
theorem toConfig_any (sv : Value) (ds : List Int) (cop : Int) (w : World) (hd : Ns w sv ds) (hl : ds.length ≤ 1099511627776) :
  Calls Tryz.prog 28 #[.agg #[sv, .int .i64 cop]] w fun r w' => (∃ o, r = .returned (.agg #[o, .int .i64 cop]) ∧ OwnN w' w.heap.size o ds) ∧ Below w.heap.size w w' := by
 have ha : ∀ (w : World) o, Below w.heap.size w (w.alloc o) := fun w o => (Below.refl _ _).alloc (Nat.le_refl _) o
 have C1 := dH fun W (hb : Below w.heap.size w W) => toIntS_any sv ds W hl (hd.below hb)
 obtain ⟨h0, a, cap, rfl, -, -⟩ := hd
 go_enter Tryz.func28, Tryz.ntmps28
 go_wp2_with fail
 have X1 := Two.new w (.slice a ds.length cap) (.int .i64 cop) 24
 have s1 : (w.alloc (.cells #[.slice a ds.length cap, .int .i64 cop] 24)).heap.size = w.heap.size + 1 := by simp
 have B1 := ha w (.cells #[.slice a ds.length cap, .int .i64 cop] 24)
 generalize w.alloc (.cells #[.slice a ds.length cap, .int .i64 cop] 24) = w1 at *
 have R2 := TwoZ.fresh w1 (.slice none 0 0) (.int .i64 0) 38
 have X2 := X1.kept (ha w1 (.cells #[.slice none 0 0, .int .i64 0] 38))
 have s2 : (w1.alloc (.cells #[.slice none 0 0, .int .i64 0] 38)).heap.size = w.heap.size + 1 + 1 := by simp [s1]
 have B2 := bT B1 (ha w1 (.cells #[.slice none 0 0, .int .i64 0] 38))
 rw [s1] at R2
 generalize w1.alloc (.cells #[.slice none 0 0, .int .i64 0] 38) = w2 at *
 have O3 := TwoZ.fresh w2 (.slice none 0 0) (.int .i64 0) 38
 have X3 := X2.kept (ha w2 (.cells #[.slice none 0 0, .int .i64 0] 38))
 have R3 := R2.kept (ha w2 (.cells #[.slice none 0 0, .int .i64 0] 38))
 have s3 : (w2.alloc (.cells #[.slice none 0 0, .int .i64 0] 38)).heap.size = w.heap.size + 1 + 1 + 1 := by simp [s2]
 have B3 := bT B2 (ha w2 (.cells #[.slice none 0 0, .int .i64 0] 38))
 rw [s2] at O3
 generalize w2.alloc (.cells #[.slice none 0 0, .int .i64 0] 38) = w3 at *
 clear X1 X2 R2 B1 B2 ha s1 s2
 refine (dU C1 _ B3).mono ?_
 rintro e w4 ⟨⟨o, rfl, q4⟩, b4⟩
 obtain ⟨x0, x1⟩ := X3.kept b4
 have R4 := R3.kept b4
 have O4 := O3.kept b4
 have B4 := bT B3 b4
 rw [s3] at q4
 have hq := dH q4
 obtain ⟨-, ao, co, rfl, -, -⟩ := q4
 clear X3 R3 O3 B3 b4 C1
 have O5 := O4.put0 (.slice ao ds.length co)
 have R5 := R4.far (b' := w.heap.size + 1 + 1) (o := 0) (by omega) (.slice ao ds.length co)
 have y5 : (w4.setCell ⟨w.heap.size + 1 + 1, 0, none⟩ (.slice ao ds.length co)).cell? ⟨w.heap.size, 1, none⟩ = some (.int .i64 cop) := sO x1 (.inl (by omega))
 have O6 := O5.put1 (.int .i64 cop)
 have R6 := R5.far (b' := w.heap.size + 1 + 1) (o := 1) (by omega) (.int .i64 cop)
 have R7 := R6.put0 (.slice ao ds.length co)
 have R8 := R7.put1 (.int .i64 cop)
 have q8 := dH ((((OwnN.far (dU hq) (b := w.heap.size + 1 + 1) (o := 0) (by omega) (.slice ao ds.length co)).far (b := w.heap.size + 1 + 1) (o := 1) (by omega) (.int .i64 cop)).far (b := w.heap.size + 1) (o := 0) (by omega) (.slice ao ds.length co)).far (b := w.heap.size + 1) (o := 1) (by omega) (.int .i64 cop))
 have B8 := dH ((((B4.setCell (p := ⟨w.heap.size + 1 + 1, 0, none⟩) (show w.heap.size ≤ w.heap.size + 1 + 1 by omega) (.slice ao ds.length co)).setCell (p := ⟨w.heap.size + 1 + 1, 1, none⟩) (show w.heap.size ≤ w.heap.size + 1 + 1 by omega) (.int .i64 cop)).setCell (p := ⟨w.heap.size + 1, 0, none⟩) (show w.heap.size ≤ w.heap.size + 1 by omega) (.slice ao ds.length co)).setCell (p := ⟨w.heap.size + 1, 1, none⟩) (show w.heap.size ≤ w.heap.size + 1 by omega) (.int .i64 cop))
 obtain ⟨-, ⟨o40, o41⟩, g40, g41⟩ := O4
 obtain ⟨-, ⟨o50, o51⟩, g50, g51⟩ := O5
 obtain ⟨-, ⟨o60, o61⟩, g60, g61⟩ := O6
 obtain ⟨-, ⟨r60, r61⟩, f60, f61⟩ := R6
 obtain ⟨-, ⟨r70, r71⟩, f70, f71⟩ := R7
 obtain ⟨-, ⟨r80, r81⟩, -⟩ := R8
 clear R4 R5 B4 hq
 go_wp2
 generalize ((((w4.setCell ⟨w.heap.size + 1 + 1, 0, none⟩ (.slice ao ds.length co)).setCell ⟨w.heap.size + 1 + 1, 1, none⟩ (.int .i64 cop)).setCell ⟨w.heap.size + 1, 0, none⟩ (.slice ao ds.length co)).setCell ⟨w.heap.size + 1, 1, none⟩ (.int .i64 cop)) = V at *
 refine bodyPost_ret (v := .agg #[(.slice ao ds.length co), (.int .i64 cop)]) (by simp [results, Tryz.results28, go_sem, r80, r81]) rfl ⟨⟨_, rfl, (dU q8).mono (by omega)⟩, dU B8⟩
variable {H : Type} {enc : TypeId × Value → H} {W : World} {r : Reach} {b0 base : Nat} {sp : Nat → Bool} {held : Bool} {v : Value} {d : DataW H} {p : List MemPlace}
theorem open_Int (hv : Value.okWide Tryz.prog W r b0 3 v) (h : DataW.Trod enc Tryz.prog W base sp held 3 v d p) : ∃ n : Int, v = .int .i64 n ∧ -9223372036854775808 ≤ n ∧ n ≤ 9223372036854775807 := by
 obtain ⟨n, rfl, -, -, w⟩ := open_int Tryz.underlying3 hv h
 exact ⟨n, rfl, bounds_i64 w⟩
variable {H : Type} {enc : TypeId × Value → H} {W : World} {r : Reach} {b0 base : Nat} {sp : Nat → Bool} {held : Bool} {v : Value} {d : DataW H} {p : List MemPlace}
def allInt (xs : List Int) : Prop := ∀ x ∈ xs, -9223372036854775808 ≤ x ∧ x ≤ 9223372036854775807
theorem ns_of_row {w : World} {a : Option Addr} {len cap : Nat} {zs : List Int} (h : IsRow .i64 w a len cap zs) : ∃ bs : List Int, Ns w (.slice a len cap) bs ∧ allInt bs := by
 rcases h with ⟨rfl, rfl, rfl, rfl⟩ | ⟨x, rfl, h1, h2, h3, h4, h5⟩
 ·exact ⟨[], ⟨by simp, none, 0, rfl, by simp, .inl rfl⟩, fun x h => by cases h⟩
 ·have hm : maxLen = 9223372036854775807 := rfl
  have hl : (zs.take len).length = len := by simp; omega
  refine ⟨zs.take len, ⟨by omega, some x, cap, by rw [hl], by rw [hl]; omega, ?_⟩, fun x h => bounds_i64 (h5 x (List.mem_of_mem_take h))⟩
  rcases Nat.eq_zero_or_pos len with h0 | h0
  ·exact .inl (by subst h0; simp)
  ·obtain ⟨b, off, rfl, hc⟩ := ints_at h4 (by omega)
   refine .inr ⟨b, off, rfl, fun i hi => ?_⟩
   have hi' : i < zs.length := by omega
   have hcell := hc i hi'
   have hg : zs.getD i 0 = zs[i] := by simp [List.getD, hi']
   rw [hg] at hcell
   rw [hcell]
   simp
theorem ints_read {fuel : Nat} {cs : List Value} {x : DataW H × List MemPlace} (h : DataW.trod enc Tryz.prog W base (fun _ => true) held fuel 22 cs = some x) : ∃ sv bs, cs = [sv] ∧ Ns W sv bs ∧ allInt bs := by
 rcases open_ints Tryz.underlying22 Tryz.underlying3 (by kernel_rfl) h with ⟨hcs, _⟩ | ⟨x, l, c, zs, hcs, _, hl, hm, hz, _, hcell, hwz⟩
 ·subst hcs
  exact ⟨_, [], rfl, ⟨by simp, none, 0, rfl, by simp, .inl rfl⟩, fun x h => by cases h⟩
 ·subst hcs
  obtain ⟨bs, h1, h2⟩ := ns_of_row (w := W) (a := some x) (len := l) (cap := c) (zs := zs) (.inr ⟨_, rfl, hl, hm, by simpa using hz, hcell, hwz⟩)
  exact ⟨_, bs, rfl, h1, h2⟩
def RdIntS (v : Value) (m : List Int) (W : World) : Prop := Ns W v m
def OwIntS (lo hi : Nat) (v : Value) (m : List Int) (W : World) : Prop := OwN lo hi v m W
def sizIntS (m : List Int) : Nat := m.length
def cntIntS (m : List Int) : Nat := m.length
def mkIntS (k : Nat) (m : List Int) : List Int := marksN k m.length
theorem OwIntS.rd {lo hi : Nat} {v : Value} {m : List Int} {W : World} (h : OwIntS lo hi v m W) : RdIntS v m W := OwN.rd h
theorem RdIntS.below {v : Value} {m : List Int} {W W' : World} (h : RdIntS v m W) (b : Below W.heap.size W W') : RdIntS v m W' := Ns.below h b
theorem toIntS_ (v : Value) (m : List Int) (w : World) (hl : sizIntS m ≤ 1048576) (h : RdIntS v m w) :
  Calls Tryz.prog 30 #[v] w fun e w' => ∃ u, e = .returned u ∧ Sits (OwIntS w.heap.size w'.heap.size u m) w.heap.size w'.heap.size w' ∧ Below w.heap.size w w' := toN v m w (by unfold sizIntS at hl; omega) h
theorem eqIntS_ (u v : Value) (m : List Int) (w : World) (hu : RdIntS u m w) (hv : RdIntS v m w) :
  Calls Tryz.prog 42 #[u, v] w fun e w' => e = .returned (.bool true) ∧ Below w.heap.size w w' := eqIntS_yes u v m w hu hv
theorem markIntS_ (lo hi : Nat) (v : Value) (m : List Int) (k0 : Nat) (w : World) (hk : k0 ≤ 1073741824) (hl : cntIntS m ≤ 1073741824) (h : Sits (OwIntS lo hi v m) lo hi w) :
  Calls Tryz.prog 49 #[v, .int .i64 (k0 : Int)] w fun e w' => e = .returned (.int .i64 ((k0 + cntIntS m : Nat) : Int)) ∧ Sits (OwIntS lo hi v (mkIntS k0 m)) lo hi w' ∧ Wr lo hi w w' := markN lo hi v m k0 w (by omega) (by unfold cntIntS at hl; omega) h
def RdConfig (v : Value) (m : List Int × Int) (W : World) : Prop := ∃ sv, v = .agg #[sv, .int .i64 m.2] ∧ Ns W sv m.1
def OwConfig (lo hi : Nat) (v : Value) (m : List Int × Int) (W : World) : Prop := ∃ sv, v = .agg #[sv, .int .i64 m.2] ∧ OwN lo hi sv m.1 W
def sizConfig (m : List Int × Int) : Nat := m.1.length
def cntConfig (m : List Int × Int) : Nat := m.1.length
def mkConfig (k : Nat) (m : List Int × Int) : List Int × Int := (marksN k m.1.length, m.2)
theorem OwConfig.rd {lo hi : Nat} {v : Value} {m : List Int × Int} {W : World} (h : OwConfig lo hi v m W) : RdConfig v m W := by
 obtain ⟨sv, h1, h2⟩ := h; exact ⟨sv, h1, h2.rd⟩
theorem RdConfig.below {v : Value} {m : List Int × Int} {W W' : World} (h : RdConfig v m W) (b : Below W.heap.size W W') : RdConfig v m W' := by
 obtain ⟨sv, h1, h2⟩ := h; exact ⟨sv, h1, h2.below b⟩
theorem formConfig {v : Value} {m : List Int × Int} {W : World} (h : RdConfig v m W) : ∃ a cap, v = .agg #[.slice a m.1.length cap, .int .i64 m.2] ∧ m.1.length ≤ 9223372036854775807 := by
 obtain ⟨sv, rfl, h0, a, cap, rfl, -, -⟩ := h
 exact ⟨a, cap, rfl, h0⟩
theorem szConfig_ (v : Value) (m : List Int × Int) (left : Int) (l0 : 0 ≤ left) (l1 : left ≤ 1048576) (w : World) (h : RdConfig v m w) :
  Calls Tryz.prog 19 #[v, .int .i64 left] w fun e w' => e = .returned (.int .i64 (lft left (sizConfig m))) ∧ Below w.heap.size w w' := by
 obtain ⟨sv, rfl, h⟩ := h
 exact szConfig_any sv m.1 m.2 left l0 l1 w h
theorem toConfig_ (v : Value) (m : List Int × Int) (w : World) (hl : sizConfig m ≤ 1048576) (h : RdConfig v m w) :
  Calls Tryz.prog 28 #[v] w fun e w' => ∃ u, e = .returned u ∧ Sits (OwConfig w.heap.size w'.heap.size u m) w.heap.size w'.heap.size w' ∧ Below w.heap.size w w' := by
 obtain ⟨sv, rfl, h⟩ := h
 refine (toConfig_any sv m.1 m.2 w h (by unfold sizConfig at hl; omega)).mono fun e w' ⟨⟨o, h1, h2⟩, h3⟩ => ⟨_, h1, h2.sits.imp fun W hW => ⟨o, rfl, hW⟩, h3⟩
theorem eqConfig_ (u v : Value) (m : List Int × Int) (w : World) (hu : RdConfig u m w) (hv : RdConfig v m w) :
  Calls Tryz.prog 40 #[u, v] w fun e w' => e = .returned (.bool true) ∧ Below w.heap.size w w' := by
 obtain ⟨su, rfl, hu⟩ := hu
 obtain ⟨sv, rfl, hv⟩ := hv
 exact eqConfig_yes su sv m.1 m.2 w hu hv
theorem markConfig_ (lo hi : Nat) (v : Value) (m : List Int × Int) (k0 : Nat) (w : World) (hk : k0 ≤ 1073741824) (hl : cntConfig m ≤ 1073741824) (h : Sits (OwConfig lo hi v m) lo hi w) :
  Calls Tryz.prog 47 #[v, .int .i64 (k0 : Int)] w fun e w' => e = .returned (.int .i64 ((k0 + cntConfig m : Nat) : Int)) ∧ Sits (OwConfig lo hi v (mkConfig k0 m)) lo hi w' ∧ Wr lo hi w w' := by
 obtain ⟨sv, rfl, hn⟩ := h.now
 have hN : Sits (OwN lo hi sv m.1) lo hi w := h.imp fun W ⟨sv', h1, h2⟩ => by cases h1; exact h2
 have hb0 : ∀ o, Below w.heap.size w (w.alloc o) := fun o => (Below.refl _ _).alloc (Nat.le_refl _) o
 have C1 := dH fun o => markN lo hi sv m.1 k0 (w.alloc o) (by omega) (by unfold cntConfig at hl; omega) (hN.below (hb0 o))
 have e1 : ((k0 + cntConfig m : Nat) : Int) = ((k0 + m.1.length : Nat) : Int) := rfl
 rw [e1]
 have HI := dH fun (W : World) (h : Sits (OwN lo hi sv (marksN k0 m.1.length)) lo hi W) => h.imp fun W hW => (show OwConfig lo hi (.agg #[sv, .int .i64 m.2]) (mkConfig k0 m) W from ⟨sv, rfl, hW⟩)
 obtain ⟨⟨h0, a, cap, rfl, -, -⟩, -⟩ := hn
 clear h hN hk hl e1
 go_enter Tryz.func47, Tryz.ntmps47
 go_wp2_with fail
 refine (dU C1 _).mono ?_
 rintro e w1 ⟨rfl, o1, d1⟩
 have q1 := dH (dU HI _ o1)
 have D1 := dH ((Wr.of_below (hb0 _)).trans d1)
 clear o1 d1 C1 hb0 HI
 go_wp2
 go_ret
 exact ⟨rfl, dU q1, dU D1⟩
def okConfig (m : List Int × Int) : Prop := allInt m.1 ∧ -9223372036854775808 ≤ m.2 ∧ m.2 ≤ 9223372036854775807
variable {H : Type} {enc : TypeId × Value → H} {W : World} {r : Reach} {b0 base : Nat} {sp : Nat → Bool} {held : Bool} {v : Value} {d : DataW H} {p : List MemPlace}
theorem cells_get {w : World} {base n : Nat} {a : Addr} {cs : List Value} (h : w.cells? base a n = some cs) : ∀ j u, cs[j]? = some u → w.cell? (a.add j) = some u := by
 unfold World.cells? at h
 split at h
 ·intro j u hu
  have hl : cs.length = n := by simpa using mapM_some_length h
  have hj : j < n := by rw [← hl]; exact (List.getElem?_eq_some_iff.1 hu).1
  rw [mapM_some_get h j j (by simp [hj])]
  exact hu
 ·cases h
theorem rows_read {α : Type} {cl : α → List Value} {sz : Nat} {T TS : TypeId} {good : α → Prop} (ht : Tryz.prog.underlying TS = some (.slice T)) (hc : Tryz.prog.cellsOf T = sz) (hs : 0 < sz) (hcl : ∀ a, (cl a).length = sz)
  (hel : ∀ n cs x, DataW.trod enc Tryz.prog W base sp held n T cs = some x → ∃ a, cs = cl a ∧ good a)
  {fuel : Nat} {cs : List Value} {x : DataW H × List MemPlace} (h : DataW.trod enc Tryz.prog W base sp held fuel TS cs = some x) : ∃ sv ms, cs = [sv] ∧ Rw sz cl W sv ms ∧ ∀ m ∈ ms, good m := by
 rcases DataW.trod_slice ht h with ⟨rfl, _⟩ | ⟨a, len, cap, elems, rest, n, _, rfl, _, _, hl, hm, hlen, he, _⟩
 ·exact ⟨_, [], rfl, Rw.nil _ _ _ (by omega), fun m h => by cases h⟩
 ·have hmx : maxLen = 9223372036854775807 := rfl
  have each : ∀ i, i < len → ∃ m, good m ∧ ∀ j u, (cl m)[j]? = some u → W.cell? ((a.add (i * sz)).add j) = some u := fun i hi => by
   have h1 := he i hi
   rw [List.getElem?_eq_getElem (by omega), Option.bind_eq_some_iff] at h1
   obtain ⟨c1, hc1, hy⟩ := h1
   obtain ⟨m, rfl, hg⟩ := hel _ _ _ hy
   rw [hc] at hc1
   exact ⟨m, hg, cells_get hc1⟩
  have all : ∀ k, k ≤ len → ∃ ms : List α, ms.length = k ∧ (∀ m ∈ ms, good m) ∧ ∀ i (hi : i < ms.length) j u, (cl ms[i])[j]? = some u → W.cell? ((a.add (i * sz)).add j) = some u := by
   intro k
   induction k with
   | zero => exact fun _ => ⟨[], rfl, (fun m h => by cases h), fun i hi => by simp at hi⟩
   | succ k ih =>
    intro hk
    obtain ⟨ms, h1, h2, h3⟩ := ih (by omega)
    obtain ⟨m, g, hcm⟩ := each k (by omega)
    refine ⟨ms ++ [m], by simp [h1], fun y hy => ?_, fun i hi j u hu => ?_⟩
    ·rcases List.mem_append.1 hy with hy | hy
     ·exact h2 y hy
     ·obtain rfl : y = m := by simpa using hy
      exact g
    ·by_cases e : i < ms.length
     ·rw [List.getElem_append_left e] at hu
      exact h3 i e j u hu
     ·have e2 : i = k := by simp at hi; omega
      subst e2
      rw [List.getElem_append_right (by omega)] at hu
      have e3 : i - ms.length = 0 := by omega
      simp only [e3, List.getElem_cons_zero] at hu
      exact hcm j u hu
  obtain ⟨ms, h1, h2, h3⟩ := all len (Nat.le_refl _)
  refine ⟨_, ms, rfl, ⟨by omega, some a, cap, by rw [h1], by omega, ?_⟩, h2⟩
  rcases Nat.eq_zero_or_pos len with h0 | h0
  ·exact .inl (List.length_eq_zero_iff.1 (by omega))
  ·have hp0 : 0 < ms.length := by omega
   obtain ⟨u, hu⟩ : ∃ u, (cl ms[0])[0]? = some u := ⟨_, List.getElem?_eq_getElem (by rw [hcl ms[0]]; exact hs)⟩
   have c0 := h3 0 hp0 0 u hu
   obtain ⟨b, off, spot⟩ := a
   have hspot : spot = none := by simpa [Addr.add] using World.cell?_spot c0
   subst hspot
   exact .inr ⟨b, off, rfl, fun i hi j u hu => by have := h3 i hi j u hu; rw [Go.WideShapes.add_plain, Go.WideShapes.add_plain] at this; exact this⟩
end Go.Proofs.YtkiclbbialadlaaGreat
