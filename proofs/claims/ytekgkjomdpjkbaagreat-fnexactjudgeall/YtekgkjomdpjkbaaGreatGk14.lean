/- Several texts in one: OpenA, OpenK, OpenB, DomH, DomI, SitC, WrA, WrSa, CpN. -/
import Derived.Test.YtekgkjomdpjkbaaGreatGaA
import Derived.WalkKit
import Derived.ProofKit
import Derived.OpenShut
import Derived.ShutString
import Derived.Lib.SmallJoins
import Derived.Test.YtekgkjomdpjkbaaGreatGaC
import Derived.Test.YtekgkjomdpjkbaaGreatGaB
import Derived.Test.YtekgkjomdpjkbaaGreatGaT
import Derived.Deep.RegionHeld3
import Derived.Deep.DeepCutAuto
namespace Go.Proofs.YtekgkjomdpjkbaaGreat
open Go.ChangeMaps (open_string shut_string)
open Go.ChangeShapes Go.WideShapes Go.ChangeAt Go.RowKit
set_option linter.unnecessarySimpa false
set_option linter.unusedSimpArgs false
set_option linter.unusedVariables false
set_option maxRecDepth 100000
variable {H : Type} {enc : TypeId × Value → H} {W : World} {r : Reach} {b0 base : Nat} {sp : Nat → Bool} {held : Bool} {v : Value} {d : DataW H} {p : List MemPlace}
variable {H : Type} {enc : TypeId × Value → H} {W : World} {r : Reach} {b0 base : Nat} {sp : Nat → Bool} {held : Bool} {v : Value} {d : DataW H} {p : List MemPlace}
theorem cells_get {w : World} {base n : Nat} {a : Addr} {cs : List Value} (h : w.cells? base a n = some cs) : ∀ j u, cs[j]? = some u → w.cell? (a.add j) = some u := by
 unfold World.cells? at h
 split at h
 ·intro j u hu
  have hl : cs.length = n := by simpa using mapM_some_length h
  have hj : j < n := by rw [← hl]; exact (List.getElem?_eq_some_iff.1 hu).1
  rw [mapM_some_get h j j (by simp [hj])]
  exact hu
 ·cases h
theorem rows_read {α : Type} {cl : α → List Value} {sz : Nat} {T TS : TypeId} {good : α → Prop} (ht : Tryz.prog.underlying TS = some (.slice T)) (hc : Tryz.prog.cellsOf T = sz) (hs : 0 < sz) (hcl : ∀ a, (cl a).length = sz)
  (hel : ∀ n cs x, DataW.trod enc Tryz.prog W base sp held n T cs = some x → ∃ a, cs = cl a ∧ good a)
  {fuel : Nat} {cs : List Value} {x : DataW H × List MemPlace} (h : DataW.trod enc Tryz.prog W base sp held fuel TS cs = some x) : ∃ sv ms, cs = [sv] ∧ Rw sz cl W sv ms ∧ ∀ m ∈ ms, good m := by
 rcases DataW.trod_slice ht h with ⟨rfl, _⟩ | ⟨a, len, cap, elems, rest, n, _, rfl, _, _, hl, hm, hlen, he, _⟩
 ·exact ⟨_, [], rfl, Rw.nil _ _ _ (by omega), fun m h => by cases h⟩
 ·have hmx : maxLen = 9223372036854775807 := rfl
  have each : ∀ i, i < len → ∃ m, good m ∧ ∀ j u, (cl m)[j]? = some u → W.cell? ((a.add (i * sz)).add j) = some u := fun i hi => by
   have h1 := he i hi
   rw [List.getElem?_eq_getElem (by omega), Option.bind_eq_some_iff] at h1
   obtain ⟨c1, hc1, hy⟩ := h1
   obtain ⟨m, rfl, hg⟩ := hel _ _ _ hy
   rw [hc] at hc1
   exact ⟨m, hg, cells_get hc1⟩
  have all : ∀ k, k ≤ len → ∃ ms : List α, ms.length = k ∧ (∀ m ∈ ms, good m) ∧ ∀ i (hi : i < ms.length) j u, (cl ms[i])[j]? = some u → W.cell? ((a.add (i * sz)).add j) = some u := by
   intro k
   induction k with
   | zero => exact fun _ => ⟨[], rfl, (fun m h => by cases h), fun i hi => by simp at hi⟩
   | succ k ih =>
    intro hk
    obtain ⟨ms, h1, h2, h3⟩ := ih (by omega)
    obtain ⟨m, g, hcm⟩ := each k (by omega)
    refine ⟨ms ++ [m], by simp [h1], fun y hy => ?_, fun i hi j u hu => ?_⟩
    ·rcases List.mem_append.1 hy with hy | hy
     ·exact h2 y hy
     ·obtain rfl : y = m := by simpa using hy
      exact g
    ·by_cases e : i < ms.length
     ·rw [List.getElem_append_left e] at hu
      exact h3 i e j u hu
     ·have e2 : i = k := by simp at hi; omega
      subst e2
      rw [List.getElem_append_right (by omega)] at hu
      have e3 : i - ms.length = 0 := by omega
      simp only [e3, List.getElem_cons_zero] at hu
      exact hcm j u hu
  obtain ⟨ms, h1, h2, h3⟩ := all len (Nat.le_refl _)
  refine ⟨_, ms, rfl, ⟨by omega, some a, cap, by rw [h1], by omega, ?_⟩, h2⟩
  rcases Nat.eq_zero_or_pos len with h0 | h0
  ·exact .inl (List.length_eq_zero_iff.1 (by omega))
  ·have hp0 : 0 < ms.length := by omega
   obtain ⟨u, hu⟩ : ∃ u, (cl ms[0])[0]? = some u := ⟨_, List.getElem?_eq_getElem (by rw [hcl ms[0]]; exact hs)⟩
   have c0 := h3 0 hp0 0 u hu
   obtain ⟨b, off, spot⟩ := a
   have hspot : spot = none := by simpa [Addr.add] using World.cell?_spot c0
   subst hspot
   exact .inr ⟨b, off, rfl, fun i hi j u hu => by have := h3 i hi j u hu; rw [Go.WideShapes.add_plain, Go.WideShapes.add_plain] at this; exact this⟩
variable {H : Type} {enc : TypeId × Value → H} {W : World} {r : Reach} {b0 base : Nat} {sp : Nat → Bool} {held : Bool} {v : Value} {d : DataW H} {p : List MemPlace}
def allInt (xs : List Int) : Prop := ∀ x ∈ xs, -9223372036854775808 ≤ x ∧ x ≤ 9223372036854775807
theorem ns_of_row {w : World} {a : Option Addr} {len cap : Nat} {zs : List Int} (h : IsRow .i64 w a len cap zs) : ∃ bs : List Int, Ns w (.slice a len cap) bs ∧ allInt bs := by
 rcases h with ⟨rfl, rfl, rfl, rfl⟩ | ⟨x, rfl, h1, h2, h3, h4, h5⟩
 ·exact ⟨[], ⟨by simp, none, 0, rfl, by simp, .inl rfl⟩, fun x h => by cases h⟩
 ·have hm : maxLen = 9223372036854775807 := rfl
  have hl : (zs.take len).length = len := by simp; omega
  refine ⟨zs.take len, ⟨by omega, some x, cap, by rw [hl], by rw [hl]; omega, ?_⟩, fun x h => bounds_i64 (h5 x (List.mem_of_mem_take h))⟩
  rcases Nat.eq_zero_or_pos len with h0 | h0
  ·exact .inl (by subst h0; simp)
  ·obtain ⟨b, off, rfl, hc⟩ := ints_at h4 (by omega)
   refine .inr ⟨b, off, rfl, fun i hi => ?_⟩
   have hi' : i < zs.length := by omega
   have hcell := hc i hi'
   have hg : zs.getD i 0 = zs[i] := by simp [List.getD, hi']
   rw [hg] at hcell
   rw [hcell]
   simp
theorem ints_read {fuel : Nat} {cs : List Value} {x : DataW H × List MemPlace} (h : DataW.trod enc Tryz.prog W base (fun _ => true) held fuel 22 cs = some x) : ∃ sv bs, cs = [sv] ∧ Ns W sv bs ∧ allInt bs := by
 rcases open_ints Tryz.underlying22 Tryz.underlying3 (by kernel_rfl) h with ⟨hcs, _⟩ | ⟨x, l, c, zs, hcs, _, hl, hm, hz, _, hcell, hwz⟩
 ·subst hcs
  exact ⟨_, [], rfl, ⟨by simp, none, 0, rfl, by simp, .inl rfl⟩, fun x h => by cases h⟩
 ·subst hcs
  obtain ⟨bs, h1, h2⟩ := ns_of_row (w := W) (a := some x) (len := l) (cap := c) (zs := zs) (.inr ⟨_, rfl, hl, hm, by simpa using hz, hcell, hwz⟩)
  exact ⟨_, bs, rfl, h1, h2⟩
def left1 (n : Nat) (left : Int) : Int := if left < (n : Int) then -1 else left - (n : Int)
theorem szIntS_any (v : Value) (xs : List Int) (left : Int) (l0 : 0 ≤ left) (l1 : left ≤ 1048576) (w : World) (hv : Ns w v xs) :
  Calls Tryz.prog 26 #[v, .int .i64 left] w fun r w' => r = .returned (.int .i64 (left1 xs.length left)) ∧ w' = w := by
 obtain ⟨h0, a, cap, rfl, -, -⟩ := hv
 unfold left1
 by_cases hd : left < (xs.length : Int)
 ·rw [if_pos hd]
  have hd' : left - (xs.length : Int) < 0 := by omega
  go_enter Tryz.func26, Tryz.ntmps26
  go_wp2
  go_ret
  exact ⟨rfl, rfl⟩
 ·rw [if_neg hd]
  have hd' : ¬ (left - (xs.length : Int) < 0) := by omega
  go_enter Tryz.func26, Tryz.ntmps26
  go_wp2
  go_ret
  exact ⟨rfl, rfl⟩
theorem szConfig_any (sv : Value) (ds : List Int) (cop left : Int) (l0 : 0 ≤ left) (l1 : left ≤ 1048576) (w : World) (hd : Ns w sv ds) :
  Calls Tryz.prog 24 #[.agg #[sv, .int .i64 cop], .int .i64 left] w fun r w' => r = .returned (.int .i64 (left1 ds.length left)) ∧ Below w.heap.size w w' := by
 have hb0 : ∀ o, Below w.heap.size w (w.alloc o) := fun o => (Below.refl _ _).alloc (Nat.le_refl _) o
 have C1 := dH fun o => szIntS_any sv ds left l0 l1 (w.alloc o) (hd.below (hb0 o))
 obtain ⟨h0, a, cap, rfl, -, -⟩ := hd
 unfold left1 at *
 by_cases hl : left < (ds.length : Int)
 ·rw [if_pos hl] at C1 ⊢
  go_enter Tryz.func24, Tryz.ntmps24
  go_wp2_with fail
  refine (dU C1 _).mono ?_
  rintro e w1 ⟨rfl, rfl⟩
  go_wp2
  go_ret
  exact ⟨rfl, hb0 _⟩
 ·rw [if_neg hl] at C1 ⊢
  have hd' : ¬ (left - (ds.length : Int) < 0) := by omega
  go_enter Tryz.func24, Tryz.ntmps24
  go_wp2_with fail
  refine (dU C1 _).mono ?_
  rintro e w1 ⟨rfl, rfl⟩
  go_wp2
  go_ret
  exact ⟨rfl, hb0 _⟩
set_option maxHeartbeats 1000000 in
theorem eqConfig_yes (sv sv' : Value) (ds : List Int) (cop : Int) (w : World) (hd : Ns w sv ds) (hd' : Ns w sv' ds) :
  Calls Tryz.prog 43 #[.agg #[sv, .int .i64 cop], .agg #[sv', .int .i64 cop]] w fun r w' => r = .returned (.bool true) ∧ Below w.heap.size w w' := by
 have hb0 : ∀ o o', Below w.heap.size w ((w.alloc o).alloc o') := fun o o' => ((Below.refl _ _).alloc (Nat.le_refl _) o).alloc (by simp) o'
 have C1 := dH fun o o' => eqIntS_yes sv sv' ds ((w.alloc o).alloc o') (hd.below (hb0 o o')) (hd'.below (hb0 o o'))
 obtain ⟨h0, a, cap, rfl, -, -⟩ := hd
 obtain ⟨-, a', cap', rfl, -, -⟩ := hd'
 go_enter Tryz.func43, Tryz.ntmps43
 go_wp2_with fail
 have hs : (w.alloc (.cells #[.slice a ds.length cap, .int .i64 cop] 37)).heap.size = w.heap.size + 1 := by simp
 have T0 : Two ((w.alloc (.cells #[.slice a ds.length cap, .int .i64 cop] 37)).alloc (.cells #[.slice a' ds.length cap', .int .i64 cop] 37)) w.heap.size (.slice a ds.length cap) (.int .i64 cop) := (Two.new w _ _ _).kept ((Below.refl _ _).alloc (Nat.le_refl _) _)
 have U0 := Two.new (w.alloc (.cells #[.slice a ds.length cap, .int .i64 cop] 37)) (.slice a' ds.length cap') (.int .i64 cop) 37
 rw [hs] at U0
 refine (dU C1 _ _).mono ?_
 rintro e w1 ⟨rfl, b1⟩
 have B1 := bT (hb0 _ _) b1
 obtain ⟨k0, k1⟩ := T0.kept b1
 obtain ⟨q0, q1⟩ := U0.kept b1
 clear T0 U0 b1 hb0 C1 hs
 go_wp2
 go_ret
 exact ⟨rfl, B1⟩
def TwoZ (w : World) (B b : Nat) (c0 c1 : Value) : Prop := B ≤ b ∧ Two w b c0 c1 ∧ w.frozen? ⟨b, 0, none⟩ = false ∧ w.frozen? ⟨b, 1, none⟩ = false
theorem TwoZ.kept {w w' : World} {B b : Nat} {c0 c1 : Value} (h : TwoZ w B b c0 c1) (hb : Below w.heap.size w w') : TwoZ w' B b c0 c1 := by
 obtain ⟨h0, h1, f0, f1⟩ := h
 have lt := dCell_lt h1.1
 exact ⟨h0, h1.kept hb, (hb.frozen (p := ⟨b, 0, none⟩) lt).trans f0, (hb.frozen (p := ⟨b, 1, none⟩) lt).trans f1⟩
theorem TwoZ.drawn {w w' : World} {bk B b : Nat} {c0 c1 : Value} (h : TwoZ w B b c0 c1) (hd : Drawn bk w w') (hb : b ≠ bk) : TwoZ w' B b c0 c1 := by
 obtain ⟨h0, ⟨k0, k1⟩, f0, f1⟩ := h
 have lt := dCell_lt k0
 exact ⟨h0, ⟨hd.cell k0 hb, hd.cell k1 hb⟩, (hd.frozen hb lt).trans f0, (hd.frozen hb lt).trans f1⟩
theorem TwoZ.fresh (w : World) (c0 c1 : Value) (T : TypeId) : TwoZ (w.alloc (.cells #[c0, c1] T)) w.heap.size w.heap.size c0 c1 := ⟨Nat.le_refl _, Two.new w _ _ _, by simp, by simp⟩
theorem TwoZ.put0 {w : World} {B b : Nat} {c0 c1 : Value} (h : TwoZ w B b c0 c1) (v : Value) : TwoZ (w.setCell ⟨b, 0, none⟩ v) B b v c1 := by
 obtain ⟨h0, ⟨k0, k1⟩, f0, f1⟩ := h
 exact ⟨h0, ⟨World.cell?_setCell_same _ _ _ k0, sO k1 (by omega)⟩, (World.frozen?_setCell _ _ _ _).trans f0, (World.frozen?_setCell _ _ _ _).trans f1⟩
theorem TwoZ.put1 {w : World} {B b : Nat} {c0 c1 : Value} (h : TwoZ w B b c0 c1) (v : Value) : TwoZ (w.setCell ⟨b, 1, none⟩ v) B b c0 v := by
 obtain ⟨h0, ⟨k0, k1⟩, f0, f1⟩ := h
 exact ⟨h0, ⟨sO k0 (by omega), World.cell?_setCell_same _ _ _ k1⟩, (World.frozen?_setCell _ _ _ _).trans f0, (World.frozen?_setCell _ _ _ _).trans f1⟩
theorem TwoZ.far {w : World} {B b b' o : Nat} {c0 c1 : Value} (h : TwoZ w B b c0 c1) (hb : b ≠ b') (v : Value) : TwoZ (w.setCell ⟨b', o, none⟩ v) B b c0 c1 := by
 obtain ⟨h0, ⟨k0, k1⟩, f0, f1⟩ := h
 exact ⟨h0, ⟨sO k0 (by omega), sO k1 (by omega)⟩, (World.frozen?_setCell _ _ _ _).trans f0, (World.frozen?_setCell _ _ _ _).trans f1⟩
set_option maxHeartbeats 2000000 in
theorem toConfig_any (sv : Value) (ds : List Int) (cop : Int) (w : World) (hd : Ns w sv ds) (hl : ds.length ≤ 1099511627776) :
  Calls Tryz.prog 34 #[.agg #[sv, .int .i64 cop]] w fun r w' => (∃ o, r = .returned (.agg #[o, .int .i64 cop]) ∧ OwnN w' w.heap.size o ds) ∧ Below w.heap.size w w' := by
 have ha : ∀ (w : World) o, Below w.heap.size w (w.alloc o) := fun w o => (Below.refl _ _).alloc (Nat.le_refl _) o
 have C1 := dH fun W (hb : Below w.heap.size w W) => toIntS_any sv ds W hl (hd.below hb)
 obtain ⟨h0, a, cap, rfl, -, -⟩ := hd
 go_enter Tryz.func34, Tryz.ntmps34
 go_wp2_with fail
 have X1 := Two.new w (.slice a ds.length cap) (.int .i64 cop) 24
 have s1 : (w.alloc (.cells #[.slice a ds.length cap, .int .i64 cop] 24)).heap.size = w.heap.size + 1 := by simp
 have B1 := ha w (.cells #[.slice a ds.length cap, .int .i64 cop] 24)
 generalize w.alloc (.cells #[.slice a ds.length cap, .int .i64 cop] 24) = w1 at *
 have R2 := TwoZ.fresh w1 (.slice none 0 0) (.int .i64 0) 37
 have X2 := X1.kept (ha w1 (.cells #[.slice none 0 0, .int .i64 0] 37))
 have s2 : (w1.alloc (.cells #[.slice none 0 0, .int .i64 0] 37)).heap.size = w.heap.size + 1 + 1 := by simp [s1]
 have B2 := bT B1 (ha w1 (.cells #[.slice none 0 0, .int .i64 0] 37))
 rw [s1] at R2
 generalize w1.alloc (.cells #[.slice none 0 0, .int .i64 0] 37) = w2 at *
 have O3 := TwoZ.fresh w2 (.slice none 0 0) (.int .i64 0) 37
 have X3 := X2.kept (ha w2 (.cells #[.slice none 0 0, .int .i64 0] 37))
 have R3 := R2.kept (ha w2 (.cells #[.slice none 0 0, .int .i64 0] 37))
 have s3 : (w2.alloc (.cells #[.slice none 0 0, .int .i64 0] 37)).heap.size = w.heap.size + 1 + 1 + 1 := by simp [s2]
 have B3 := bT B2 (ha w2 (.cells #[.slice none 0 0, .int .i64 0] 37))
 rw [s2] at O3
 generalize w2.alloc (.cells #[.slice none 0 0, .int .i64 0] 37) = w3 at *
 clear X1 X2 R2 B1 B2 ha s1 s2
 refine (dU C1 _ B3).mono ?_
 rintro e w4 ⟨⟨o, rfl, q4⟩, b4⟩
 obtain ⟨x0, x1⟩ := X3.kept b4
 have R4 := R3.kept b4
 have O4 := O3.kept b4
 have B4 := bT B3 b4
 rw [s3] at q4
 have hq := dH q4
 obtain ⟨-, ao, co, rfl, -, -⟩ := q4
 clear X3 R3 O3 B3 b4 C1
 have O5 := O4.put0 (.slice ao ds.length co)
 have R5 := R4.far (b' := w.heap.size + 1 + 1) (o := 0) (by omega) (.slice ao ds.length co)
 have y5 : (w4.setCell ⟨w.heap.size + 1 + 1, 0, none⟩ (.slice ao ds.length co)).cell? ⟨w.heap.size, 1, none⟩ = some (.int .i64 cop) := sO x1 (.inl (by omega))
 have O6 := O5.put1 (.int .i64 cop)
 have R6 := R5.far (b' := w.heap.size + 1 + 1) (o := 1) (by omega) (.int .i64 cop)
 have R7 := R6.put0 (.slice ao ds.length co)
 have R8 := R7.put1 (.int .i64 cop)
 have q8 := dH ((((OwnN.far (dU hq) (b := w.heap.size + 1 + 1) (o := 0) (by omega) (.slice ao ds.length co)).far (b := w.heap.size + 1 + 1) (o := 1) (by omega) (.int .i64 cop)).far (b := w.heap.size + 1) (o := 0) (by omega) (.slice ao ds.length co)).far (b := w.heap.size + 1) (o := 1) (by omega) (.int .i64 cop))
 have B8 := dH ((((B4.setCell (p := ⟨w.heap.size + 1 + 1, 0, none⟩) (show w.heap.size ≤ w.heap.size + 1 + 1 by omega) (.slice ao ds.length co)).setCell (p := ⟨w.heap.size + 1 + 1, 1, none⟩) (show w.heap.size ≤ w.heap.size + 1 + 1 by omega) (.int .i64 cop)).setCell (p := ⟨w.heap.size + 1, 0, none⟩) (show w.heap.size ≤ w.heap.size + 1 by omega) (.slice ao ds.length co)).setCell (p := ⟨w.heap.size + 1, 1, none⟩) (show w.heap.size ≤ w.heap.size + 1 by omega) (.int .i64 cop))
 obtain ⟨-, ⟨o40, o41⟩, g40, g41⟩ := O4
 obtain ⟨-, ⟨o50, o51⟩, g50, g51⟩ := O5
 obtain ⟨-, ⟨o60, o61⟩, g60, g61⟩ := O6
 obtain ⟨-, ⟨r60, r61⟩, f60, f61⟩ := R6
 obtain ⟨-, ⟨r70, r71⟩, f70, f71⟩ := R7
 obtain ⟨-, ⟨r80, r81⟩, -⟩ := R8
 clear R4 R5 B4 hq
 go_wp2
 generalize ((((w4.setCell ⟨w.heap.size + 1 + 1, 0, none⟩ (.slice ao ds.length co)).setCell ⟨w.heap.size + 1 + 1, 1, none⟩ (.int .i64 cop)).setCell ⟨w.heap.size + 1, 0, none⟩ (.slice ao ds.length co)).setCell ⟨w.heap.size + 1, 1, none⟩ (.int .i64 cop)) = V at *
 refine bodyPost_ret (v := .agg #[(.slice ao ds.length co), (.int .i64 cop)]) (by simp [results, Tryz.results34, go_sem, r80, r81]) rfl ⟨⟨_, rfl, (dU q8).mono (by omega)⟩, dU B8⟩
def RdIntS (v : Value) (m : List Int) (W : World) : Prop := Ns W v m
def OwIntS (lo hi : Nat) (v : Value) (m : List Int) (W : World) : Prop := OwN lo hi v m W
def sizIntS (m : List Int) : Nat := m.length
theorem OwIntS.rd {lo hi : Nat} {v : Value} {m : List Int} {W : World} (h : OwIntS lo hi v m W) : RdIntS v m W := OwN.rd h
theorem RdIntS.below {v : Value} {m : List Int} {W W' : World} (h : RdIntS v m W) (b : Below W.heap.size W W') : RdIntS v m W' := Ns.below h b
theorem toIntS_ (v : Value) (m : List Int) (w : World) (hl : sizIntS m ≤ 1048576) (h : RdIntS v m w) :
  Calls Tryz.prog 36 #[v] w fun e w' => ∃ u, e = .returned u ∧ Sits (OwIntS w.heap.size w'.heap.size u m) w.heap.size w'.heap.size w' ∧ Below w.heap.size w w' := toN v m w (by unfold sizIntS at hl; omega) h
theorem eqIntS_ (u v : Value) (m : List Int) (w : World) (hu : RdIntS u m w) (hv : RdIntS v m w) :
  Calls Tryz.prog 45 #[u, v] w fun e w' => e = .returned (.bool true) ∧ Below w.heap.size w w' := eqIntS_yes u v m w hu hv
def RdConfig (v : Value) (m : List Int × Int) (W : World) : Prop := ∃ sv, v = .agg #[sv, .int .i64 m.2] ∧ Ns W sv m.1
def OwConfig (lo hi : Nat) (v : Value) (m : List Int × Int) (W : World) : Prop := ∃ sv, v = .agg #[sv, .int .i64 m.2] ∧ OwN lo hi sv m.1 W
def sizConfig (m : List Int × Int) : Nat := m.1.length
theorem OwConfig.rd {lo hi : Nat} {v : Value} {m : List Int × Int} {W : World} (h : OwConfig lo hi v m W) : RdConfig v m W := by
 obtain ⟨sv, h1, h2⟩ := h; exact ⟨sv, h1, h2.rd⟩
theorem RdConfig.below {v : Value} {m : List Int × Int} {W W' : World} (h : RdConfig v m W) (b : Below W.heap.size W W') : RdConfig v m W' := by
 obtain ⟨sv, h1, h2⟩ := h; exact ⟨sv, h1, h2.below b⟩
theorem formConfig {v : Value} {m : List Int × Int} {W : World} (h : RdConfig v m W) : ∃ a cap, v = .agg #[.slice a m.1.length cap, .int .i64 m.2] ∧ m.1.length ≤ 9223372036854775807 := by
 obtain ⟨sv, rfl, h0, a, cap, rfl, -, -⟩ := h
 exact ⟨a, cap, rfl, h0⟩
theorem szConfig_ (v : Value) (m : List Int × Int) (left : Int) (l0 : 0 ≤ left) (l1 : left ≤ 1048576) (w : World) (h : RdConfig v m w) :
  Calls Tryz.prog 24 #[v, .int .i64 left] w fun e w' => e = .returned (.int .i64 (lft left (sizConfig m))) ∧ Below w.heap.size w w' := by
 obtain ⟨sv, rfl, h⟩ := h
 exact szConfig_any sv m.1 m.2 left l0 l1 w h
theorem toConfig_ (v : Value) (m : List Int × Int) (w : World) (hl : sizConfig m ≤ 1048576) (h : RdConfig v m w) :
  Calls Tryz.prog 34 #[v] w fun e w' => ∃ u, e = .returned u ∧ Sits (OwConfig w.heap.size w'.heap.size u m) w.heap.size w'.heap.size w' ∧ Below w.heap.size w w' := by
 obtain ⟨sv, rfl, h⟩ := h
 refine (toConfig_any sv m.1 m.2 w h (by unfold sizConfig at hl; omega)).mono fun e w' ⟨⟨o, h1, h2⟩, h3⟩ => ⟨_, h1, h2.sits.imp fun W hW => ⟨o, rfl, hW⟩, h3⟩
theorem eqConfig_ (u v : Value) (m : List Int × Int) (w : World) (hu : RdConfig u m w) (hv : RdConfig v m w) :
  Calls Tryz.prog 43 #[u, v] w fun e w' => e = .returned (.bool true) ∧ Below w.heap.size w w' := by
 obtain ⟨su, rfl, hu⟩ := hu
 obtain ⟨sv, rfl, hv⟩ := hv
 exact eqConfig_yes su sv m.1 m.2 w hu hv
def okConfig (m : List Int × Int) : Prop := allInt m.1 ∧ -9223372036854775808 ≤ m.2 ∧ m.2 ≤ 9223372036854775807
structure Wd where
 data : ByteArray
 acks : List Int
 done : Bool
structure Wt where
 epoch : Int
 words : List Wd
def wdCl (p : Nst Wd) : List Value := [.string p.m.data, Sv Wd.acks p, .bool p.m.done]
theorem wdCl_len (p : Nst Wd) : (wdCl p).length = 3 := rfl
theorem elemW : Elem (α := Nst Wd) 184 114 (.agg #[.string ⟨#[]⟩, .slice none 0 0, .bool false]) 3 48 wdCl where
 under := Tryz.underlying114
 info := by kernel_rfl
 zcells := by kernel_rfl
 pos := by decide
 len := wdCl_len
 one := fun a u hu => by
  simp only [wdCl, List.mem_cons, List.not_mem_nil, or_false] at hu
  rcases hu with rfl | rfl | rfl <;> rfl
def WdAt (w : World) (b o : Nat) (p : Nst Wd) : Prop := w.cell? ⟨b, o, none⟩ = some (.string p.m.data) ∧ w.cell? ⟨b, o + 1, none⟩ = some (.slice p.a p.m.acks.length p.c) ∧ w.cell? ⟨b, o + 2, none⟩ = some (.bool p.m.done)
theorem WdAt.below {w w' : World} {b o : Nat} {p : Nst Wd} (h : WdAt w b o p) (hb : Below w.heap.size w w') : WdAt w' b o p :=
 ⟨(hb.cell (p := ⟨b, o, none⟩) (dCell_lt h.1)).trans h.1, (hb.cell (p := ⟨b, o + 1, none⟩) (dCell_lt h.2.1)).trans h.2.1, (hb.cell (p := ⟨b, o + 2, none⟩) (dCell_lt h.2.2)).trans h.2.2⟩
theorem Rw.word {w : World} {a : Option Addr} {n cap : Nat} {rs : List (Nst Wd)} (h : Rw 3 wdCl w (.slice a n cap) rs) {k : Nat} (hk : k < rs.length) : ∃ b off, a = some ⟨b, off, none⟩ ∧ ∀ i (hi : i < rs.length), WdAt w b (off + i * 3) rs[i] := by
 obtain ⟨b, off, e, hc⟩ := h.el hk
 exact ⟨b, off, e, fun i hi => ⟨hc i hi 0 _ rfl, hc i hi 1 _ rfl, hc i hi 2 _ rfl⟩⟩
def sumW (ms : List Wd) : Nat := (ms.map fun e => e.acks.length).sum
theorem sumW_take (ms : List Wd) (k : Nat) (h : k < ms.length) : sumW (ms.take (k + 1)) = sumW (ms.take k) + ms[k].acks.length := by
 unfold sumW
 rw [List.take_succ_eq_append_getElem h, List.map_append, List.sum_append, List.map_cons, List.map_nil, List.sum_cons, List.sum_nil, Nat.add_zero]
theorem sumW_le (ms : List Wd) (k : Nat) : sumW (ms.take k) ≤ sumW ms := by
 unfold sumW
 conv => rhs; rw [← List.take_append_drop k ms, List.map_append, List.sum_append]
 exact Nat.le_add_right _ _
theorem sumW_mem {ms : List Wd} {k : Nat} (h : k < ms.length) : ms[k].acks.length ≤ sumW ms := by
 have h1 := sumW_take ms k h
 have h2 := sumW_le ms (k + 1)
 omega
def sumX (ms : List Wd) : Nat := (ms.map fun e => e.data.size).sum
theorem sumX_take (ms : List Wd) (k : Nat) (h : k < ms.length) : sumX (ms.take (k + 1)) = sumX (ms.take k) + ms[k].data.size := by
 unfold sumX
 rw [List.take_succ_eq_append_getElem h, List.map_append, List.sum_append, List.map_cons, List.map_nil, List.sum_cons, List.sum_nil, Nat.add_zero]
theorem sumX_le (ms : List Wd) (k : Nat) : sumX (ms.take k) ≤ sumX ms := by
 unfold sumX
 conv => rhs; rw [← List.take_append_drop k ms, List.map_append, List.sum_append]
 exact Nat.le_add_right _ _
def RdWordS (v : Value) (ms : List Wd) (W : World) : Prop := RdK 3 Wd.acks wdCl v ms W
def OwWordS (lo hi : Nat) (v : Value) (ms : List Wd) (W : World) : Prop := OwK 3 Wd.acks wdCl lo hi v ms W
def RdWriter (v : Value) (m : Wt) (W : World) : Prop := ∃ sv, v = .agg #[.int .i64 m.epoch, sv] ∧ RdWordS sv m.words W
def OwWriter (lo hi : Nat) (v : Value) (m : Wt) (W : World) : Prop := ∃ sv, v = .agg #[.int .i64 m.epoch, sv] ∧ OwWordS lo hi sv m.words W
def sizWordS (m : List Wd) : Nat := m.length + sumX m + sumW m
def sizWriter (m : Wt) : Nat := sizWordS m.words
theorem OwWriter.rd {lo hi : Nat} {v : Value} {m : Wt} {W : World} (h : OwWriter lo hi v m W) : RdWriter v m W := by
 obtain ⟨sv, h1, h2⟩ := h
 exact ⟨sv, h1, OwK.rd h2⟩
theorem RdWriter.below {v : Value} {m : Wt} {W W' : World} (h : RdWriter v m W) (b : Below W.heap.size W W') : RdWriter v m W' := by
 obtain ⟨sv, h1, h2⟩ := h
 exact ⟨sv, h1, RdK.below h2 b⟩
theorem formWriter {v : Value} {m : Wt} {W : World} (h : RdWriter v m W) : ∃ a cap, v = .agg #[.int .i64 m.epoch, .slice a m.words.length cap] ∧ m.words.length ≤ 9223372036854775807 := by
 obtain ⟨sv, rfl, h⟩ := h
 obtain ⟨a, cap, rfl, h0⟩ := formK h
 exact ⟨a, cap, rfl, h0⟩
theorem OwWriter.sits {lo hi : Nat} {w : World} {v : Value} {m : Wt} (h : OwWriter lo hi v m w) (hf : hi ≤ w.heap.size) : Sits (OwWriter lo hi v m) lo hi w := by
 obtain ⟨sv, h1, h2⟩ := h
 have s2 := OwK.sits h2 hf
 exact ⟨hf, fun W hW => ⟨sv, h1, s2.all W hW⟩⟩
def txtW (ms : List Wd) : Prop := ∀ e ∈ ms, e.data.size ≤ 9223372036854775807
theorem szWord_any (p : Nst Wd) (left : Int) (l0 : 0 ≤ left) (l1 : left ≤ 1048576) (w : World) (ht : p.m.data.size ≤ 9223372036854775807) (h : Ns w (Sv Wd.acks p) p.m.acks) :
  Calls Tryz.prog 137 #[.agg #[.string p.m.data, .slice p.a p.m.acks.length p.c, .bool p.m.done], .int .i64 left] w fun r w' => r = .returned (.int .i64 (lft left (p.m.data.size + p.m.acks.length))) ∧ Below w.heap.size w w' := by
 have hb0 : ∀ o, Below w.heap.size w (w.alloc o) := fun o => (Below.refl _ _).alloc (Nat.le_refl _) o
 by_cases hd : left < (p.m.data.size : Int)
 ·rw [lft_no (show left < ((p.m.data.size + p.m.acks.length : Nat) : Int) by omega)]
  have hd' : left - (p.m.data.size : Int) < 0 := by omega
  clear hd h
  go_enter Tryz.func137, Tryz.ntmps137
  go_wp2
  go_ret
  exact ⟨rfl, hb0 _⟩
 have hd' : ¬ (left - (p.m.data.size : Int) < 0) := by omega
 have C1 := dH fun o => szIntS_any _ p.m.acks (left - (p.m.data.size : Int)) (by omega) (by omega) (w.alloc o) (h.below (hb0 o))
 clear h
 unfold Sv at C1
 by_cases hl : left - (p.m.data.size : Int) < (p.m.acks.length : Int)
 ·rw [show left1 p.m.acks.length (left - (p.m.data.size : Int)) = -1 from if_pos hl] at C1
  rw [lft_no (show left < ((p.m.data.size + p.m.acks.length : Nat) : Int) by omega)]
  clear hl hd
  go_enter Tryz.func137, Tryz.ntmps137
  go_wp2_with fail
  refine (dU C1 _).mono ?_
  rintro e w1 ⟨rfl, rfl⟩
  go_wp2
  go_ret
  exact ⟨rfl, hb0 _⟩
 ·rw [show left1 p.m.acks.length (left - (p.m.data.size : Int)) = left - (p.m.data.size : Int) - (p.m.acks.length : Int) from if_neg hl] at C1
  rw [lft_yes (show ¬ left < ((p.m.data.size + p.m.acks.length : Nat) : Int) by omega), show left - ((p.m.data.size + p.m.acks.length : Nat) : Int) = left - (p.m.data.size : Int) - (p.m.acks.length : Int) by omega]
  have hd2 : ¬ (left - (p.m.data.size : Int) - (p.m.acks.length : Int) < 0) := by omega
  clear hl hd
  go_enter Tryz.func137, Tryz.ntmps137
  go_wp2_with fail
  refine (dU C1 _).mono ?_
  rintro e w1 ⟨rfl, rfl⟩
  go_wp2
  go_ret
  exact ⟨rfl, hb0 _⟩
def sumB (ms : List Wd) (k : Nat) : Nat := sumX (ms.take k) + sumW (ms.take k)
theorem sumB_step (ms : List Wd) (k : Nat) (h : k < ms.length) : sumB ms (k + 1) = sumB ms k + (ms[k].data.size + ms[k].acks.length) := by
 unfold sumB
 rw [sumX_take ms k h, sumW_take ms k h]
 omega
theorem sumB_le (ms : List Wd) (k : Nat) : sumB ms k ≤ sumX ms + sumW ms := by
 have h1 := sumX_le ms k
 have h2 := sumW_le ms k
 unfold sumB
 omega
set_option maxHeartbeats 2000000 in
theorem szWordS_any (v : Value) (ms : List Wd) (left : Int) (l0 : 0 ≤ left) (l1 : left ≤ 1048576) (ht : txtW ms) (w : World) (hv : RdWordS v ms w) :
  Calls Tryz.prog 86 #[v, .int .i64 left] w fun r w' => r = .returned (.int .i64 (lft left (sizWordS ms))) ∧ Below w.heap.size w w' := by
 obtain ⟨rs, rfl, hr, hn⟩ := hv
 have HV := dH fun W (hb : Below w.heap.size w W) => hr.below hb
 have HN := dH fun W (hb : Below w.heap.size w W) k (hk : k < rs.length) => (hn _ (List.getElem_mem hk)).below hb
 have HT := dH fun k (hk : k < rs.length) => ht _ (List.mem_map.2 ⟨_, List.getElem_mem hk, rfl⟩)
 obtain ⟨h0, a, cap, rfl, -, -⟩ := hr
 have e0 : sizWordS (rs.map Nst.m) = rs.length + (sumX (rs.map Nst.m) + sumW (rs.map Nst.m)) := by unfold sizWordS; rw [List.length_map]; omega
 rw [e0]
 clear hn e0 ht
 by_cases hl : left < (rs.length : Int)
 ·have e1 : lft left (rs.length + (sumX (rs.map Nst.m) + sumW (rs.map Nst.m))) = -1 := lft_no (by omega)
  rw [e1]
  have hd : left - (rs.length : Int) < 0 := by omega
  clear HV HN HT e1
  go_enter Tryz.func86, Tryz.ntmps86
  go_wp2
  go_ret
  exact ⟨rfl, Below.refl _ _⟩
 ·have hd : ¬ left - (rs.length : Int) < 0 := by omega
  have hs3 := sumB_le (rs.map Nst.m)
  have hs4 : sumB (rs.map Nst.m) rs.length = sumX (rs.map Nst.m) + sumW (rs.map Nst.m) := by unfold sumB; rw [List.take_of_length_le (by rw [List.length_map]; omega)]
  generalize sumX (rs.map Nst.m) + sumW (rs.map Nst.m) = SB at *
  have LN : Hid (left < ((rs.length + SB : Nat) : Int) → lft left (rs.length + SB) = -1) := lft_no
  have LY : Hid (¬ left < ((rs.length + SB : Nat) : Int) → lft left (rs.length + SB) = left - ((rs.length + SB : Nat) : Int)) := lft_yes
  generalize lft left (rs.length + SB) = M at *
  have HS3 := dH hs3
  have HS4 := dH hs4
  clear hs3 hs4
  go_enter Tryz.func86, Tryz.ntmps86
  go_wp2
  go_loopw [5, 1] (fun x y wr => ∃ (k : Nat) (q : Int), x = .int .i64 (k : Int) ∧ y = .int .i64 q ∧ k ≤ rs.length ∧ 0 ≤ q ∧ q ≤ 1048576 ∧ Hid (q = left - (rs.length : Int) - (sumB (rs.map Nst.m) k : Int)) ∧ Below w.heap.size w wr) (fun x _ _ => rs.length - (intOf x).toNat)
  case atStart => exact ⟨0, _, rfl, rfl, Nat.zero_le _, by omega, by omega, by simp [Hid, sumB, sumX, sumW], Below.refl _ _⟩
  case round =>
   obtain ⟨k, q, rfl, rfl, hk, q0, q1, hq, hb⟩ := hrel
   by_cases hlt : (k : Int) < (rs.length : Int)
   ·have hkl : k < rs.length := by omega
    obtain ⟨b, off, rfl, hc⟩ := (dU HV wr hb).word hkl
    have hs := sumB_step (rs.map Nst.m) k (by simpa using hkl)
    have hs2 := dU HS3 (k + 1)
    rw [List.getElem_map] at hs
    have CE := dH fun W (hB : Below wr.heap.size wr W) => szWord_any rs[k] q q0 q1 W (dU HT k hkl) (dU HN W (bT hb hB) k hkl)
    obtain ⟨c0, c1, c2⟩ := hc k hkl
    have hq' := dU hq
    generalize rs[k] = y at *
    obtain ⟨ya, yc, yd, yn, yb⟩ := y
    simp only at *
    by_cases hn : q < ((yd.size + yn.length : Nat) : Int)
    ·rw [lft_no hn] at CE
     have e1 := dU LN (by omega)
     subst e1
     clear hc HV HN HT HS3 HS4 hq' hq hs hs2 hn LN LY
     go_wp2_with fail
     refine (dU CE _ (Below.refl _ _)).mono ?_
     rintro r w2 ⟨rfl, b2⟩
     have hb2 := bT hb b2
     clear CE b2 c0 c1 c2 hb
     go_wp2
     go_ret
     exact ⟨rfl, hb2⟩
    ·rw [lft_yes hn] at CE
     have e1 : Hid (q - ((yd.size + yn.length : Nat) : Int) = left - (rs.length : Int) - (sumB (rs.map Nst.m) (k + 1) : Int)) := by rw [Hid, hs]; omega
     have q0' : 0 ≤ q - ((yd.size + yn.length : Nat) : Int) := by omega
     have q1' : q - ((yd.size + yn.length : Nat) : Int) ≤ 1048576 := by omega
     generalize q - ((yd.size + yn.length : Nat) : Int) = q' at *
     have hd' : ¬ q' < 0 := by omega
     clear hc hq' hq hs hs2 hn
     go_wp2_with fail
     refine (dU CE _ (Below.refl _ _)).mono ?_
     rintro r w2 ⟨rfl, b2⟩
     have hb2 := bT hb b2
     clear CE b2 c0 c1 c2 hb
     go_wp2
     go_roundw
     case rel => exact ⟨k + 1, q', by go_num, rfl, by omega, q0', q1', e1, hb2⟩
     case measure => simp [intOf]; omega
   ·have e1 : k = rs.length := by omega
    have hq' := dU hq
    rw [e1, dU HS4] at hq'
    have e2 := dU LY (by omega)
    have e3 : Hid (q = M) := by rw [Hid, e2, hq']; omega
    clear hq hq' e1 e2 LN LY HV HN HT HS3 HS4
    go_wp2
    go_ret
    exact ⟨by rw [← dU e3]; rfl, hb⟩
theorem szWriter_ (v : Value) (m : Wt) (left : Int) (l0 : 0 ≤ left) (l1 : left ≤ 1048576) (ht : txtW m.words) (w : World) (h : RdWriter v m w) :
  Calls Tryz.prog 57 #[v, .int .i64 left] w fun e w' => e = .returned (.int .i64 (lft left (sizWriter m))) ∧ Below w.heap.size w w' := by
 have hb0 : ∀ o, Below w.heap.size w (w.alloc o) := fun o => (Below.refl _ _).alloc (Nat.le_refl _) o
 obtain ⟨sv, rfl, h⟩ := h
 have C1 := dH fun W (hb : Below w.heap.size w W) => szWordS_any sv m.words left l0 l1 ht W (RdK.below h hb)
 obtain ⟨a, cap, rfl, -⟩ := formK h
 have e0 : sizWriter m = sizWordS m.words := rfl
 rw [e0]
 have hL : lft left (sizWordS m.words) < 0 → lft left (sizWordS m.words) = -1 := fun h => by
  unfold lft at h ⊢
  split
  ·rfl
  ·rename_i h2; rw [if_neg h2] at h; omega
 generalize lft left (sizWordS m.words) = M at *
 have HL := dH hL
 clear hL h e0 ht
 go_enter Tryz.func57, Tryz.ntmps57
 go_wp2_with fail
 refine (dU C1 _ (hb0 _)).mono ?_
 rintro r w1 ⟨rfl, b1⟩
 have B1 := bT (hb0 _) b1
 clear b1 hb0 C1
 by_cases hM : M < 0
 ·have e1 := dU HL hM
  subst e1
  go_wp2
  go_ret
  exact ⟨rfl, B1⟩
 ·go_wp2
  go_ret
  exact ⟨rfl, B1⟩
set_option maxHeartbeats 2000000 in
theorem eqWord_yes (p q : Nst Wd) (w : World) (hm : p.m = q.m) (h : Ns w (Sv Wd.acks p) p.m.acks) (h' : Ns w (Sv Wd.acks q) q.m.acks) :
  Calls Tryz.prog 187 #[.agg #[.string p.m.data, .slice p.a p.m.acks.length p.c, .bool p.m.done], .agg #[.string q.m.data, .slice q.a q.m.acks.length q.c, .bool q.m.done]] w fun r w' => r = .returned (.bool true) ∧ Below w.heap.size w w' := by
 obtain ⟨pa, pc, m⟩ := p
 obtain ⟨qa, qc, m'⟩ := q
 cases hm
 have hb0 : ∀ o o', Below w.heap.size w ((w.alloc o).alloc o') := fun o o' => ((Below.refl _ _).alloc (Nat.le_refl _) o).alloc (by simp) o'
 have C1 := dH fun o o' => eqIntS_yes _ _ m.acks ((w.alloc o).alloc o') (h.below (hb0 o o')) (h'.below (hb0 o o'))
 unfold Sv at C1
 clear h h'
 simp only at *
 obtain ⟨yd, yn, yb⟩ := m
 simp only at *
 have X0 := (Bx.new w [.string yd, .slice pa yn.length pc, .bool yb] 184).below ((Below.refl _ _).alloc (Nat.le_refl _) (.cells #[.string yd, .slice qa yn.length qc, .bool yb] 184))
 have Y0 := Bx.new (w.alloc (.cells #[.string yd, .slice pa yn.length pc, .bool yb] 184)) [.string yd, .slice qa yn.length qc, .bool yb] 184
 have e1 : (w.alloc (.cells #[.string yd, .slice pa yn.length pc, .bool yb] 184)).heap.size = w.heap.size + 1 := by simp
 rw [e1] at Y0
 clear e1
 go_enter Tryz.func187, Tryz.ntmps187
 go_wp2_with fail
 refine (dU C1 _ _).mono ?_
 rintro e w1 ⟨rfl, b1⟩
 have B1 := bT (hb0 _ _) b1
 have X1 := X0.below b1
 have Y1 := Y0.below b1
 have k2 := X1 2 _ rfl
 have j2 := Y1 2 _ rfl
 clear X0 Y0 b1 hb0 C1 X1 Y1
 go_wp2
 go_ret
 exact ⟨rfl, B1⟩
set_option maxHeartbeats 4000000 in
theorem eqWordS_ (u v : Value) (m : List Wd) (w : World) (hu : RdWordS u m w) (hv : RdWordS v m w) :
  Calls Tryz.prog 133 #[u, v] w fun e w' => e = .returned (.bool true) ∧ Below w.heap.size w w' := by
 obtain ⟨rs, e1, hr, hn⟩ := hu
 obtain ⟨ss, e2, hs, hp⟩ := hv
 have el : rs.length = ss.length := by rw [← List.length_map (f := Nst.m), e1, ← e2, List.length_map]
 have em : Hid (∀ k (h : k < rs.length) (h' : k < ss.length), rs[k].m = ss[k].m) := fun k h h' => by
  have q1 : (rs.map Nst.m)[k]? = (ss.map Nst.m)[k]? := by rw [e1, e2]
  rw [List.getElem?_map, List.getElem?_map, List.getElem?_eq_getElem h, List.getElem?_eq_getElem h'] at q1
  simpa using q1
 have HU := dH fun W (hb : Below w.heap.size w W) => hr.below hb
 have HV := dH fun W (hb : Below w.heap.size w W) => hs.below hb
 have HN := dH fun W (hb : Below w.heap.size w W) k (hk : k < rs.length) => (hn _ (List.getElem_mem hk)).below hb
 have HP := dH fun W (hb : Below w.heap.size w W) k (hk : k < ss.length) => (hp _ (List.getElem_mem hk)).below hb
 obtain ⟨h0, a, cap, rfl, -, -⟩ := hr
 obtain ⟨h0', a', cap', rfl, -, -⟩ := hs
 rw [← el]
 have EL := dH el
 clear hn hp e1 e2 el h0'
 go_enter Tryz.func133, Tryz.ntmps133
 go_wp2
 go_loopw [5] (fun i wr => ∃ k : Nat, i = .int .i64 (k : Int) ∧ k ≤ rs.length ∧ Below w.heap.size w wr) (fun i _ => rs.length - (intOf i).toNat)
 case atStart => exact ⟨0, rfl, Nat.zero_le _, Below.refl _ _⟩
 case round =>
  obtain ⟨k, rfl, hk, hb⟩ := hrel
  by_cases hlt : (k : Int) < (rs.length : Int)
  ·have hkl : k < rs.length := by omega
   have hkl' : k < ss.length := by rw [← dU EL]; exact hkl
   obtain ⟨b, off, rfl, hc⟩ := (dU HU wr hb).word hkl
   obtain ⟨b', off', rfl, hc'⟩ := (dU HV wr hb).word hkl'
   have E1 := dH (hc k hkl)
   have E2 := dH (hc' k hkl')
   obtain ⟨c0, c1, c2⟩ := hc k hkl
   obtain ⟨e0, e1, e2⟩ := hc' k hkl'
   have CE := dH fun W (hB : Below wr.heap.size wr W) => eqWord_yes rs[k] ss[k] W (dU em k hkl hkl') (dU HN W (bT hb hB) k hkl) (dU HP W (bT hb hB) k hkl')
   generalize rs[k] = y at *
   generalize ss[k] = y' at *
   obtain ⟨ya, yc, yd, yn, yb⟩ := y
   obtain ⟨za, zc, zd, zn, zb⟩ := y'
   unfold WdAt at E1 E2
   simp only at *
   clear hc hc' HU HV HN HP em
   have hbr : Below wr.heap.size wr wr.drew := (Below.refl _ _).drew
   go_wp2_with fail
   go_region_held3 (fun W => (W.cell? ⟨b, off + k * 3, none⟩ = some (.string yd) ∧ W.cell? ⟨b, off + k * 3 + 1, none⟩ = some (.slice ya yn.length yc) ∧ W.cell? ⟨b, off + k * 3 + 2, none⟩ = some (.bool yb)) ∧ W.cell? ⟨b', off' + k * 3, none⟩ = some (.string zd) ∧ W.cell? ⟨b', off' + k * 3 + 1, none⟩ = some (.slice za zn.length zc) ∧ W.cell? ⟨b', off' + k * 3 + 2, none⟩ = some (.bool zb)) (first | exact ⟨WdAt.below (p := ⟨ya, yc, yd, yn, yb⟩) (dU E1) hb5, WdAt.below (p := ⟨za, zc, zd, zn, zb⟩) (dU E2) hb5⟩ | go_keep)
    (first
     | (go_at_call 187; refine (dU CE _ hbr).mono ?_; rintro r w5 ⟨rfl, b5⟩; have hb5 := bT hbr b5))
   all_goals
    go_wp2
    go_roundw
    case rel => exact ⟨k + 1, by go_num, by omega, bT hb hb5⟩
    case measure => simp [intOf]; omega
  ·clear HU HV HN HP em
   go_wp2
   go_ret
   exact ⟨rfl, hb⟩
set_option maxHeartbeats 2000000 in
theorem eqWriter_ (u v : Value) (m : Wt) (w : World) (hu : RdWriter u m w) (hv : RdWriter v m w) :
  Calls Tryz.prog 78 #[u, v] w fun e w' => e = .returned (.bool true) ∧ Below w.heap.size w w' := by
 have hb0 : ∀ o o', Below w.heap.size w ((w.alloc o).alloc o') := fun o o' => ((Below.refl _ _).alloc (Nat.le_refl _) o).alloc (by simp) o'
 obtain ⟨su, rfl, hu⟩ := hu
 obtain ⟨sv, rfl, hv⟩ := hv
 have C1 := dH fun W (hb : Below w.heap.size w W) => eqWordS_ su sv m.words W (RdK.below hu hb) (RdK.below hv hb)
 obtain ⟨a, cap, rfl, -⟩ := formK hu
 obtain ⟨a', cap', rfl, -⟩ := formK hv
 generalize m.epoch = sl at *
 have X0 := (Bx.new w [.int .i64 sl, .slice a m.words.length cap] 116).below ((Below.refl _ _).alloc (Nat.le_refl _) (.cells #[.int .i64 sl, .slice a' m.words.length cap'] 116))
 have Y0 := Bx.new (w.alloc (.cells #[.int .i64 sl, .slice a m.words.length cap] 116)) [.int .i64 sl, .slice a' m.words.length cap'] 116
 have e1 : (w.alloc (.cells #[.int .i64 sl, .slice a m.words.length cap] 116)).heap.size = w.heap.size + 1 := by simp
 rw [e1] at Y0
 clear e1 hu hv
 go_enter Tryz.func78, Tryz.ntmps78
 go_wp2_with fail
 refine (dU C1 _ (hb0 _ _)).mono ?_
 rintro e w1 ⟨rfl, b1⟩
 have B1 := bT (hb0 _ _) b1
 clear X0 Y0 b1 hb0 C1
 go_wp2
 go_ret
 exact ⟨rfl, B1⟩
theorem elemN : Elem (α := Int) 3 22 (.int .i64 0) 1 8 (fun x => [.int .i64 x]) where
 under := Tryz.underlying22
 info := by kernel_rfl
 zcells := by kernel_rfl
 pos := by decide
 len := fun _ => rfl
 one := fun a u hu => by simp at hu; subst hu; rfl
theorem OwnRw.n1 {w : World} {base : Nat} {v : Value} {xs : List Int} (h : OwnRw 1 (fun x => [.int .i64 x]) w base v xs) : OwnN w base v xs := by
 obtain ⟨h0, a, cap, rfl, hcap, h⟩ := h
 refine ⟨h0, a, cap, rfl, hcap, ?_⟩
 rcases h with h | ⟨b, off, rfl, hb, hc⟩
 ·exact .inl h
 ·exact .inr ⟨b, off, rfl, hb, fun i hi => by simpa using hc i hi 0 _ rfl⟩
theorem OwnN.grown {w w' : World} {base : Nat} {v : Value} {xs : List Int} {row : Option Nat} (h : OwnN w base v xs) (g : w.grownBy w' row) (hn : xs = [] ∨ row ≠ some (bO v)) : OwnN w' base v xs := by
 have hlt := h.bs.lt
 obtain ⟨h0, a, cap, rfl, hcap, h⟩ := h
 refine ⟨h0, a, cap, rfl, hcap, ?_⟩
 rcases hn with hn | hn
 ·exact .inl hn
 ·rcases h with h | ⟨b, off, rfl, hb, hc⟩
  ·exact .inl h
  ·rcases hlt with hlt | hlt
   ·exact .inl hlt
   ·have e := g.block b hlt (fun e => hn e.symm)
    exact .inr ⟨b, off, rfl, hb, fun i hi => ⟨(World.cell?_of_block (a := ⟨b, off + i, none⟩) e).trans (hc i hi).1, (World.frozen?_of_block (a := ⟨b, off + i, none⟩) e).trans (hc i hi).2⟩⟩
end Go.Proofs.YtekgkjomdpjkbaaGreat
