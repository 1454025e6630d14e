/- spec's StoreSync, StoreSeal. -/
import Derived.Test.YtejmfohkobhidaaStK
namespace Go.Proofs.Ytejmfohkobhidaa
open Go.ChangeShapes Go.WideShapes Go.ChangeAt Go.RowKit
set_option linter.unusedVariables false
set_option linter.unusedSimpArgs false
set_option maxRecDepth 100000

/-- A store's value goes into a record's block below. -/
theorem OwS.into {w3 : World} {base B rb : Nat} {s : St} {x y z c0 c1 c2 : Value} (O : OwS w3 base (.agg #[c0, c1, c2]) s) (hrb : rb < base) (Z : BxZ w3 B rb [x, y, z]) :
    Bx (((w3.setCell ⟨rb, 0, none⟩ c0).setCell ⟨rb, 1, none⟩ c1).setCell ⟨rb, 2, none⟩ c2) rb [c0, c1, c2] ∧ OwS (((w3.setCell ⟨rb, 0, none⟩ c0).setCell ⟨rb, 1, none⟩ c1).setCell ⟨rb, 2, none⟩ c2) base (.agg #[c0, c1, c2]) s :=
  ⟨(((Z.put 0 c0).put 1 c1).put 2 c2).bx, ((O.far (b := rb) (o := 0) hrb c0).far (b := rb) (o := 1) hrb c1).far (b := rb) (o := 2) hrb c2⟩
theorem below_three {w0 w : World} {B rb : Nat} (h : Below B w0 w) (hb : B ≤ rb) (c0 c1 c2 : Value) : Below B w0 (((w.setCell ⟨rb, 0, none⟩ c0).setCell ⟨rb, 1, none⟩ c1).setCell ⟨rb, 2, none⟩ c2) :=
  ((h.setCell (p := ⟨rb, 0, none⟩) hb c0).setCell (p := ⟨rb, 1, none⟩) hb c1).setCell (p := ⟨rb, 2, none⟩) hb c2
set_option maxHeartbeats 4000000 in
theorem specSync_any (v : Value) (s : St) (w : World) (hv : Rs w v s) (hf : fitS s) :
    Calls Try.prog 88 #[v] w fun r w' => (∃ u, r = .returned (.tuple #[u, .bool (crashM s 1048575).2]) ∧ OwS w' w.heap.size u (crashM s 1048575).1) ∧ Below w.heap.size w w' := by
  have ba : ∀ (w : World) o, Below w.heap.size w (w.alloc o) := fun w o => (Below.refl _ _).alloc (Nat.le_refl _) o
  have C1 := dHide fun W (hb : Below w.heap.size w W) => specCrash_any v s 1048575 W (hv.below hb) hf
  generalize crashM s 1048575 = M at *
  obtain ⟨m, mb⟩ := M
  obtain ⟨kv, lv, rfl, ⟨-, ka, kc, rfl, -, -⟩, ⟨-, la, lc, rfl, -, -⟩⟩ := hv
  have Z0 := BxZ.new (B := w.heap.size) (w.alloc (.cells #[.slice ka s.kept.length kc, .slice la s.late.length lc, .int .i64 s.lock] 26)) [.slice none 0 0, .slice none 0 0, .int .i64 0] 26 (by simp)
  have B0 := belowThen (ba w (.cells #[.slice ka s.kept.length kc, .slice la s.late.length lc, .int .i64 s.lock] 26)) (ba _ (.cells #[.slice none 0 0, .slice none 0 0, .int .i64 0] 26))
  have e1 : (w.alloc (.cells #[.slice ka s.kept.length kc, .slice la s.late.length lc, .int .i64 s.lock] 26)).heap.size = w.heap.size + 1 := by simp
  rw [e1] at Z0
  clear e1 hf
  go_enter Try.func88, Try.ntmps88
  go_wp2_with fail
  generalize (w.alloc (.cells #[.slice ka s.kept.length kc, .slice la s.late.length lc, .int .i64 s.lock] 26)).alloc (.cells #[.slice none 0 0, .slice none 0 0, .int .i64 0] 26) = w0 at *
  have hlt := Z0.lt
  refine (dUnhide C1 _ B0).mono ?_
  rintro r w1 ⟨⟨u, rfl, O1⟩, b1⟩
  obtain ⟨ka1, kc1, la1, lc1, rfl⟩ := O1.shape
  have Z1 := Z0.below b1
  obtain ⟨z0, f0⟩ := Z1.2 0 _ rfl
  obtain ⟨z1, f1⟩ := Z1.2 1 _ rfl
  obtain ⟨z2, f2⟩ := Z1.2 2 _ rfl
  obtain ⟨hx, hO⟩ := OwS.into O1 hlt Z1
  have BB := dHide (below_three (belowThen B0 b1) (Nat.le_succ w.heap.size) (.slice ka1 m.kept.length kc1) (.slice la1 m.late.length lc1) (.int .i64 m.lock))
  have HX := dHide hx
  have HO := dHide (hO.mono (base' := w.heap.size) (by omega))
  clear O1 Z1 hx hO b1 C1 Z0 B0
  go_wp2
  generalize ((w1.setCell ⟨w.heap.size + 1, 0, none⟩ (.slice ka1 m.kept.length kc1)).setCell ⟨w.heap.size + 1, 1, none⟩ (.slice la1 m.late.length lc1)).setCell ⟨w.heap.size + 1, 2, none⟩ (.int .i64 m.lock) = V at *
  have q0 := dUnhide HX 0 _ rfl
  have q1 := dUnhide HX 1 _ rfl
  have q2 := dUnhide HX 2 _ rfl
  clear z0 z1 z2 f0 f1 f2
  refine bodyPost_ret (v := .tuple #[.agg #[.slice ka1 m.kept.length kc1, .slice la1 m.late.length lc1, .int .i64 m.lock], .bool mb]) (by simp [results, Try.results88, go_sem, q0, q1, q2]) rfl ⟨⟨_, rfl, dUnhide HO⟩, dUnhide BB⟩
theorem l1Max_s (a b : Int) (w : World) : Calls Try.prog 96 #[.int .i64 a, .int .i64 b] w fun e w' => e = .returned (.int .i64 (max a b)) ∧ w' = w := by
  by_cases h : b < a
  · have e : max a b = a := by omega
    rw [e]
    clear e
    have hd : decide (b < a) = true := decide_eq_true h
    go_enter Try.func96, Try.ntmps96
    go_wp2
    go_ret
    exact ⟨rfl, rfl⟩
  · have e : max a b = b := by omega
    rw [e]
    clear e
    have hd : decide (b < a) = false := decide_eq_false h
    go_enter Try.func96, Try.ntmps96
    go_wp2
    go_ret
    exact ⟨rfl, rfl⟩
/-- What may be sealed. -/
def sealP (s : St) (upto : Int) : Prop := crashP s 1048575 ∧ 0 ≤ upto ∧ upto ≤ 30
open Classical in
/-- StoreSeal. -/
noncomputable def sealM (s : St) (upto : Int) : St × Bool := if stP s then (if sealP s upto then (⟨crashK s 1048575, [], max s.lock upto⟩, true) else (s, false)) else (zeroSt, false)
theorem sealM_bad {s : St} {upto : Int} (h : ¬ stP s) : sealM s upto = (zeroSt, false) := if_neg h
theorem sealM_no {s : St} {upto : Int} (h : stP s) (hp : ¬ sealP s upto) : sealM s upto = (s, false) := (if_pos h).trans (if_neg hp)
theorem sealM_yes {s : St} {upto : Int} (h : stP s) (hp : sealP s upto) : sealM s upto = (⟨crashK s 1048575, [], max s.lock upto⟩, true) := (if_pos h).trans (if_pos hp)
set_option maxHeartbeats 8000000 in
theorem specSeal_any (v : Value) (s : St) (upto : Int) (w : World) (hv : Rs w v s) (hf : fitS s) :
    Calls Try.prog 89 #[v, .int .i64 upto] w fun r w' => (∃ u, r = .returned (.tuple #[u, .bool (sealM s upto).2]) ∧ OwS w' w.heap.size u (sealM s upto).1) ∧ Below w.heap.size w w' := by
  have ba : ∀ (w : World) o, Below w.heap.size w (w.alloc o) := fun w o => (Below.refl _ _).alloc (Nat.le_refl _) o
  have C1 := dHide fun W (hb : Below w.heap.size w W) => specStoreOk_any v s W (hv.below hb) hf
  have C2 := dHide fun W (hb : Below w.heap.size w W) (h : stP s) => l6Copy_any v s W (hv.below hb) (by have := h.1.1; omega) (by have := h.2.1.1; omega)
  have C3 := dHide fun W (hb : Below w.heap.size w W) => specSync_any v s W (hv.below hb) hf
  obtain ⟨kv, lv, rfl, ⟨-, ka, kc, rfl, -, -⟩, ⟨-, la, lc, rfl, -, -⟩⟩ := hv
  have PB : Hid (¬ stP s → sealM s upto = (zeroSt, false)) := sealM_bad
  have PN : Hid (stP s → ¬ sealP s upto → sealM s upto = (s, false)) := sealM_no
  have PY : Hid (stP s → sealP s upto → sealM s upto = (⟨crashK s 1048575, [], max s.lock upto⟩, true)) := sealM_yes
  have PD : Hid (sealP s upto ↔ crashP s 1048575 ∧ 0 ≤ upto ∧ upto ≤ 30) := Iff.rfl
  have CY : Hid (stP s → crashP s 1048575 → crashM s 1048575 = (⟨crashK s 1048575, [], s.lock⟩, true)) := crashM_yes
  have CN : Hid (stP s → ¬ crashP s 1048575 → crashM s 1048575 = (s, false)) := crashM_no
  generalize sealM s upto = M at *
  clear hf
  have X0 := (BxZ.new w [.slice ka s.kept.length kc, .slice la s.late.length lc, .int .i64 s.lock] 26 (Nat.le_refl _)).below (ba _ (.cells #[.slice none 0 0, .slice none 0 0, .int .i64 0] 26))
  have Z0 := BxZ.new (B := w.heap.size) (w.alloc (.cells #[.slice ka s.kept.length kc, .slice la s.late.length lc, .int .i64 s.lock] 26)) [.slice none 0 0, .slice none 0 0, .int .i64 0] 26 (by simp)
  have B0 := belowThen (ba w (.cells #[.slice ka s.kept.length kc, .slice la s.late.length lc, .int .i64 s.lock] 26)) (ba _ (.cells #[.slice none 0 0, .slice none 0 0, .int .i64 0] 26))
  have e1 : (w.alloc (.cells #[.slice ka s.kept.length kc, .slice la s.late.length lc, .int .i64 s.lock] 26)).heap.size = w.heap.size + 1 := by simp
  rw [e1] at Z0
  clear e1
  go_enter Try.func89, Try.ntmps89
  go_wp2_with fail
  generalize (w.alloc (.cells #[.slice ka s.kept.length kc, .slice la s.late.length lc, .int .i64 s.lock] 26)).alloc (.cells #[.slice none 0 0, .slice none 0 0, .int .i64 0] 26) = w0 at *
  have K : Hid (∀ W, Below w0.heap.size w0 W → BxZ W w.heap.size w.heap.size [.slice ka s.kept.length kc, .slice la s.late.length lc, .int .i64 s.lock] ∧ BxZ W w.heap.size (w.heap.size + 1) [.slice none 0 0, .slice none 0 0, .int .i64 0] ∧ Below w.heap.size w W) := fun W hb => ⟨X0.below hb, Z0.below hb, belowThen B0 hb⟩
  have hlt := Z0.lt
  clear X0 Z0
  refine (dUnhide C1 _ B0).mono ?_
  rintro r w1 ⟨hr1, b1⟩
  by_cases hs : stP s
  · obtain rfl := hr1.of_yes hs
    have HS := dHide hs
    clear hr1 PB hs
    obtain ⟨X1, -, B1⟩ := dUnhide K w1 b1
    have k0 := (X1.2 0 _ rfl).1
    have k1 := (X1.2 1 _ rfl).1
    have k2 := (X1.2 2 _ rfl).1
    have C3' := dHide (dUnhide C3 w1 B1)
    clear X1 C3 C1
    have C2' := dHide fun W (hb : Below w.heap.size w W) => dUnhide C2 W hb (dUnhide HS)
    clear C2
    by_cases hc : crashP s 1048575
    · have eC := dUnhide CY (dUnhide HS) hc
      rw [eC] at C3'
      dsimp only at C3'
      by_cases hin : 0 ≤ upto ∧ upto ≤ 30
      · have eM := dUnhide PY (dUnhide HS) ((dUnhide PD).2 ⟨hc, hin⟩)
        have CI := dHide fun W => l1In_yes upto 0 30 hin.1 hin.2 W
        have CM := dHide fun W => l1Max_s s.lock upto W
        have hKn : Hid (∀ W base kv lv, ApE W base kv (crashK s 1048575) → ApE W base lv [] → (touch kv = none ∨ touch kv ≠ touch lv) → OwS W base (.agg #[kv, lv, .int .i64 (max s.lock upto)]) ⟨crashK s 1048575, [], max s.lock upto⟩) := fun W base kv lv h1 h2 h3 => ⟨kv, lv, rfl, h1, h2, h3⟩
        clear PN PY PD CY CN hc hin eC C2'
        generalize max s.lock upto = mx at *
        generalize crashK s 1048575 = CK at *
        go_wp2_with fail
        refine (dUnhide C3').mono ?_
        rintro r w2 ⟨⟨u2, rfl, O2⟩, b2⟩
        obtain ⟨a1, c1, a2, c2, rfl⟩ := O2.shape
        (try dsimp only at O2)
        have b23 := ba w2 (.cells #[.slice a1 CK.length c1, .slice a2 0 c2, .int .i64 s.lock] 26)
        have ob := BxZ.new (B := w2.heap.size) w2 [.slice a1 CK.length c1, .slice a2 0 c2, .int .i64 s.lock] 26 (Nat.le_refl _)
        have b04 := belowThen (belowThen b1 b2) b23
        obtain ⟨X4, -, B4⟩ := dUnhide K _ b04
        have j0 := (X4.2 0 _ rfl).1
        have j1 := (X4.2 1 _ rfl).1
        have j2 := (X4.2 2 _ rfl).1
        clear X4 k0 k1 k2 C3'
        obtain ⟨kv, lv, e2, h2, h3, h4⟩ := O2
        cases e2
        have T2 : touch (.slice a1 CK.length c1) ≠ some w2.heap.size := fun e => by have := (h2.touched elemE e).2; omega
        have T3 : touch (.slice a2 0 c2) ≠ some w2.heap.size := fun e => by have := (h3.touched elemE e).2; omega
        have hbs := b2.size
        have hb1s := b1.size
        have o2 := (ob.2 2 _ rfl).1
        have P2 := h2.below b23
        have P3 := h3.below b23
        clear h2 h3
        go_wp2_with fail
        generalize hbo : w2.heap.size = bo at *
        generalize w2.alloc (.cells #[.slice a1 CK.length c1, .slice a2 0 c2, .int .i64 s.lock] 26) = w4 at *
        refine (dUnhide CI _).mono ?_
        rintro r w5 ⟨rfl, rfl⟩
        clear CI
        obtain ⟨p0, g0⟩ := ob.2 0 _ rfl
        obtain ⟨p1, g1⟩ := ob.2 1 _ rfl
        obtain ⟨p2, g2⟩ := ob.2 2 _ rfl
        go_wp2_with fail
        refine (dUnhide CM _).mono ?_
        rintro r w6 ⟨rfl, rfl⟩
        clear CM
        obtain ⟨-, Z6, B6⟩ := dUnhide K w6 b04
        obtain ⟨z0, f0⟩ := Z6.2 0 _ rfl
        obtain ⟨z1, f1⟩ := Z6.2 1 _ rfl
        obtain ⟨z2, f2⟩ := Z6.2 2 _ rfl
        have hrb : w.heap.size + 1 < w1.heap.size := by omega
        have hrb2 : w.heap.size + 1 < bo := by omega
        have HX := dHide ((((Z6.far (b' := bo) (o := 2) (by omega) (.int .i64 mx)).put 0 (.slice a1 CK.length c1)).put 1 (.slice a2 0 c2)).put 2 (.int .i64 mx)).bx
        have Q2 := ApR.far elemE (ApR.far elemE (ApR.far elemE (ApR.put elemE P2 T2 (o' := 2) (.int .i64 mx)) (b := w.heap.size + 1) (o' := 0) hrb (.slice a1 CK.length c1)) (b := w.heap.size + 1) (o' := 1) hrb (.slice a2 0 c2)) (b := w.heap.size + 1) (o' := 2) hrb (.int .i64 mx)
        have Q3 := ApR.far elemE (ApR.far elemE (ApR.far elemE (ApR.put elemE P3 T3 (o' := 2) (.int .i64 mx)) (b := w.heap.size + 1) (o' := 0) hrb (.slice a1 CK.length c1)) (b := w.heap.size + 1) (o' := 1) hrb (.slice a2 0 c2)) (b := w.heap.size + 1) (o' := 2) hrb (.int .i64 mx)
        have HO := dHide (dUnhide hKn _ _ _ _ (Q2.mono (base' := w.heap.size) (by omega)) (Q3.mono (base' := w.heap.size) (by omega)) h4)
        have BB := dHide (below_three (B6.setCell (p := ⟨bo, 2, none⟩) (by simp only; omega) (.int .i64 mx)) (Nat.le_succ w.heap.size) (.slice a1 CK.length c1) (.slice a2 0 c2) (.int .i64 mx))
        clear Q2 Q3 P2 P3 hKn h4 Z6 B6 T2 T3 K b04 ob j0 j1 j2 o2
        go_wp2
        generalize (((w6.setCell ⟨bo, 2, none⟩ (.int .i64 mx)).setCell ⟨w.heap.size + 1, 0, none⟩ (.slice a1 CK.length c1)).setCell ⟨w.heap.size + 1, 1, none⟩ (.slice a2 0 c2)).setCell ⟨w.heap.size + 1, 2, none⟩ (.int .i64 mx) = V at *
        have q0 := dUnhide HX 0 _ rfl
        have q1 := dUnhide HX 1 _ rfl
        have q2 := dUnhide HX 2 _ rfl
        clear z0 z1 z2 f0 f1 f2 p0 p1 p2 g0 g1 g2
        subst eM
        refine bodyPost_ret (v := .tuple #[.agg #[.slice a1 CK.length c1, .slice a2 0 c2, .int .i64 mx], .bool true]) (by simp [results, Try.results89, go_sem, q0, q1, q2]) rfl ⟨⟨_, rfl, dUnhide HO⟩, dUnhide BB⟩
      · have eM := dUnhide PN (dUnhide HS) fun h => hin ((dUnhide PD).1 h).2
        have CI := dHide fun W => l1In_no upto 0 30 (by omega) W
        clear PN PY PD CY CN hc hin eC
        generalize crashK s 1048575 = CK at *
        go_wp2_with fail
        refine (dUnhide C3').mono ?_
        rintro r w2 ⟨⟨u2, rfl, O2⟩, b2⟩
        obtain ⟨a1, c1, a2, c2, rfl⟩ := O2.shape
        (try dsimp only at O2)
        have b23 := ba w2 (.cells #[.slice a1 CK.length c1, .slice a2 0 c2, .int .i64 s.lock] 26)
        have ob := BxZ.new (B := w2.heap.size) w2 [.slice a1 CK.length c1, .slice a2 0 c2, .int .i64 s.lock] 26 (Nat.le_refl _)
        have b04 := belowThen (belowThen b1 b2) b23
        obtain ⟨X4, -, B4⟩ := dUnhide K _ b04
        have j0 := (X4.2 0 _ rfl).1
        have j1 := (X4.2 1 _ rfl).1
        have j2 := (X4.2 2 _ rfl).1
        clear X4 k0 k1 k2 C3'
        clear O2 ob b23 b2
        go_wp2_with fail
        generalize w2.alloc (.cells #[.slice a1 CK.length c1, .slice a2 0 c2, .int .i64 s.lock] 26) = w4 at *
        refine (dUnhide CI _).mono ?_
        rintro r w6 ⟨rfl, rfl⟩
        clear CI
        go_wp2_with fail
        refine (dUnhide C2' _ (by assumption)).mono ?_
        rintro r w5 ⟨⟨u5, rfl, O5⟩, b5⟩
        obtain ⟨ka5, kc5, la5, lc5, rfl⟩ := O5.shape
        have b05 := belowThen b04 b5
        obtain ⟨-, Z5, B5⟩ := dUnhide K w5 b05
        obtain ⟨z0, f0⟩ := Z5.2 0 _ rfl
        obtain ⟨z1, f1⟩ := Z5.2 1 _ rfl
        obtain ⟨z2, f2⟩ := Z5.2 2 _ rfl
        obtain ⟨hx, hO⟩ := OwS.into O5 (rb := w.heap.size + 1) (by have := b04.size; omega) Z5
        have BB := dHide (below_three B5 (Nat.le_succ w.heap.size) (.slice ka5 s.kept.length kc5) (.slice la5 s.late.length lc5) (.int .i64 s.lock))
        have HX := dHide hx
        have HO := dHide (hO.mono (base' := w.heap.size) (by have := b04.size; omega))
        clear O5 b5 Z5 hx hO C2' K b04 b05 B5 j0 j1 j2
        go_wp2
        generalize ((w5.setCell ⟨w.heap.size + 1, 0, none⟩ (.slice ka5 s.kept.length kc5)).setCell ⟨w.heap.size + 1, 1, none⟩ (.slice la5 s.late.length lc5)).setCell ⟨w.heap.size + 1, 2, none⟩ (.int .i64 s.lock) = V at *
        have q0 := dUnhide HX 0 _ rfl
        have q1 := dUnhide HX 1 _ rfl
        have q2 := dUnhide HX 2 _ rfl
        clear z0 z1 z2 f0 f1 f2
        subst eM
        refine bodyPost_ret (v := .tuple #[.agg #[.slice ka5 s.kept.length kc5, .slice la5 s.late.length lc5, .int .i64 s.lock], .bool false]) (by simp [results, Try.results89, go_sem, q0, q1, q2]) rfl ⟨⟨_, rfl, dUnhide HO⟩, dUnhide BB⟩
    · have eC := dUnhide CN (dUnhide HS) hc
      have eM := dUnhide PN (dUnhide HS) fun h => hc ((dUnhide PD).1 h).1
      rw [eC] at C3'
      (try dsimp only at C3')
      clear PN PY PD CY CN hc eC
      go_wp2_with fail
      refine (dUnhide C3').mono ?_
      rintro r w2 ⟨⟨u2, rfl, O2⟩, b2⟩
      obtain ⟨a1, c1, a2, c2, rfl⟩ := O2.shape
      (try dsimp only at O2)
      have b23 := ba w2 (.cells #[.slice a1 s.kept.length c1, .slice a2 s.late.length c2, .int .i64 s.lock] 26)
      have ob := BxZ.new (B := w2.heap.size) w2 [.slice a1 s.kept.length c1, .slice a2 s.late.length c2, .int .i64 s.lock] 26 (Nat.le_refl _)
      have b04 := belowThen (belowThen b1 b2) b23
      obtain ⟨X4, -, B4⟩ := dUnhide K _ b04
      have j0 := (X4.2 0 _ rfl).1
      have j1 := (X4.2 1 _ rfl).1
      have j2 := (X4.2 2 _ rfl).1
      clear X4 k0 k1 k2 C3'
      clear O2 ob b23 b2
      go_wp2_with fail
      generalize w2.alloc (.cells #[.slice a1 s.kept.length c1, .slice a2 s.late.length c2, .int .i64 s.lock] 26) = w4 at *
      go_wp2_with fail
      refine (dUnhide C2' _ (by assumption)).mono ?_
      rintro r w5 ⟨⟨u5, rfl, O5⟩, b5⟩
      obtain ⟨ka5, kc5, la5, lc5, rfl⟩ := O5.shape
      have b05 := belowThen b04 b5
      obtain ⟨-, Z5, B5⟩ := dUnhide K w5 b05
      obtain ⟨z0, f0⟩ := Z5.2 0 _ rfl
      obtain ⟨z1, f1⟩ := Z5.2 1 _ rfl
      obtain ⟨z2, f2⟩ := Z5.2 2 _ rfl
      obtain ⟨hx, hO⟩ := OwS.into O5 (rb := w.heap.size + 1) (by have := b04.size; omega) Z5
      have BB := dHide (below_three B5 (Nat.le_succ w.heap.size) (.slice ka5 s.kept.length kc5) (.slice la5 s.late.length lc5) (.int .i64 s.lock))
      have HX := dHide hx
      have HO := dHide (hO.mono (base' := w.heap.size) (by have := b04.size; omega))
      clear O5 b5 Z5 hx hO C2' K b04 b05 B5 j0 j1 j2
      go_wp2
      generalize ((w5.setCell ⟨w.heap.size + 1, 0, none⟩ (.slice ka5 s.kept.length kc5)).setCell ⟨w.heap.size + 1, 1, none⟩ (.slice la5 s.late.length lc5)).setCell ⟨w.heap.size + 1, 2, none⟩ (.int .i64 s.lock) = V at *
      have q0 := dUnhide HX 0 _ rfl
      have q1 := dUnhide HX 1 _ rfl
      have q2 := dUnhide HX 2 _ rfl
      clear z0 z1 z2 f0 f1 f2
      subst eM
      refine bodyPost_ret (v := .tuple #[.agg #[.slice ka5 s.kept.length kc5, .slice la5 s.late.length lc5, .int .i64 s.lock], .bool false]) (by simp [results, Try.results89, go_sem, q0, q1, q2]) rfl ⟨⟨_, rfl, dUnhide HO⟩, dUnhide BB⟩
  · obtain rfl := hr1.of_no hs
    have eM := dUnhide PB hs
    obtain ⟨X1, Z1, B1⟩ := dUnhide K w1 b1
    obtain ⟨z0, f0⟩ := Z1.2 0 _ rfl
    obtain ⟨z1, f1⟩ := Z1.2 1 _ rfl
    obtain ⟨z2, f2⟩ := Z1.2 2 _ rfl
    have ZZ := ((Z1.put 0 (.slice none 0 0)).put 1 (.slice none 0 0)).put 2 (.int .i64 0)
    have BB := below_three B1 (Nat.le_succ w.heap.size) (.slice none 0 0) (.slice none 0 0) (.int .i64 0)
    clear hr1 hs PB PN PY X1 Z1 K C2 b1 C1 C3
    go_wp2
    have q0 := (ZZ.2 0 _ rfl).1
    have q1 := (ZZ.2 1 _ rfl).1
    have q2 := (ZZ.2 2 _ rfl).1
    clear ZZ z0 z1 z2 f0 f1 f2
    generalize ((w1.setCell ⟨w.heap.size + 1, 0, none⟩ (.slice none 0 0)).setCell ⟨w.heap.size + 1, 1, none⟩ (.slice none 0 0)).setCell ⟨w.heap.size + 1, 2, none⟩ (.int .i64 0) = V at *
    subst eM
    refine bodyPost_ret (v := .tuple #[.agg #[.slice none 0 0, .slice none 0 0, .int .i64 0], .bool false]) (by simp [results, Try.results89, go_sem, q0, q1, q2]) rfl ⟨⟨_, rfl, OwS.zero _ _⟩, BB⟩
end Go.Proofs.Ytejmfohkobhidaa
