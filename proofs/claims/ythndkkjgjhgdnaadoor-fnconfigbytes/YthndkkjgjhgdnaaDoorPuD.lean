/- Records as bytes: impl's reading of a config, with what is wrong asked for (printed by tools/mkpr.py). -/
import Derived.Test.YthndkkjgjhgdnaaDoorPrD
import Derived.Test.YthndkkjgjhgdnaaDoorHas
import Derived.Deep.RegionHeld3
import Derived.Deep.DeepCutAuto
namespace Go.Proofs.YthndkkjgjhgdnaaDoor
open Go.ChangeShapes Go.WideShapes Go.ChangeAt Go.RowKit
set_option linter.unusedVariables false
set_option linter.unusedSimpArgs false
set_option maxRecDepth 100000

set_option maxHeartbeats 8000000 in
theorem unpackConfig (v : Value) (O : Nat → (List Int × Int) → Value → World → Prop) (hO : ∀ b m u, FarO b (O b m u)) (hOm : ∀ b b' m u W, b ≤ b' → O b' m u W → O b m u W) (G : Prop) (M : (List Int × Int)) (w : World) (hH : Hnd w)
    (CI : ∀ W, Below w.heap.size w W → Calls Tryd.prog 48 #[.agg #[.func (.func 44) #[] #[], .func (.func 45) #[] #[], .func (.func 46) #[] #[]], v] W fun e w' => ∃ (ua : Option Addr) (n c : Nat) (x : Int) (err : Value), e = .returned (.tuple #[.agg #[.slice ua n c, .int .i64 x], err]) ∧ RecPost (O W.heap.size) G M W (.agg #[.slice ua n c, .int .i64 x]) err w') (va : Option Addr) (vn vcp : Nat) (hvv : v = .slice va vn vcp) :
    Calls Tryd.prog 27 #[.agg #[.func (.func 44) #[] #[], .func (.func 45) #[] #[], .func (.func 46) #[] #[]], v] w fun e w' => ∃ (ua : Option Addr) (n c : Nat) (x : Int) (b : Bool), e = .returned (.tuple #[.agg #[.slice ua n c, .int .i64 x], .bool b]) ∧ UnPost (O w.heap.size) G M (.agg #[.slice none 0 0, .int .i64 0]) w (.agg #[.slice ua n c, .int .i64 x]) b w' := by
  have ba : ∀ (w : World) o, Below w.heap.size w (w.alloc o) := fun w o => (Below.refl _ _).alloc (Nat.le_refl _) o
  subst hvv
  replace CI := dHide CI
  replace hO := dHide hO
  replace hOm := dHide hOm
  have e1 : (w.alloc (.cells #[.func (.func 44) #[] #[], .func (.func 45) #[] #[], .func (.func 46) #[] #[]] 49)).heap.size = w.heap.size + 1 := by simp
  have X0 := (Bx.new w [.func (.func 44) #[] #[], .func (.func 45) #[] #[], .func (.func 46) #[] #[]] 49).below (ba _ (.cells #[.slice none 0 0, .int .i64 0] 26))
  have Z0 := BxZ.new (B := w.heap.size) (w.alloc (.cells #[.func (.func 44) #[] #[], .func (.func 45) #[] #[], .func (.func 46) #[] #[]] 49)) [.slice none 0 0, .int .i64 0] 26 (by simp)
  rw [e1] at Z0
  have B0 := belowThen (ba w (.cells #[.func (.func 44) #[] #[], .func (.func 45) #[] #[], .func (.func 46) #[] #[]] 49)) (ba _ (.cells #[.slice none 0 0, .int .i64 0] 26))
  have e2 : ((w.alloc (.cells #[.func (.func 44) #[] #[], .func (.func 45) #[] #[], .func (.func 46) #[] #[]] 49)).alloc (.cells #[.slice none 0 0, .int .i64 0] 26)).heap.size = w.heap.size + 2 := by simp
  have hH := dHide fun (W : World) (hb : Below w.heap.size w W) => hH.below hb (Nat.le_refl _)
  clear e1
  go_enter Tryd.func27, Tryd.ntmps27
  go_upto_region 1 with fail
  generalize (w.alloc (.cells #[.func (.func 44) #[] #[], .func (.func 45) #[] #[], .func (.func 46) #[] #[]] 49)).alloc (.cells #[.slice none 0 0, .int .i64 0] 26) = w0 at *
  have f0 := X0 0 _ rfl
  have f1 := X0 1 _ rfl
  have f2 := X0 2 _ rfl
  have C1 := dHide (dUnhide CI w0 B0)
  clear CI X0
  go_wp2_with fail
  refine (dUnhide C1).mono ?_
  rintro e w1 ⟨ua, n, c, x, err, rfl, m, hm, hy, hn, b1⟩
  have B1 := belowThen B0 b1
  have Z1 := Z0.below b1
  have hs1 := b1.size
  have b2 := ba w1 (.cells #[.slice ua n c, .int .i64 x] 26)
  have b3 := ba (w1.alloc (.cells #[.slice ua n c, .int .i64 x] 26)) (.cells #[.int .i64 0] 86)
  have R2 := (Bx.new w1 [.slice ua n c, .int .i64 x] 26).below b3
  have T3 := BxZ.new (B := w.heap.size) (w1.alloc (.cells #[.slice ua n c, .int .i64 x] 26)) [.int .i64 0] 86 (by simp; omega)
  have hs2 : (w1.alloc (.cells #[.slice ua n c, .int .i64 x] 26)).heap.size = w1.heap.size + 1 := by simp
  have hs3 : ((w1.alloc (.cells #[.slice ua n c, .int .i64 x] 26)).alloc (.cells #[.int .i64 0] 86)).heap.size = w1.heap.size + 2 := by simp
  rw [hs2] at T3
  have B3 := belowThen (belowThen B1 b2) b3
  have Z3 := (Z1.below b2).below b3
  have O3 := dHide ((dUnhide hO) _ _ _ _ _ ((dUnhide hO) _ _ _ _ _ hm b2.size (fun k _ hk => b2.block k hk)) b3.size (fun k _ hk => b3.block k hk))
  have H3 := (dUnhide hH) _ B3
  by_cases hG : G
  · obtain ⟨rfl, rfl⟩ := hy hG
    have CA := dHide (as_nil (.iface 88 (.pointer (some ⟨w1.heap.size + 1, 0, none⟩))) ((w1.alloc (.cells #[.slice ua n c, .int .i64 x] 26)).alloc (.cells #[.int .i64 0] 86)))
    clear C1 f0 f1 f2 hy hn hm H3 T3 b2 b3 b1 Z0 B0 Z1 B1
    go_upto_region 3 with fail
    go_wp2_with fail
    generalize (w1.alloc (.cells #[.slice ua n c, .int .i64 x] 26)).alloc (.cells #[.int .i64 0] 86) = w3 at *
    refine (dUnhide CA).mono ?_
    rintro e w4 ⟨rfl, rfl⟩
    have FIN := dHide (⟨(dUnhide hOm) w.heap.size _ _ _ _ (by omega) ((dUnhide hO) _ _ _ _ ((w4.setCell ⟨w.heap.size + 1, 0, none⟩ (.slice ua n c)).setCell ⟨w.heap.size + 1, 1, none⟩ (.int .i64 x)) (dUnhide O3) (by simp) (fun k h1 h2 => by
      show ((w4.setCell ⟨w.heap.size + 1, 0, none⟩ (.slice ua n c)).setCell ⟨w.heap.size + 1, 1, none⟩ (.int .i64 x)).heap[k]? = _
      rw [Below.heap_setCell _ _ _ k (by simp only; omega), Below.heap_setCell _ _ _ k (by simp only; omega)])), (show BxZ ((w4.setCell ⟨w.heap.size + 1, 0, none⟩ (.slice ua n c)).setCell ⟨w.heap.size + 1, 1, none⟩ (.int .i64 x)) _ _ _ from ((Z3.put 0 (.slice ua n c)).put 1 (.int .i64 x))), (show Below _ _ ((w4.setCell ⟨w.heap.size + 1, 0, none⟩ (.slice ua n c)).setCell ⟨w.heap.size + 1, 1, none⟩ (.int .i64 x)) from (Below.setCell (p := ⟨w.heap.size + 1, 1, none⟩) (Below.setCell (p := ⟨w.heap.size + 1, 0, none⟩) B3 (by simp only; omega) (.slice ua n c)) (by simp only; omega) (.int .i64 x)))⟩ :
      O w.heap.size m (.agg #[.slice ua n c, .int .i64 x]) ((w4.setCell ⟨w.heap.size + 1, 0, none⟩ (.slice ua n c)).setCell ⟨w.heap.size + 1, 1, none⟩ (.int .i64 x)) ∧ BxZ ((w4.setCell ⟨w.heap.size + 1, 0, none⟩ (.slice ua n c)).setCell ⟨w.heap.size + 1, 1, none⟩ (.int .i64 x)) w.heap.size (w.heap.size + 1) [.slice ua n c, .int .i64 x] ∧ Below w.heap.size w ((w4.setCell ⟨w.heap.size + 1, 0, none⟩ (.slice ua n c)).setCell ⟨w.heap.size + 1, 1, none⟩ (.int .i64 x)))
    clear CA
    have r0 := R2 0 _ rfl
    have r1 := R2 1 _ rfl
    obtain ⟨z0, y0⟩ := Z3.2 0 _ rfl
    obtain ⟨z1, y1⟩ := Z3.2 1 _ rfl
    go_wp2
    have fin := dUnhide FIN
    generalize ((w4.setCell ⟨w.heap.size + 1, 0, none⟩ (.slice ua n c)).setCell ⟨w.heap.size + 1, 1, none⟩ (.int .i64 x)) = V at *
    obtain ⟨o, r, b⟩ := fin
    have q0 := (r.2 0 _ rfl).1
    have q1 := (r.2 1 _ rfl).1
    exact bodyPost_ret (v := .tuple #[.agg #[.slice ua n c, .int .i64 x], .bool true]) (by simp [results, Tryd.results27, go_sem, q0, q1]) rfl ⟨_, _, _, _, _, rfl, fun _ => ⟨rfl, o⟩, fun h => absurd hG h, b⟩
  · obtain ⟨p, rfl⟩ := hn hG
    have CA := dHide (as_bad (w1.heap.size + 1) p 0 ((w1.alloc (.cells #[.slice ua n c, .int .i64 x] 26)).alloc (.cells #[.int .i64 0] 86)) H3 (T3.2 0 _ rfl).1 (T3.2 0 _ rfl).2)
    unfold wrg
    clear C1 f0 f1 f2 hy hn hm H3 b2 b3 b1 Z0 B0 Z1 B1 O3 R2
    go_upto_region 3 with fail
    go_wp2_with fail
    generalize (w1.alloc (.cells #[.slice ua n c, .int .i64 x] 26)).alloc (.cells #[.int .i64 0] 86) = w3 at *
    refine (dUnhide CA).mono ?_
    rintro e w4 ⟨rfl, d4⟩
    have B4 : Below w.heap.size w w4 := d4.below B3 (by omega) (by omega)
    have Z4 := Z3.drawn d4 (by omega)
    have b5 := ba w4 (.cells #[.slice none 0 0, .int .i64 0] 26)
    have B5 := belowThen B4 b5
    have Z5 := Z4.below b5
    have R5 := Bx.new w4 [.slice none 0 0, .int .i64 0] 26
    have FIN := dHide (⟨trivial, (show BxZ (((w4.alloc (.cells #[.slice none 0 0, .int .i64 0] 26)).setCell ⟨w.heap.size + 1, 0, none⟩ (.slice none 0 0)).setCell ⟨w.heap.size + 1, 1, none⟩ (.int .i64 0)) _ _ _ from ((Z5.put 0 (.slice none 0 0)).put 1 (.int .i64 0))), (show Below _ _ (((w4.alloc (.cells #[.slice none 0 0, .int .i64 0] 26)).setCell ⟨w.heap.size + 1, 0, none⟩ (.slice none 0 0)).setCell ⟨w.heap.size + 1, 1, none⟩ (.int .i64 0)) from (Below.setCell (p := ⟨w.heap.size + 1, 1, none⟩) (Below.setCell (p := ⟨w.heap.size + 1, 0, none⟩) B5 (by simp only; omega) (.slice none 0 0)) (by simp only; omega) (.int .i64 0)))⟩ :
      True ∧ BxZ (((w4.alloc (.cells #[.slice none 0 0, .int .i64 0] 26)).setCell ⟨w.heap.size + 1, 0, none⟩ (.slice none 0 0)).setCell ⟨w.heap.size + 1, 1, none⟩ (.int .i64 0)) w.heap.size (w.heap.size + 1) [.slice none 0 0, .int .i64 0] ∧ Below w.heap.size w (((w4.alloc (.cells #[.slice none 0 0, .int .i64 0] 26)).setCell ⟨w.heap.size + 1, 0, none⟩ (.slice none 0 0)).setCell ⟨w.heap.size + 1, 1, none⟩ (.int .i64 0)))
    clear CA d4 B4 Z4 Z3 B3 T3
    have r0 := R5 0 _ rfl
    have r1 := R5 1 _ rfl
    obtain ⟨z0, y0⟩ := Z5.2 0 _ rfl
    obtain ⟨z1, y1⟩ := Z5.2 1 _ rfl
    go_wp2
    have fin := dUnhide FIN
    generalize (((w4.alloc (.cells #[.slice none 0 0, .int .i64 0] 26)).setCell ⟨w.heap.size + 1, 0, none⟩ (.slice none 0 0)).setCell ⟨w.heap.size + 1, 1, none⟩ (.int .i64 0)) = V at *
    obtain ⟨o, r, b⟩ := fin
    have q0 := (r.2 0 _ rfl).1
    have q1 := (r.2 1 _ rfl).1
    exact bodyPost_ret (v := .tuple #[.agg #[.slice none 0 0, .int .i64 0], .bool false]) (by simp [results, Tryd.results27, go_sem, q0, q1]) rfl ⟨_, _, _, _, _, rfl, fun h => absurd h hG, fun _ => ⟨rfl, rfl⟩, b⟩
end Go.Proofs.YthndkkjgjhgdnaaDoor
