/- impl's StoreGet, StoreEra. -/
import Derived.Test.YtejmfohkobhidaaImFe
import Derived.Test.YtejmfohkobhidaaGbI
import Derived.Test.YtejmfohkobhidaaGf5
namespace Go.Proofs.Ytejmfohkobhidaa
open Go.ChangeShapes Go.WideShapes Go.ChangeAt Go.RowKit
set_option linter.unusedVariables false
set_option linter.unusedSimpArgs false
set_option maxRecDepth 100000

theorem getM_bad {s : St} {x : Int} (h : ¬ stP s) : getM s x = none := if_neg h
theorem getM_ok {s : St} {x : Int} (h : stP s) : getM s x = getL s.kept x := if_pos h
set_option maxHeartbeats 4000000 in
theorem implGet_any (v : Value) (s : St) (x : Int) (w : World) (hv : Rs w v s) (hf : fitS s) :
    Calls Try.prog 12 #[v, .int .i64 x] w fun r w' => r = .returned (findT (getM s x)) ∧ Below w.heap.size w w' := by
  have ba : ∀ (w : World) o, Below w.heap.size w (w.alloc o) := fun w o => (Below.refl _ _).alloc (Nat.le_refl _) o
  have C1 := dHide fun W (hb : Below w.heap.size w W) => implStoreOk_any v s W (hv.below hb) hf
  obtain ⟨kv, lv, rfl, rk, rl⟩ := hv
  have C5 := dHide fun W (hb : Below w.heap.size w W) (hs : stP s) => find_any kv s.kept x W (rk.below hb) hs.2.2.1 (by have := hs.1.1; omega)
  have HK := dHide fun W (hb : Below w.heap.size w W) => rk.below hb
  obtain ⟨-, ka, kc, rfl, -, -⟩ := rk
  obtain ⟨-, la, lc, rfl, -, -⟩ := rl
  have GB : Hid (¬ stP s → findT (getM s x) = .tuple #[noEnt.val, .bool false]) := fun h => by rw [getM_bad h]; rfl
  have GN : Hid (stP s → ∀ i, posP s.kept x i → ¬ foundP s.kept x i → findT (getM s x) = .tuple #[noEnt.val, .bool false]) := fun h i hp hn => by rw [getM_ok h, getL_no hp h.2.2.1 (fun hi he => hn ⟨hi, he⟩)]; rfl
  have GY : Hid (stP s → ∀ i, posP s.kept x i → ∀ hi : i < s.kept.length, s.kept[i].pl = x → findT (getM s x) = .tuple #[s.kept[i].val, .bool true]) := fun h i hp hi he => by rw [getM_ok h, getL_yes hp hi he]; rfl
  generalize findT (getM s x) = M at *
  have X0 := (Bx.new w [.slice ka s.kept.length kc, .slice la s.late.length lc, .int .i64 s.lock] 26).below (ba _ (.cells #[.int .i64 0, .int .i64 0, .bool false, .string ⟨#[]⟩] 28))
  have Z0 := BxZ.new (B := w.heap.size) (w.alloc (.cells #[.slice ka s.kept.length kc, .slice la s.late.length lc, .int .i64 s.lock] 26)) [.int .i64 0, .int .i64 0, .bool false, .string ⟨#[]⟩] 28 (by simp)
  have B0 := belowThen (ba w (.cells #[.slice ka s.kept.length kc, .slice la s.late.length lc, .int .i64 s.lock] 26)) (ba _ (.cells #[.int .i64 0, .int .i64 0, .bool false, .string ⟨#[]⟩] 28))
  have e1 : (w.alloc (.cells #[.slice ka s.kept.length kc, .slice la s.late.length lc, .int .i64 s.lock] 26)).heap.size = w.heap.size + 1 := by simp
  rw [e1] at Z0
  clear e1 hf
  unfold noEnt Ent.val at *
  simp only at *
  go_enter Try.func12, Try.ntmps12
  go_wp2_with fail
  generalize (w.alloc (.cells #[.slice ka s.kept.length kc, .slice la s.late.length lc, .int .i64 s.lock] 26)).alloc (.cells #[.int .i64 0, .int .i64 0, .bool false, .string ⟨#[]⟩] 28) = w0 at *
  refine (dUnhide C1 _ B0).mono ?_
  rintro r w1 ⟨hr, b1⟩
  have B1 := belowThen B0 b1
  have X1 := X0.below b1
  have Z1 := Z0.below b1
  clear B0 b1 X0 Z0 C1
  have p0 := X1 0 _ rfl
  have p1 := X1 1 _ rfl
  have p2 := X1 2 _ rfl
  have ZW : Hid (∀ W, BxZ W w.heap.size (w.heap.size + 1) [.int .i64 0, .int .i64 0, .bool false, .string ⟨#[]⟩] → Below w.heap.size w W → ∀ (a b : Int) (c : Bool) (d : ByteArray), Bx ((((W.setCell ⟨w.heap.size + 1, 0, none⟩ (.int .i64 a)).setCell ⟨w.heap.size + 1, 1, none⟩ (.int .i64 b)).setCell ⟨w.heap.size + 1, 2, none⟩ (.bool c)).setCell ⟨w.heap.size + 1, 3, none⟩ (.string d)) (w.heap.size + 1) [.int .i64 a, .int .i64 b, .bool c, .string d] ∧ Below w.heap.size w ((((W.setCell ⟨w.heap.size + 1, 0, none⟩ (.int .i64 a)).setCell ⟨w.heap.size + 1, 1, none⟩ (.int .i64 b)).setCell ⟨w.heap.size + 1, 2, none⟩ (.bool c)).setCell ⟨w.heap.size + 1, 3, none⟩ (.string d))) := fun W hZ hB a b c d =>
    ⟨((((hZ.put 0 (.int .i64 a)).put 1 (.int .i64 b)).put 2 (.bool c)).put 3 (.string d)).bx, (((hB.setCell (p := ⟨w.heap.size + 1, 0, none⟩) (Nat.le_succ _) _).setCell (p := ⟨w.heap.size + 1, 1, none⟩) (Nat.le_succ _) _).setCell (p := ⟨w.heap.size + 1, 2, none⟩) (Nat.le_succ _) _).setCell (p := ⟨w.heap.size + 1, 3, none⟩) (Nat.le_succ _) _⟩
  by_cases hs : stP s
  · obtain rfl := hr.of_yes hs
    have GN := dHide (dUnhide GN hs)
    have GY := dHide (dUnhide GY hs)
    have C5 := dHide fun W hb => dUnhide C5 W hb hs
    clear hs hr GB
    go_wp2_with fail
    refine (sorted_any _ _ s.lock _ ka la s.kept.length kc s.late.length lc rfl rfl).mono ?_
    rintro r w2 ⟨rfl, b2⟩
    have B2 := belowThen B1 b2
    have X2 := X1.below b2
    have Z2 := Z1.below b2
    clear B1 X1 Z1 p0 p1 p2 b2
    go_wp2_with fail
    refine (dUnhide C5 _ B2).mono ?_
    rintro r w3 ⟨⟨i, fb, rfl, hp, hfb⟩, b3⟩
    have B3 := belowThen B2 b3
    have X3 := X2.below b3
    have Z3 := Z2.below b3
    clear B2 X2 Z2 b3 C5
    have p0 := X3 0 _ rfl
    have p1 := X3 1 _ rfl
    have p2 := X3 2 _ rfl
    obtain ⟨z0, f0⟩ := Z3.2 0 _ rfl
    obtain ⟨z1, f1⟩ := Z3.2 1 _ rfl
    obtain ⟨z2, f2⟩ := Z3.2 2 _ rfl
    obtain ⟨z3, f3⟩ := Z3.2 3 _ rfl
    cases fb
    · have eM := dUnhide GN i hp (fun h => by have := hfb.2 h; cases this)
      obtain ⟨hx, hb⟩ := dUnhide ZW _ Z3 B3 0 0 false ⟨#[]⟩
      have HX := dHide hx
      have HB := dHide hb
      clear hx hb GN GY hfb hp ZW X3 Z3 B3 HK
      subst eM
      go_wp2
      generalize (((w3.setCell ⟨w.heap.size + 1, 0, none⟩ (.int .i64 0)).setCell ⟨w.heap.size + 1, 1, none⟩ (.int .i64 0)).setCell ⟨w.heap.size + 1, 2, none⟩ (.bool false)).setCell ⟨w.heap.size + 1, 3, none⟩ (.string ⟨#[]⟩) = V at *
      have q0 := dUnhide HX 0 _ rfl
      have q1 := dUnhide HX 1 _ rfl
      have q2 := dUnhide HX 2 _ rfl
      have q3 := dUnhide HX 3 _ rfl
      clear z0 z1 z2 z3 f0 f1 f2 f3 p0 p1 p2
      refine bodyPost_ret (v := .tuple #[.agg #[.int .i64 0, .int .i64 0, .bool false, .string ⟨#[]⟩], .bool false]) (by simp [results, Try.results12, go_sem, q0, q1, q2, q3]) rfl ⟨rfl, dUnhide HB⟩
    · obtain ⟨hi, hfe⟩ := hfb.1 rfl
      have eM := dUnhide GY i hp hi hfe
      obtain ⟨b, off, rfl, hc⟩ := (dUnhide HK _ B3).ent hi
      obtain ⟨c0, c1, c2, c3⟩ := hc i hi
      generalize s.kept[i] = y at *
      obtain ⟨yx, yw, yh, yd⟩ := y
      obtain ⟨hx, hb⟩ := dUnhide ZW _ Z3 B3 yx yw yh yd
      have HX := dHide hx
      have HB := dHide hb
      have hi2 : (i : Int) < (s.kept.length : Int) := by omega
      simp only at *
      clear hx hb GN GY hfb hp ZW X3 Z3 B3 HK hc hfe
      subst eM
      go_wp2
      generalize (((w3.setCell ⟨w.heap.size + 1, 0, none⟩ (.int .i64 yx)).setCell ⟨w.heap.size + 1, 1, none⟩ (.int .i64 yw)).setCell ⟨w.heap.size + 1, 2, none⟩ (.bool yh)).setCell ⟨w.heap.size + 1, 3, none⟩ (.string yd) = V at *
      have q0 := dUnhide HX 0 _ rfl
      have q1 := dUnhide HX 1 _ rfl
      have q2 := dUnhide HX 2 _ rfl
      have q3 := dUnhide HX 3 _ rfl
      clear z0 z1 z2 z3 f0 f1 f2 f3 p0 p1 p2 c0 c1 c2 c3
      refine bodyPost_ret (v := .tuple #[.agg #[.int .i64 yx, .int .i64 yw, .bool yh, .string yd], .bool true]) (by simp [results, Try.results12, go_sem, q0, q1, q2, q3]) rfl ⟨rfl, dUnhide HB⟩
  · obtain rfl := hr.of_no hs
    have eM := dUnhide GB hs
    obtain ⟨z0, f0⟩ := Z1.2 0 _ rfl
    obtain ⟨z1, f1⟩ := Z1.2 1 _ rfl
    obtain ⟨z2, f2⟩ := Z1.2 2 _ rfl
    obtain ⟨z3, f3⟩ := Z1.2 3 _ rfl
    obtain ⟨hx, hb⟩ := dUnhide ZW _ Z1 B1 0 0 false ⟨#[]⟩
    have HX := dHide hx
    have HB := dHide hb
    clear hx hb GB GN GY hr ZW X1 Z1 B1 HK C5 hs
    subst eM
    go_wp2
    generalize (((w1.setCell ⟨w.heap.size + 1, 0, none⟩ (.int .i64 0)).setCell ⟨w.heap.size + 1, 1, none⟩ (.int .i64 0)).setCell ⟨w.heap.size + 1, 2, none⟩ (.bool false)).setCell ⟨w.heap.size + 1, 3, none⟩ (.string ⟨#[]⟩) = V at *
    have q0 := dUnhide HX 0 _ rfl
    have q1 := dUnhide HX 1 _ rfl
    have q2 := dUnhide HX 2 _ rfl
    have q3 := dUnhide HX 3 _ rfl
    clear z0 z1 z2 z3 f0 f1 f2 f3 p0 p1 p2
    refine bodyPost_ret (v := .tuple #[.agg #[.int .i64 0, .int .i64 0, .bool false, .string ⟨#[]⟩], .bool false]) (by simp [results, Try.results12, go_sem, q0, q1, q2, q3]) rfl ⟨rfl, dUnhide HB⟩
theorem eraM_bad {s : St} {x : Int} (h : ¬ stP s) : eraM s x = [] := if_neg h
theorem eraM_ok {s : St} {x : Int} (h : stP s) : eraM s x = eraL s.kept x := if_pos h
end Go.Proofs.Ytejmfohkobhidaa
