/- Several texts in one: StH, StI. -/
import Derived.Test.YtejmfohkobhidaaStE
namespace Go.Proofs.Ytejmfohkobhidaa
open Go.ChangeShapes Go.WideShapes Go.ChangeAt Go.RowKit
set_option linter.unusedVariables false
set_option linter.unusedSimpArgs false
set_option maxRecDepth 100000

/-- An entry of nothing. -/
def noEnt : Ent := ⟨0, 0, false, ⟨#[]⟩⟩
/-- What is found, and whether. -/
def findT (o : Option Ent) : Value := match o with
  | some e => .tuple #[e.val, .bool true]
  | none => .tuple #[noEnt.val, .bool false]
theorem getL_some {es : List Ent} {x : Int} {k : Nat} (hk : k < es.length) (he : es[k].pl = x) (hn : ∀ i (h : i < es.length), i < k → es[i].pl ≠ x) : getL es x = some es[k] := by
  unfold getL
  rw [List.find?_eq_some_iff_getElem]
  refine ⟨by simp [he], k, hk, rfl, fun j hj => ?_⟩
  have := hn j (by omega) hj
  simp [this]
theorem getL_none {es : List Ent} {x : Int} (hn : ∀ i (h : i < es.length), es[i].pl ≠ x) : getL es x = none := by
  unfold getL
  rw [List.find?_eq_none]
  intro e he
  obtain ⟨i, hi, rfl⟩ := List.getElem_of_mem he
  simp [hn i hi]
set_option maxHeartbeats 2000000 in
theorem l6Get_any (v : Value) (es : List Ent) (x : Int) (w : World) (hv : Rw 4 Ent.cl w v es) :
    Calls Try.prog 47 #[v, .int .i64 x] w fun r w' => r = .returned (findT (getL es x)) ∧ Below w.heap.size w w' := by
  have ba : ∀ (w : World) o, Below w.heap.size w (w.alloc o) := fun w o => (Below.refl _ _).alloc (Nat.le_refl _) o
  have HV := dHide (hv.below (ba w (.cells #[.int .i64 0, .int .i64 0, .bool false, .string ⟨#[]⟩] 28)))
  obtain ⟨h0, a, cap, rfl, -, -⟩ := hv
  have Z0 := BxZ.new w [.int .i64 0, .int .i64 0, .bool false, .string ⟨#[]⟩] 28 (Nat.le_refl _)
  have B0 := ba w (.cells #[.int .i64 0, .int .i64 0, .bool false, .string ⟨#[]⟩] 28)
  clear ba
  go_enter Try.func47, Try.ntmps47
  go_wp2
  generalize w.alloc (.cells #[.int .i64 0, .int .i64 0, .bool false, .string ⟨#[]⟩] 28) = w0 at *
  obtain ⟨z0, f0⟩ := Z0.2 0 _ rfl
  obtain ⟨z1, f1⟩ := Z0.2 1 _ rfl
  obtain ⟨z2, f2⟩ := Z0.2 2 _ rfl
  obtain ⟨z3, f3⟩ := Z0.2 3 _ rfl
  go_loop [6] (fun i => ∃ k : Nat, i = .int .i64 (k : Int) ∧ k ≤ es.length ∧ Hid (∀ i (h : i < es.length), i < k → es[i].pl ≠ x)) (fun i => es.length - (intOf i).toNat)
  case atStart => exact ⟨0, rfl, Nat.zero_le _, fun i h h' => by omega⟩
  case round =>
    obtain ⟨k, rfl, hk, hinv⟩ := hrel
    by_cases hlt : (k : Int) < (es.length : Int)
    · have hkl : k < es.length := by omega
      obtain ⟨b, off, rfl, hc⟩ := (dUnhide HV).ent hkl
      obtain ⟨c0, c1, c2, c3⟩ := hc k hkl
      have hf := dHide fun h => getL_some (es := es) (x := x) hkl h (dUnhide hinv)
      have hst : Hid (es[k].pl ≠ x → ∀ i (h : i < es.length), i < k + 1 → es[i].pl ≠ x) := fun he i h h' => by
        rcases Nat.lt_or_ge i k with h1 | h1
        · exact dUnhide hinv i h h1
        · obtain rfl : i = k := by omega
          exact he
      generalize es[k] = e at *
      obtain ⟨yx, yw, yh, yd⟩ := e
      simp only at *
      clear hc HV hinv
      by_cases hx : yx = x
      · have eG := dHide (dUnhide hf hx)
        have d1 : (yx == x) = true := by simp [hx]
        have ZZ := dHide ((((Z0.put 0 (.int .i64 yx)).put 1 (.int .i64 yw)).put 2 (.bool yh)).put 3 (.string yd))
        have BB := dHide ((((B0.setCell (p := ⟨w.heap.size, 0, none⟩) (Nat.le_refl _) (.int .i64 yx)).setCell (p := ⟨w.heap.size, 1, none⟩) (Nat.le_refl _) (.int .i64 yw)).setCell (p := ⟨w.heap.size, 2, none⟩) (Nat.le_refl _) (.bool yh)).setCell (p := ⟨w.heap.size, 3, none⟩) (Nat.le_refl _) (.string yd))
        clear hx hf hst Z0 B0
        go_wp2
        have q0 := ((dUnhide ZZ).2 0 _ rfl).1
        have q1 := ((dUnhide ZZ).2 1 _ rfl).1
        have q2 := ((dUnhide ZZ).2 2 _ rfl).1
        have q3 := ((dUnhide ZZ).2 3 _ rfl).1
        have hB := dUnhide BB
        clear ZZ BB z0 z1 z2 z3 f0 f1 f2 f3 c0 c1 c2 c3
        generalize (((w0.setCell ⟨w.heap.size, 0, none⟩ (.int .i64 yx)).setCell ⟨w.heap.size, 1, none⟩ (.int .i64 yw)).setCell ⟨w.heap.size, 2, none⟩ (.bool yh)).setCell ⟨w.heap.size, 3, none⟩ (.string yd) = V at *
        refine bodyPost_ret (v := .tuple #[.agg #[.int .i64 yx, .int .i64 yw, .bool yh, .string yd], .bool true]) (by simp [results, Try.results47, go_sem, q0, q1, q2, q3]) rfl ⟨by rw [dUnhide eG]; rfl, hB⟩
      · have R := dHide (dUnhide hst hx)
        have d1 : (yx == x) = false := by simp [hx]
        clear hx hf hst
        go_wp2
        go_round
        case rel => exact ⟨k + 1, by go_num, by omega, R⟩
        case measure => simp [intOf]; omega
    · have eG := dHide (getL_none (es := es) (x := x) fun i h => dUnhide hinv i h (by omega))
      have ZZ := dHide ((((Z0.put 0 (.int .i64 0)).put 1 (.int .i64 0)).put 2 (.bool false)).put 3 (.string ⟨#[]⟩))
      have BB := dHide ((((B0.setCell (p := ⟨w.heap.size, 0, none⟩) (Nat.le_refl _) (.int .i64 0)).setCell (p := ⟨w.heap.size, 1, none⟩) (Nat.le_refl _) (.int .i64 0)).setCell (p := ⟨w.heap.size, 2, none⟩) (Nat.le_refl _) (.bool false)).setCell (p := ⟨w.heap.size, 3, none⟩) (Nat.le_refl _) (.string ⟨#[]⟩))
      clear hinv HV Z0 B0
      go_wp2
      have q0 := ((dUnhide ZZ).2 0 _ rfl).1
      have q1 := ((dUnhide ZZ).2 1 _ rfl).1
      have q2 := ((dUnhide ZZ).2 2 _ rfl).1
      have q3 := ((dUnhide ZZ).2 3 _ rfl).1
      have hB := dUnhide BB
      clear ZZ BB z0 z1 z2 z3 f0 f1 f2 f3
      generalize (((w0.setCell ⟨w.heap.size, 0, none⟩ (.int .i64 0)).setCell ⟨w.heap.size, 1, none⟩ (.int .i64 0)).setCell ⟨w.heap.size, 2, none⟩ (.bool false)).setCell ⟨w.heap.size, 3, none⟩ (.string ⟨#[]⟩) = V at *
      refine bodyPost_ret (v := .tuple #[.agg #[.int .i64 0, .int .i64 0, .bool false, .string ⟨#[]⟩], .bool false]) (by simp [results, Try.results47, go_sem, q0, q1, q2, q3]) rfl ⟨by rw [dUnhide eG]; rfl, hB⟩
open Classical in
/-- StoreGet. -/
noncomputable def getM (s : St) (x : Int) : Option Ent := if stP s then getL s.kept x else none
set_option maxHeartbeats 4000000 in
theorem specGet_any (v : Value) (s : St) (x : Int) (w : World) (hv : Rs w v s) (hf : fitS s) :
    Calls Try.prog 17 #[v, .int .i64 x] w fun r w' => r = .returned (findT (getM s x)) ∧ Below w.heap.size w w' := by
  have ba : ∀ (w : World) o, Below w.heap.size w (w.alloc o) := fun w o => (Below.refl _ _).alloc (Nat.le_refl _) o
  have C1 := dHide fun W (hb : Below w.heap.size w W) => specStoreOk_any v s W (hv.below hb) hf
  obtain ⟨kv, lv, rfl, rk, rl⟩ := hv
  have C2 := dHide fun W (hb : Below w.heap.size w W) => l6Get_any kv s.kept x W (rk.below hb)
  obtain ⟨-, ka, kc, rfl, -, -⟩ := rk
  obtain ⟨-, la, lc, rfl, -, -⟩ := rl
  have PB : Hid (¬ stP s → getM s x = none) := fun h => if_neg h
  have PY : Hid (stP s → getM s x = getL s.kept x) := fun h => if_pos h
  generalize getM s x = M at *
  clear hf
  have X0 := (BxZ.new w [.slice ka s.kept.length kc, .slice la s.late.length lc, .int .i64 s.lock] 26 (Nat.le_refl _)).below (ba _ (.cells #[.int .i64 0, .int .i64 0, .bool false, .string ⟨#[]⟩] 28))
  have Z0 := BxZ.new (B := w.heap.size) (w.alloc (.cells #[.slice ka s.kept.length kc, .slice la s.late.length lc, .int .i64 s.lock] 26)) [.int .i64 0, .int .i64 0, .bool false, .string ⟨#[]⟩] 28 (by simp)
  have B0 := belowThen (ba w (.cells #[.slice ka s.kept.length kc, .slice la s.late.length lc, .int .i64 s.lock] 26)) (ba _ (.cells #[.int .i64 0, .int .i64 0, .bool false, .string ⟨#[]⟩] 28))
  have e1 : (w.alloc (.cells #[.slice ka s.kept.length kc, .slice la s.late.length lc, .int .i64 s.lock] 26)).heap.size = w.heap.size + 1 := by simp
  rw [e1] at Z0
  clear e1
  go_enter Try.func17, Try.ntmps17
  go_wp2_with fail
  generalize (w.alloc (.cells #[.slice ka s.kept.length kc, .slice la s.late.length lc, .int .i64 s.lock] 26)).alloc (.cells #[.int .i64 0, .int .i64 0, .bool false, .string ⟨#[]⟩] 28) = w0 at *
  have K : Hid (∀ W, Below w0.heap.size w0 W → BxZ W w.heap.size w.heap.size [.slice ka s.kept.length kc, .slice la s.late.length lc, .int .i64 s.lock] ∧ BxZ W w.heap.size (w.heap.size + 1) [.int .i64 0, .int .i64 0, .bool false, .string ⟨#[]⟩] ∧ Below w.heap.size w W) := fun W hb => ⟨X0.below hb, Z0.below hb, belowThen B0 hb⟩
  clear X0 Z0
  refine (dUnhide C1 _ B0).mono ?_
  rintro r w1 ⟨hr1, b1⟩
  by_cases hs : stP s
  · obtain rfl := hr1.of_yes hs
    have eP := dUnhide PY hs
    subst eP
    obtain ⟨X1, -, B1⟩ := dUnhide K w1 b1
    have k0 := (X1.2 0 _ rfl).1
    have C2' := dHide (dUnhide C2 w1 B1)
    clear hr1 hs PB PY X1 C1 C2 B1
    cases hg : getL s.kept x with
    | none =>
      rw [hg] at C2'
      unfold findT noEnt Ent.val at C2'
      simp only at C2'
      have eM := dHide hg
      clear hg
      go_wp2_with fail
      refine (dUnhide C2').mono ?_
      rintro r w2 ⟨rfl, b2⟩
      obtain ⟨-, Z1, B1⟩ := dUnhide K w2 (belowThen b1 b2)
      clear k0 C2' b1 b2
      have ZZ := dHide ((((Z1.put 0 (.int .i64 0)).put 1 (.int .i64 0)).put 2 (.bool false)).put 3 (.string ⟨#[]⟩))
      have BB := dHide ((((B1.setCell (p := ⟨w.heap.size + 1, 0, none⟩) (by simp only; omega) (.int .i64 0)).setCell (p := ⟨w.heap.size + 1, 1, none⟩) (by simp only; omega) (.int .i64 0)).setCell (p := ⟨w.heap.size + 1, 2, none⟩) (by simp only; omega) (.bool false)).setCell (p := ⟨w.heap.size + 1, 3, none⟩) (by simp only; omega) (.string ⟨#[]⟩))
      obtain ⟨z0, f0⟩ := Z1.2 0 _ rfl
      obtain ⟨z1, f1⟩ := Z1.2 1 _ rfl
      obtain ⟨z2, f2⟩ := Z1.2 2 _ rfl
      obtain ⟨z3, f3⟩ := Z1.2 3 _ rfl
      clear Z1 B1 K
      go_wp2
      have q0 := ((dUnhide ZZ).2 0 _ rfl).1
      have q1 := ((dUnhide ZZ).2 1 _ rfl).1
      have q2 := ((dUnhide ZZ).2 2 _ rfl).1
      have q3 := ((dUnhide ZZ).2 3 _ rfl).1
      have hB := dUnhide BB
      clear ZZ BB z0 z1 z2 z3 f0 f1 f2 f3
      generalize (((w2.setCell ⟨w.heap.size + 1, 0, none⟩ (.int .i64 0)).setCell ⟨w.heap.size + 1, 1, none⟩ (.int .i64 0)).setCell ⟨w.heap.size + 1, 2, none⟩ (.bool false)).setCell ⟨w.heap.size + 1, 3, none⟩ (.string ⟨#[]⟩) = V at *
      refine bodyPost_ret (v := .tuple #[.agg #[.int .i64 0, .int .i64 0, .bool false, .string ⟨#[]⟩], .bool false]) (by simp [results, Try.results17, go_sem, q0, q1, q2, q3]) rfl ⟨by rw [dUnhide eM]; rfl, hB⟩
    | some e =>
      rw [hg] at C2'
      obtain ⟨yx, yw, yh, yd⟩ := e
      unfold findT Ent.val at C2'
      simp only at C2'
      have eM := dHide hg
      clear hg
      go_wp2_with fail
      refine (dUnhide C2').mono ?_
      rintro r w2 ⟨rfl, b2⟩
      obtain ⟨-, Z1, B1⟩ := dUnhide K w2 (belowThen b1 b2)
      clear k0 C2' b1 b2
      have ZZ := dHide ((((Z1.put 0 (.int .i64 yx)).put 1 (.int .i64 yw)).put 2 (.bool yh)).put 3 (.string yd))
      have BB := dHide ((((B1.setCell (p := ⟨w.heap.size + 1, 0, none⟩) (by simp only; omega) (.int .i64 yx)).setCell (p := ⟨w.heap.size + 1, 1, none⟩) (by simp only; omega) (.int .i64 yw)).setCell (p := ⟨w.heap.size + 1, 2, none⟩) (by simp only; omega) (.bool yh)).setCell (p := ⟨w.heap.size + 1, 3, none⟩) (by simp only; omega) (.string yd))
      obtain ⟨z0, f0⟩ := Z1.2 0 _ rfl
      obtain ⟨z1, f1⟩ := Z1.2 1 _ rfl
      obtain ⟨z2, f2⟩ := Z1.2 2 _ rfl
      obtain ⟨z3, f3⟩ := Z1.2 3 _ rfl
      clear Z1 B1 K
      go_wp2
      have q0 := ((dUnhide ZZ).2 0 _ rfl).1
      have q1 := ((dUnhide ZZ).2 1 _ rfl).1
      have q2 := ((dUnhide ZZ).2 2 _ rfl).1
      have q3 := ((dUnhide ZZ).2 3 _ rfl).1
      have hB := dUnhide BB
      clear ZZ BB z0 z1 z2 z3 f0 f1 f2 f3
      generalize (((w2.setCell ⟨w.heap.size + 1, 0, none⟩ (.int .i64 yx)).setCell ⟨w.heap.size + 1, 1, none⟩ (.int .i64 yw)).setCell ⟨w.heap.size + 1, 2, none⟩ (.bool yh)).setCell ⟨w.heap.size + 1, 3, none⟩ (.string yd) = V at *
      refine bodyPost_ret (v := .tuple #[.agg #[.int .i64 yx, .int .i64 yw, .bool yh, .string yd], .bool true]) (by simp [results, Try.results17, go_sem, q0, q1, q2, q3]) rfl ⟨by rw [dUnhide eM]; rfl, hB⟩
  · obtain rfl := hr1.of_no hs
    have eM := dHide (dUnhide PB hs)
    obtain ⟨-, Z1, B1⟩ := dUnhide K w1 b1
    clear hr1 hs PB PY C1 C2 b1
    have ZZ := dHide ((((Z1.put 0 (.int .i64 0)).put 1 (.int .i64 0)).put 2 (.bool false)).put 3 (.string ⟨#[]⟩))
    have BB := dHide ((((B1.setCell (p := ⟨w.heap.size + 1, 0, none⟩) (by simp only; omega) (.int .i64 0)).setCell (p := ⟨w.heap.size + 1, 1, none⟩) (by simp only; omega) (.int .i64 0)).setCell (p := ⟨w.heap.size + 1, 2, none⟩) (by simp only; omega) (.bool false)).setCell (p := ⟨w.heap.size + 1, 3, none⟩) (by simp only; omega) (.string ⟨#[]⟩))
    obtain ⟨z0, f0⟩ := Z1.2 0 _ rfl
    obtain ⟨z1, f1⟩ := Z1.2 1 _ rfl
    obtain ⟨z2, f2⟩ := Z1.2 2 _ rfl
    obtain ⟨z3, f3⟩ := Z1.2 3 _ rfl
    clear Z1 B1 K
    go_wp2
    have q0 := ((dUnhide ZZ).2 0 _ rfl).1
    have q1 := ((dUnhide ZZ).2 1 _ rfl).1
    have q2 := ((dUnhide ZZ).2 2 _ rfl).1
    have q3 := ((dUnhide ZZ).2 3 _ rfl).1
    have hB := dUnhide BB
    clear ZZ BB z0 z1 z2 z3 f0 f1 f2 f3
    generalize (((w1.setCell ⟨w.heap.size + 1, 0, none⟩ (.int .i64 0)).setCell ⟨w.heap.size + 1, 1, none⟩ (.int .i64 0)).setCell ⟨w.heap.size + 1, 2, none⟩ (.bool false)).setCell ⟨w.heap.size + 1, 3, none⟩ (.string ⟨#[]⟩) = V at *
    refine bodyPost_ret (v := .tuple #[.agg #[.int .i64 0, .int .i64 0, .bool false, .string ⟨#[]⟩], .bool false]) (by simp [results, Try.results17, go_sem, q0, q1, q2, q3]) rfl ⟨by rw [dUnhide eM]; rfl, hB⟩
end Go.Proofs.Ytejmfohkobhidaa
namespace Go.Proofs.Ytejmfohkobhidaa
open Go.ChangeShapes Go.WideShapes Go.ChangeAt Go.RowKit
set_option linter.unusedVariables false
set_option linter.unusedSimpArgs false
set_option maxRecDepth 100000

open Classical in
/-- StoreEra. -/
noncomputable def eraM (s : St) (x : Int) : List Ent := if stP s then eraL s.kept x else []
theorem eraL_snoc (es : List Ent) (e : Ent) (x : Int) : eraL (es ++ [e]) x = if e.pl / 4294967296 = x then eraL es x ++ [e] else eraL es x := by
  unfold eraL
  rw [List.filter_append]
  by_cases h : e.pl / 4294967296 = x <;> simp [h]
theorem eraL_len (es : List Ent) (x : Int) : (eraL es x).length ≤ es.length := List.length_filter_le _ _
end Go.Proofs.Ytejmfohkobhidaa
