/- Records as bytes: impl's ConfigPack. -/
import Derived.Test.YthndkkjgjhgdnaaDoorHi1
import Derived.Test.YthndkkjgjhgdnaaDoorPutW
import Derived.Test.YthndkkjgjhgdnaaDoorGaA
import Derived.Test.YthndkkjgjhgdnaaDoorGaG
import Derived.Deep.RegionHeld3
import Derived.Deep.DeepCutAuto
namespace Go.Proofs.YthndkkjgjhgdnaaDoor
open Go.ChangeShapes Go.WideShapes Go.ChangeAt Go.RowKit
set_option linter.unusedVariables false
set_option linter.unusedSimpArgs false
set_option maxRecDepth 100000

theorem natI_cfgI {ds : List Int} {cop : Int} (h : cfgP ds cop) : natI ds := fun x hx => by
  obtain ⟨i, hi, rfl⟩ := List.getElem_of_mem hx
  have := h.2.2 i hi
  omega
/-- How a config lasts: three functions. -/
def cfgForm : List Value := [.func (.func 44) #[] #[], .func (.func 45) #[] #[], .func (.func 46) #[] #[]]
set_option maxHeartbeats 2000000 in
theorem configForm_any (w : World) :
    Calls Tryd.prog 22 #[] w fun e w' => e = .returned (.agg cfgForm.toArray) ∧ Below w.heap.size w w' := by
  have Y0 := BxZ.new w [.nilFunc, .nilFunc, .nilFunc] 49 (B := w.heap.size) (Nat.le_refl _)
  have B0 : Below w.heap.size w (w.alloc (.cells #[.nilFunc, .nilFunc, .nilFunc] 49)) := (Below.refl _ _).alloc (Nat.le_refl _) _
  go_enter Tryd.func22, Tryd.ntmps22
  go_wp2_with (refine wp_putW rfl _ _ _ rfl rfl cfgForm rfl rfl Y0 rfl (by kernel_rfl) (by kernel_rfl) ?_; intro w2 Y2 s2 g2 b2)
  refine bodyPost_ret (results_box Tryd.results22 _ _ _ cfgForm _ rfl Y2.bx Tryd.underlying49 rfl (by kernel_rfl)) rfl ⟨rfl, B0.trans b2⟩
set_option maxHeartbeats 4000000 in
theorem packConfig_any (a : Option Addr) (n cap : Nat) (c : Int) (P : Prop) (M : List UInt8 × Bool) (bs : List UInt8) (hy : P → M = (bs, true)) (hn : ¬ P → M = ([], false)) (w : World)
    (CR : ∀ W, Below w.heap.size w W → Calls Tryd.prog 44 #[.agg #[.slice a n cap, .int .i64 c]] W fun e w' => RetB P e ∧ Below W.heap.size W w')
    (CW : P → ∀ W, Below w.heap.size w W → Calls Tryd.prog 45 #[.slice none 0 0, .agg #[.slice a n cap, .int .i64 c]] W fun e w' => ∃ u, e = .returned u ∧ OwnX w' W.heap.size u bs ∧ Below W.heap.size W w') :
    Calls Tryd.prog 23 #[.agg cfgForm.toArray, .agg #[.slice a n cap, .int .i64 c]] w fun e w' => (∃ u, e = .returned (.tuple #[u, .bool M.2]) ∧ OwnX w' w.heap.size u M.1) ∧ Below w.heap.size w w' := by
  have CR := dHide CR
  have CW := dHide CW
  have HY := dHide hy
  have HN := dHide hn
  have ba : ∀ (w : World) o, Below w.heap.size w (w.alloc o) := fun w o => (Below.refl _ _).alloc (Nat.le_refl _) o
  clear hy hn
  unfold cfgForm
  have X0 := Bx.new w [.func (.func 44) #[] #[], .func (.func 45) #[] #[], .func (.func 46) #[] #[]] 49
  have B0 := ba w (.cells #[.func (.func 44) #[] #[], .func (.func 45) #[] #[], .func (.func 46) #[] #[]] 49)
  have X1 := Bx.new (w.alloc (.cells #[.func (.func 44) #[] #[], .func (.func 45) #[] #[], .func (.func 46) #[] #[]] 49)) [.slice a n cap, .int .i64 c] 26
  have b1 := ba (w.alloc (.cells #[.func (.func 44) #[] #[], .func (.func 45) #[] #[], .func (.func 46) #[] #[]] 49)) (.cells #[.slice a n cap, .int .i64 c] 26)
  replace X0 := X0.below b1
  have B1 := belowThen B0 b1
  have hs : (w.alloc (.cells #[.func (.func 44) #[] #[], .func (.func 45) #[] #[], .func (.func 46) #[] #[]] 49)).heap.size = w.heap.size + 1 := by simp
  rw [hs] at X1
  clear hs B0 b1 ba
  go_enter Tryd.func23, Tryd.ntmps23
  go_upto_region 1 with fail
  generalize (w.alloc (.cells #[.func (.func 44) #[] #[], .func (.func 45) #[] #[], .func (.func 46) #[] #[]] 49)).alloc (.cells #[.slice a n cap, .int .i64 c] 26) = w1 at *
  have k0 := X0 0 _ rfl
  have k1 := X0 1 _ rfl
  have q0 := X1 0 _ rfl
  have q1 := X1 1 _ rfl
  go_wp2_with fail
  refine (dUnhide CR _ B1).mono ?_
  rintro e w2 ⟨hr, b2⟩
  have B2 := belowThen B1 b2
  replace X0 := X0.below b2
  replace X1 := X1.below b2
  have k0 := X0 0 _ rfl
  have k1 := X0 1 _ rfl
  have q0 := X1 0 _ rfl
  have q1 := X1 1 _ rfl
  have hsz := B2.size
  clear CR b2 B1 X0 X1
  by_cases hP : P
  · obtain rfl := hr.of_yes hP
    have HM := dHide (dUnhide HY hP)
    have C2 := dHide (dUnhide CW hP _ B2)
    clear hr HY HN CW hP
    go_wp2_with fail
    refine (dUnhide C2).mono ?_
    rintro e w3 ⟨u, rfl, O3, b3⟩
    have F := dHide (And.intro (O3.mono hsz) (belowThen B2 b3))
    clear C2 O3 b3 B2 hsz k0 k1 q0 q1
    have e2 := dUnhide HM
    clear HM
    subst e2
    go_wp2
    go_ret2
    exact ⟨⟨_, rfl, (dUnhide F).1⟩, (dUnhide F).2⟩
  · obtain rfl := hr.of_no hP
    have e2 := dUnhide HN hP
    clear hr HY HN CW hP
    subst e2
    go_wp2
    go_ret2
    exact ⟨⟨_, rfl, OwnX.nil _ _⟩, B2⟩
set_option maxHeartbeats 4000000 in
theorem implConfigPack_any (sv : Value) (ds : List Int) (cop : Int) (w : World) (hv : Ns w sv ds) (ha : allInt ds) (hl : ds.length ≤ 1048576) (c0 : -9223372036854775808 ≤ cop) (c1 : cop ≤ 9223372036854775807) :
    Calls Tryd.prog 7 #[.agg #[sv, .int .i64 cop]] w fun e w' => (∃ u, e = .returned (.tuple #[u, .bool (cfgM ds cop).2]) ∧ OwnX w' w.heap.size u (cfgM ds cop).1) ∧ Below w.heap.size w w' := by
  have ba : ∀ (w : World) o, Below w.heap.size w (w.alloc o) := fun w o => (Below.refl _ _).alloc (Nat.le_refl _) o
  have HV := dHide fun W (hb : Below w.heap.size w W) => hv.below hb
  have CF := dHide fun W => configForm_any W
  have CP : Hid (∀ a n cap, sv = .slice a n cap → ∀ W, Below w.heap.size w W → Calls Tryd.prog 23 #[.agg cfgForm.toArray, .agg #[sv, .int .i64 cop]] W fun e w' => (∃ u, e = .returned (.tuple #[u, .bool (cfgM ds cop).2]) ∧ OwnX w' W.heap.size u (cfgM ds cop).1) ∧ Below W.heap.size W w') := fun a n cap es W hb => by
    subst es
    refine packConfig_any a n cap cop (cfgP ds cop) (cfgM ds cop) (cfgB ds cop) cfgM_yes cfgM_no W (fun W' hb' => implCfg_any _ ds cop W' (dUnhide HV W' (belowThen hb hb')) ha hl c0 c1) fun hP W' hb' => ?_
    obtain ⟨k, rfl⟩ := Int.eq_ofNat_of_zero_le (show 0 ≤ cop by have := hP.2.1.1; omega)
    refine (addConfig_x W'.heap.size W' (.slice none 0 0) [] _ ds k (by omega) (natI_cfgI hP) hl (by simp) (fun W2 hb2 => dUnhide HV W2 (belowThen (belowThen hb hb') hb2)) W' (Below.refl _ _) (OwnX.nil _ _) (Nat.le_refl _)).mono ?_
    rintro e w' ⟨v, rfl, O, T⟩
    exact ⟨v, rfl, by simpa using O, T.below (by intro k hk; cases hk) (Below.refl _ _) (Nat.le_refl _)⟩
  obtain ⟨-, a, cap, rfl, -, -⟩ := hv
  have CP := dHide (dUnhide CP a _ cap rfl)
  generalize cfgM ds cop = M at *
  have X0 := Bx.new w [.slice a ds.length cap, .int .i64 cop] 26
  have B0 := ba w (.cells #[.slice a ds.length cap, .int .i64 cop] 26)
  have KX : Hid (∀ W, Below (w.heap.size + 1) (w.alloc (.cells #[.slice a ds.length cap, .int .i64 cop] 26)) W → W.cell? ⟨w.heap.size, 0, none⟩ = some (.slice a ds.length cap) ∧ W.cell? ⟨w.heap.size, 1, none⟩ = some (.int .i64 cop) ∧ Below w.heap.size w W) := fun W hb => by
    have hs : (w.alloc (.cells #[.slice a ds.length cap, .int .i64 cop] 26)).heap.size = w.heap.size + 1 := by simp
    rw [← hs] at hb
    have X := X0.below hb
    exact ⟨X 0 _ rfl, X 1 _ rfl, belowThen B0 hb⟩
  have hsz : (w.alloc (.cells #[.slice a ds.length cap, .int .i64 cop] 26)).heap.size = w.heap.size + 1 := by simp
  clear X0 B0 HV ba
  go_enter Tryd.func7, Tryd.ntmps7
  go_upto_region 1 with fail
  generalize w.alloc (.cells #[.slice a ds.length cap, .int .i64 cop] 26) = w0 at *
  have hbr : Below (w.heap.size + 1) w0 w0 := Below.refl _ _
  have HS := dHide hsz
  have q0 := (dUnhide KX _ hbr).1
  have q1 := (dUnhide KX _ hbr).2.1
  clear hsz
  go_region_held3 (fun W => W.cell? ⟨w.heap.size, 0, none⟩ = some (.slice a ds.length cap) ∧ W.cell? ⟨w.heap.size, 1, none⟩ = some (.int .i64 cop)) (go_keep)
    (first
      | (go_at_call 22; refine (dUnhide CF _).mono ?_; rintro e w2 ⟨rfl, b2⟩; have B2 : Below (w.heap.size + 1) w0 w2 := hbr.drew.trans (b2.mono (by first | exact hbr.drew.size | (have := dUnhide HS; simp; omega))); have r0 := (dUnhide KX _ B2).1; have r1 := (dUnhide KX _ B2).2.1; have R2 := dHide (dUnhide KX _ B2).2.2; clear b2)
      | (go_at_call 23; refine (dUnhide CP _ (dUnhide R2)).mono ?_; rintro e w3 ⟨⟨u, rfl, O3⟩, b3⟩; have B3 : Below (w.heap.size + 1) w0 w3 := B2.trans (b3.mono (by have := dUnhide HS; have := B2.size; omega)); have t0 := (dUnhide KX _ B3).1; have t1 := (dUnhide KX _ B3).2.1; have F := dHide (And.intro (O3.mono (dUnhide R2).size) (belowThen (dUnhide R2) b3)); clear O3 b3)
      | fail)
  all_goals (try go_wp2)
  all_goals (go_ret2; exact ⟨⟨_, rfl, (dUnhide F).1⟩, (dUnhide F).2⟩)
end Go.Proofs.YthndkkjgjhgdnaaDoor
