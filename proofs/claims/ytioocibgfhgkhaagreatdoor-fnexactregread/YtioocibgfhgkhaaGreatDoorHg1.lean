/- Several texts in one: PiG, PiJ. -/
import Derived.Test.YtioocibgfhgkhaaGreatDoorPiD
import Derived.Test.YtioocibgfhgkhaaGreatDoorPutW
import Derived.Test.YtioocibgfhgkhaaGreatDoorGaA
import Derived.Test.YtioocibgfhgkhaaGreatDoorImGb
import Derived.Deep.RegionHeld3
import Derived.Deep.DeepCutAuto
namespace Go.Proofs.YtioocibgfhgkhaaGreatDoor
open Go.ChangeShapes Go.WideShapes Go.ChangeAt Go.RowKit
set_option linter.unusedVariables false
set_option linter.unusedSimpArgs false
set_option maxRecDepth 100000

/-- How a register lasts: three functions. -/
def registerFormL (cb : Nat) : List Value := [.func (.func 48) #[] #[.pointer (some ⟨cb, 0, none⟩)], .func (.func 50) #[] #[], .func (.func 51) #[] #[]]
set_option maxHeartbeats 2000000 in
theorem registerForm_any (a : Option Addr) (n cap : Nat) (x : Int) (w : World) :
    Calls Tryz.prog 28 #[.agg #[.slice a n cap, .int .i64 x]] w fun e w' => ∃ cb, e = .returned (.agg (registerFormL cb).toArray) ∧ Bx w' cb [.slice a n cap, .int .i64 x] ∧ Below w.heap.size w w' := by
  have X0 := Bx.new w [.slice a n cap, .int .i64 x] 32
  have b0 : Below w.heap.size w (w.alloc (.cells #[.slice a n cap, .int .i64 x] 32)) := (Below.refl _ _).alloc (Nat.le_refl _) _
  have Y0 := BxZ.new (w.alloc (.cells #[.slice a n cap, .int .i64 x] 32)) [.nilFunc, .nilFunc, .nilFunc] 64 (B := (w.alloc (.cells #[.slice a n cap, .int .i64 x] 32)).heap.size) (Nat.le_refl _)
  have b1 : Below (w.alloc (.cells #[.slice a n cap, .int .i64 x] 32)).heap.size (w.alloc (.cells #[.slice a n cap, .int .i64 x] 32)) ((w.alloc (.cells #[.slice a n cap, .int .i64 x] 32)).alloc (.cells #[.nilFunc, .nilFunc, .nilFunc] 64)) := (Below.refl _ _).alloc (Nat.le_refl _) _
  have hs : (w.alloc (.cells #[.slice a n cap, .int .i64 x] 32)).heap.size = w.heap.size + 1 := by simp
  have X1 := X0.below b1
  have B1 := belowThen b0 b1
  rw [hs] at Y0
  clear b0 X0 b1
  go_enter Tryz.func28, Tryz.ntmps28
  go_wp2_with (refine wp_putW rfl _ _ _ rfl rfl (registerFormL w.heap.size) rfl rfl Y0 rfl (by kernel_rfl) (by kernel_rfl) ?_; intro w2 Y2 s2 g2 b2)
  refine bodyPost_ret (results_box Tryz.results28 _ _ _ (registerFormL w.heap.size) _ rfl Y2.bx Tryz.underlying64 rfl (by kernel_rfl)) rfl ⟨_, rfl, X1.off g2 (by omega), B1.trans (b2.mono (by omega))⟩
end Go.Proofs.YtioocibgfhgkhaaGreatDoor
namespace Go.Proofs.YtioocibgfhgkhaaGreatDoor
open Go.ChangeShapes Go.WideShapes Go.ChangeAt Go.RowKit
set_option linter.unusedVariables false
set_option linter.unusedSimpArgs false
set_option maxRecDepth 100000

set_option maxHeartbeats 2000000 in
theorem registerForm1_any (c : List Int × Int) (ca : Option Addr) (cc : Nat) (m : Rg) (a : Option Addr) (cap cb : Nat) (w : World) (hc : RdConfig (.agg #[.slice ca c.1.length cc, .int .i64 c.2]) c w) (hv : RdRegister (.agg #[.slice a m.eras.length cap, .int .i64 m.trim]) m w) (okc : okConfig c) (ok : okRegister m) (hsc : sizConfig c ≤ 1048576) (hs : sizRegister m ≤ 1048576) (X : Bx w cb [.slice ca c.1.length cc, .int .i64 c.2]) :
    Calls Tryz.prog 48 #[.agg #[.slice a m.eras.length cap, .int .i64 m.trim], .pointer (some ⟨cb, 0, none⟩)] w fun r w' => RetB (regP c.1 c.2 m) r ∧ Below w.heap.size w w' := by
  have ba : ∀ (w : World) o, Below w.heap.size w (w.alloc o) := fun w o => (Below.refl _ _).alloc (Nat.le_refl _) o
  have CO := dHide fun W (hb : Below w.heap.size w W) => implRegOk_any _ _ c m W (hc.below hb) (hv.below hb) okc ok hsc hs
  generalize regP c.1 c.2 m = P at *
  have B0 := ba w (.cells #[.slice a m.eras.length cap, .int .i64 m.trim] 29)
  have X1 := X.below B0
  have k0 := X1 0 _ rfl
  have k1 := X1 1 _ rfl
  clear hv hc ba X X1
  go_enter Tryz.func48, Tryz.ntmps48
  go_wp2_with fail
  refine (dUnhide CO _ B0).mono ?_
  rintro e w1 ⟨⟨b1, rfl, h1⟩, hb1⟩
  have R : RetB P (.returned (.bool b1)) := ⟨b1, rfl, h1⟩
  have B1 := belowThen B0 hb1
  clear CO hb1 B0 h1 k0 k1
  go_wp2
  go_ret
  exact ⟨R, B1⟩
theorem erNodes_len (m : Rg) (hs : sizRegister m ≤ 1048576) : ∀ e ∈ m.eras, e.nodes.length ≤ 1048576 := fun e he => by
  obtain ⟨i, hi, rfl⟩ := List.getElem_of_mem he
  have h1 := sumN_mem hi
  unfold sizRegister sizEraS at hs
  omega
theorem ers_take_len (m : Rg) (hs : sizRegister m ≤ 1048576) (hev : ∀ e ∈ m.eras, natI e.nodes ∧ 0 ≤ e.last ∧ e.last ≤ 60) (k : Nat) : ((m.eras.take k).flatMap erB).length ≤ 100000000 := by
  have h1 := ersB_len (m.eras.take k)
  have h2 := sumN_le m.eras k
  have h3 : (m.eras.take k).length ≤ m.eras.length := by rw [List.length_take]; omega
  unfold sizRegister sizEraS at hs
  omega
end Go.Proofs.YtioocibgfhgkhaaGreatDoor
