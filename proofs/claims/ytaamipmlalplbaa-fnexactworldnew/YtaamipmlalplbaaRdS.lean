/- Readers, as the exact laws handle them. -/
import Derived.Test.YtaamipmlalplbaaEvS
import Derived.Deep.DeepCutAuto
namespace Go.Proofs.Ytaamipmlalplbaa
open Go.ChangeShapes Go.WideShapes Go.ChangeAt Go.RowKit
set_option linter.unusedVariables false
set_option linter.unusedSimpArgs false
set_option maxRecDepth 100000

/-- A reader. -/
structure Rr where
  epoch : Int
  off : Int
  out : List Ev
def RdReader (v : Value) (m : Rr) (W : World) : Prop := ∃ sv, v = .agg #[.int .i64 m.epoch, .int .i64 m.off, sv] ∧ RdEventS sv m.out W
def OwReader (lo hi : Nat) (v : Value) (m : Rr) (W : World) : Prop := ∃ sv, v = .agg #[.int .i64 m.epoch, .int .i64 m.off, sv] ∧ OwEventS lo hi sv m.out W
def sizReader (m : Rr) : Nat := sizEventS m.out
def cntReader (m : Rr) : Nat := cntEventS m.out
def mkReader (k : Nat) (m : Rr) : Rr := ⟨m.epoch, m.off, mkEventS k m.out⟩
theorem OwReader.rd {lo hi : Nat} {v : Value} {m : Rr} {W : World} (h : OwReader lo hi v m W) : RdReader v m W := by
  obtain ⟨sv, h1, h2⟩ := h
  exact ⟨sv, h1, OwEventS.rd h2⟩
theorem RdReader.below {v : Value} {m : Rr} {W W' : World} (h : RdReader v m W) (b : Below W.heap.size W W') : RdReader v m W' := by
  obtain ⟨sv, h1, h2⟩ := h
  exact ⟨sv, h1, RdEventS.below h2 b⟩
theorem formReader {v : Value} {m : Rr} {W : World} (h : RdReader v m W) : ∃ a cap, v = .agg #[.int .i64 m.epoch, .int .i64 m.off, .slice a m.out.length cap] ∧ m.out.length ≤ 9223372036854775807 := by
  obtain ⟨sv, rfl, h⟩ := h
  obtain ⟨a, cap, rfl, h0⟩ := formEventS h
  exact ⟨a, cap, rfl, h0⟩
theorem OwReader.sits {lo hi : Nat} {w : World} {v : Value} {m : Rr} (h : OwReader lo hi v m w) (hf : hi ≤ w.heap.size) : Sits (OwReader lo hi v m) lo hi w := by
  obtain ⟨sv, h1, h2⟩ := h
  have s2 := OwG.sits h2 hf
  exact ⟨hf, fun W hW => ⟨sv, h1, s2.all W hW⟩⟩
theorem cntReader_le {m : Rr} (h : sizReader m ≤ 1048576) : cntReader m ≤ 3145728 := cntEventS_le h
set_option maxHeartbeats 2000000 in
theorem eqReader_ (u v : Value) (m : Rr) (w : World) (hu : RdReader u m w) (hv : RdReader v m w) :
    Calls Try.prog 47 #[u, v] w fun e w' => e = .returned (.bool true) ∧ Below w.heap.size w w' := by
  have hb0 : ∀ o o', Below w.heap.size w ((w.alloc o).alloc o') := fun o o' => ((Below.refl _ _).alloc (Nat.le_refl _) o).alloc (by simp) o'
  obtain ⟨su, rfl, hu⟩ := hu
  obtain ⟨sv, rfl, hv⟩ := hv
  have C1 := dHide fun W (hb : Below w.heap.size w W) => eqEventS_ su sv m.out W (RdEventS.below hu hb) (RdEventS.below hv hb)
  obtain ⟨a, cap, rfl, -⟩ := formEventS hu
  obtain ⟨a', cap', rfl, -⟩ := formEventS hv
  generalize m.epoch = sl at *
  generalize m.off = so at *
  have X0 := (Bx.new w [.int .i64 sl, .int .i64 so, .slice a m.out.length cap] 49).below ((Below.refl _ _).alloc (Nat.le_refl _) (.cells #[.int .i64 sl, .int .i64 so, .slice a' m.out.length cap'] 49))
  have Y0 := Bx.new (w.alloc (.cells #[.int .i64 sl, .int .i64 so, .slice a m.out.length cap] 49)) [.int .i64 sl, .int .i64 so, .slice a' m.out.length cap'] 49
  have e1 : (w.alloc (.cells #[.int .i64 sl, .int .i64 so, .slice a m.out.length cap] 49)).heap.size = w.heap.size + 1 := by simp
  rw [e1] at Y0
  clear e1 hu hv
  go_enter Try.func47, Try.ntmps47
  go_wp2_with fail
  refine (dUnhide C1 _ (hb0 _ _)).mono ?_
  rintro e w1 ⟨rfl, b1⟩
  have B1 := belowThen (hb0 _ _) b1
  clear X0 Y0 b1 hb0 C1
  go_wp2
  go_ret
  exact ⟨rfl, B1⟩
end Go.Proofs.Ytaamipmlalplbaa
