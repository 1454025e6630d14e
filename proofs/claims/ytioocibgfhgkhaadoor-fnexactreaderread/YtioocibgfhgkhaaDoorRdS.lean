/- Readers, as the exact laws handle them. -/
import Derived.Test.YtioocibgfhgkhaaDoorEvS
import Derived.Deep.DeepCutAuto
namespace Go.Proofs.YtioocibgfhgkhaaDoor
open Go.ChangeShapes Go.WideShapes Go.ChangeAt Go.RowKit
set_option linter.unusedVariables false
set_option linter.unusedSimpArgs false
set_option maxRecDepth 100000

/-- A reader. -/
structure Rr where
  epoch : Int
  off : Int
  out : List Ev
def RdReader (v : Value) (m : Rr) (W : World) : Prop := ∃ sv, v = .agg #[.int .i64 m.epoch, .int .i64 m.off, sv] ∧ RdEventS sv m.out W
def OwReader (lo hi : Nat) (v : Value) (m : Rr) (W : World) : Prop := ∃ sv, v = .agg #[.int .i64 m.epoch, .int .i64 m.off, sv] ∧ OwEventS lo hi sv m.out W
def sizReader (m : Rr) : Nat := sizEventS m.out
def cntReader (m : Rr) : Nat := cntEventS m.out
def mkReader (k : Nat) (m : Rr) : Rr := ⟨m.epoch, m.off, mkEventS k m.out⟩
theorem OwReader.rd {lo hi : Nat} {v : Value} {m : Rr} {W : World} (h : OwReader lo hi v m W) : RdReader v m W := by
  obtain ⟨sv, h1, h2⟩ := h
  exact ⟨sv, h1, OwEventS.rd h2⟩
theorem RdReader.below {v : Value} {m : Rr} {W W' : World} (h : RdReader v m W) (b : Below W.heap.size W W') : RdReader v m W' := by
  obtain ⟨sv, h1, h2⟩ := h
  exact ⟨sv, h1, RdEventS.below h2 b⟩
theorem formReader {v : Value} {m : Rr} {W : World} (h : RdReader v m W) : ∃ a cap, v = .agg #[.int .i64 m.epoch, .int .i64 m.off, .slice a m.out.length cap] ∧ m.out.length ≤ 9223372036854775807 := by
  obtain ⟨sv, rfl, h⟩ := h
  obtain ⟨a, cap, rfl, h0⟩ := formEventS h
  exact ⟨a, cap, rfl, h0⟩
theorem OwReader.sits {lo hi : Nat} {w : World} {v : Value} {m : Rr} (h : OwReader lo hi v m w) (hf : hi ≤ w.heap.size) : Sits (OwReader lo hi v m) lo hi w := by
  obtain ⟨sv, h1, h2⟩ := h
  have s2 := OwG.sits h2 hf
  exact ⟨hf, fun W hW => ⟨sv, h1, s2.all W hW⟩⟩
theorem cntReader_le {m : Rr} (h : sizReader m ≤ 1048576) : cntReader m ≤ 3145728 := cntEventS_le h
set_option maxHeartbeats 2000000 in
theorem eqReader_ (u v : Value) (m : Rr) (w : World) (hu : RdReader u m w) (hv : RdReader v m w) :
    Calls Tryd.prog 15 #[u, v] w fun e w' => e = .returned (.bool true) ∧ Below w.heap.size w w' := by
  have hb0 : ∀ o o', Below w.heap.size w ((w.alloc o).alloc o') := fun o o' => ((Below.refl _ _).alloc (Nat.le_refl _) o).alloc (by simp) o'
  obtain ⟨su, rfl, hu⟩ := hu
  obtain ⟨sv, rfl, hv⟩ := hv
  have C1 := dHide fun W (hb : Below w.heap.size w W) => eqEventS_ su sv m.out W (RdEventS.below hu hb) (RdEventS.below hv hb)
  obtain ⟨a, cap, rfl, -⟩ := formEventS hu
  obtain ⟨a', cap', rfl, -⟩ := formEventS hv
  generalize m.epoch = sl at *
  generalize m.off = so at *
  have X0 := (Bx.new w [.int .i64 sl, .int .i64 so, .slice a m.out.length cap] 36).below ((Below.refl _ _).alloc (Nat.le_refl _) (.cells #[.int .i64 sl, .int .i64 so, .slice a' m.out.length cap'] 36))
  have Y0 := Bx.new (w.alloc (.cells #[.int .i64 sl, .int .i64 so, .slice a m.out.length cap] 36)) [.int .i64 sl, .int .i64 so, .slice a' m.out.length cap'] 36
  have e1 : (w.alloc (.cells #[.int .i64 sl, .int .i64 so, .slice a m.out.length cap] 36)).heap.size = w.heap.size + 1 := by simp
  rw [e1] at Y0
  clear e1 hu hv
  go_enter Tryd.func15, Tryd.ntmps15
  go_wp2_with fail
  refine (dUnhide C1 _ (hb0 _ _)).mono ?_
  rintro e w1 ⟨rfl, b1⟩
  have B1 := belowThen (hb0 _ _) b1
  clear X0 Y0 b1 hb0 C1
  go_wp2
  go_ret
  exact ⟨rfl, B1⟩
set_option maxHeartbeats 2000000 in
theorem markReader_ (lo hi : Nat) (v : Value) (m : Rr) (k0 : Nat) (w : World) (hk : k0 ≤ 536870912) (hl : cntReader m ≤ 536870912) (h : Sits (OwReader lo hi v m) lo hi w) :
    Calls Tryd.prog 16 #[v, .int .i64 (k0 : Int)] w fun e w' => e = .returned (.int .i64 ((k0 + cntReader m : Nat) : Int)) ∧ Sits (OwReader lo hi v (mkReader k0 m)) lo hi w' ∧ Wr lo hi w w' := by
  obtain ⟨sv, rfl, hn⟩ := h.now
  have hN : Sits (OwEventS lo hi sv m.out) lo hi w := h.imp fun W ⟨sv', h1, h2⟩ => by cases h1; exact h2
  have hb0 : ∀ o, Below w.heap.size w (w.alloc o) := fun o => (Below.refl _ _).alloc (Nat.le_refl _) o
  have C1 := dHide fun o => markEventS_ lo hi sv m.out k0 (w.alloc o) (by omega) (by unfold cntReader at hl; omega) (hN.below (hb0 o))
  have e1 : ((k0 + cntReader m : Nat) : Int) = ((k0 + cntEventS m.out : Nat) : Int) := rfl
  rw [e1]
  have HI := dHide fun (W : World) (h : Sits (OwEventS lo hi sv (mkEventS k0 m.out)) lo hi W) => h.imp fun W hW => (show OwReader lo hi (.agg #[.int .i64 m.epoch, .int .i64 m.off, sv]) (mkReader k0 m) W from ⟨sv, rfl, hW⟩)
  obtain ⟨a, cap, rfl, -⟩ := formEventS (OwEventS.rd hn)
  clear h hN hk hl e1 hn
  go_enter Tryd.func16, Tryd.ntmps16
  go_wp2_with fail
  refine (dUnhide C1 _).mono ?_
  rintro e w1 ⟨rfl, o1, d1⟩
  have q1 := dHide (dUnhide HI _ o1)
  have D1 := dHide ((Wr.of_below (hb0 _)).trans d1)
  clear o1 d1 C1 hb0 HI
  go_wp2
  go_ret
  exact ⟨rfl, dUnhide q1, dUnhide D1⟩
set_option maxHeartbeats 2000000 in
theorem heldReader_ (v : Value) (m : Rr) (k0 : Nat) (w : World) (hk : k0 ≤ 536870912) (hl : cntReader m ≤ 536870912) (h : RdReader v (mkReader k0 m) w) :
    Calls Tryd.prog 17 #[v, .int .i64 (k0 : Int)] w fun e w' => e = .returned (.int .i64 ((k0 + cntReader m : Nat) : Int)) ∧ Below w.heap.size w w' := by
  have hb0 : ∀ o, Below w.heap.size w (w.alloc o) := fun o => (Below.refl _ _).alloc (Nat.le_refl _) o
  obtain ⟨sv, rfl, h⟩ := h
  have C1 := dHide fun W (hb : Below w.heap.size w W) => heldEventS_ sv m.out k0 W (by omega) (by unfold cntReader at hl; omega) (RdEventS.below h hb)
  obtain ⟨a, cap, rfl, -⟩ := formEventS h
  have e1 : ((k0 + cntReader m : Nat) : Int) = ((k0 + cntEventS m.out : Nat) : Int) := rfl
  rw [e1]
  have h1 : ¬ ((k0 + cntEventS m.out : Nat) : Int) < 0 := by omega
  generalize ((k0 + cntEventS m.out : Nat) : Int) = q at *
  generalize (mkReader k0 m).epoch = tr at *
  generalize (mkReader k0 m).off = tr2 at *
  generalize (mkReader k0 m).out.length = n at *
  clear h e1 hk hl
  go_enter Tryd.func17, Tryd.ntmps17
  go_wp2_with fail
  refine (dUnhide C1 _ (hb0 _)).mono ?_
  rintro r w1 ⟨rfl, b1⟩
  have B1 := belowThen (hb0 _) b1
  clear C1 b1 hb0
  go_wp2
  go_ret
  exact ⟨rfl, B1⟩
end Go.Proofs.YtioocibgfhgkhaaDoor
