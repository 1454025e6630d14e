/- Readers, as the exact laws handle them. -/
import Derived.Test.YtioocibgfhgkhaaEvS
import Derived.Deep.DeepCutAuto
namespace Go.Proofs.Ytioocibgfhgkhaa
open Go.ChangeShapes Go.WideShapes Go.ChangeAt Go.RowKit
set_option linter.unusedVariables false
set_option linter.unusedSimpArgs false
set_option maxRecDepth 100000

/-- A reader. -/
structure Rr where
  epoch : Int
  off : Int
  out : List Ev
def RdReader (v : Value) (m : Rr) (W : World) : Prop := ∃ sv, v = .agg #[.int .i64 m.epoch, .int .i64 m.off, sv] ∧ RdEventS sv m.out W
def OwReader (lo hi : Nat) (v : Value) (m : Rr) (W : World) : Prop := ∃ sv, v = .agg #[.int .i64 m.epoch, .int .i64 m.off, sv] ∧ OwEventS lo hi sv m.out W
def sizReader (m : Rr) : Nat := sizEventS m.out
def cntReader (m : Rr) : Nat := cntEventS m.out
def mkReader (k : Nat) (m : Rr) : Rr := ⟨m.epoch, m.off, mkEventS k m.out⟩
theorem OwReader.rd {lo hi : Nat} {v : Value} {m : Rr} {W : World} (h : OwReader lo hi v m W) : RdReader v m W := by
  obtain ⟨sv, h1, h2⟩ := h
  exact ⟨sv, h1, OwEventS.rd h2⟩
theorem RdReader.below {v : Value} {m : Rr} {W W' : World} (h : RdReader v m W) (b : Below W.heap.size W W') : RdReader v m W' := by
  obtain ⟨sv, h1, h2⟩ := h
  exact ⟨sv, h1, RdEventS.below h2 b⟩
theorem formReader {v : Value} {m : Rr} {W : World} (h : RdReader v m W) : ∃ a cap, v = .agg #[.int .i64 m.epoch, .int .i64 m.off, .slice a m.out.length cap] ∧ m.out.length ≤ 9223372036854775807 := by
  obtain ⟨sv, rfl, h⟩ := h
  obtain ⟨a, cap, rfl, h0⟩ := formEventS h
  exact ⟨a, cap, rfl, h0⟩
theorem OwReader.sits {lo hi : Nat} {w : World} {v : Value} {m : Rr} (h : OwReader lo hi v m w) (hf : hi ≤ w.heap.size) : Sits (OwReader lo hi v m) lo hi w := by
  obtain ⟨sv, h1, h2⟩ := h
  have s2 := OwG.sits h2 hf
  exact ⟨hf, fun W hW => ⟨sv, h1, s2.all W hW⟩⟩
theorem cntReader_le {m : Rr} (h : sizReader m ≤ 1048576) : cntReader m ≤ 3145728 := cntEventS_le h
theorem szReader_ (v : Value) (m : Rr) (left : Int) (l0 : 0 ≤ left) (l1 : left ≤ 1048576) (ht : txtEv m.out) (w : World) (h : RdReader v m w) :
    Calls Try.prog 28 #[v, .int .i64 left] w fun e w' => e = .returned (.int .i64 (lft left (sizReader m))) ∧ Below w.heap.size w w' := by
  have hb0 : ∀ o, Below w.heap.size w (w.alloc o) := fun o => (Below.refl _ _).alloc (Nat.le_refl _) o
  obtain ⟨sv, rfl, h⟩ := h
  have C1 := dHide fun W (hb : Below w.heap.size w W) => szEventS_ sv m.out left l0 l1 ht W (RdEventS.below h hb)
  obtain ⟨a, cap, rfl, -⟩ := formEventS h
  have e0 : sizReader m = sizEventS m.out := rfl
  rw [e0]
  have hL : lft left (sizEventS m.out) < 0 → lft left (sizEventS m.out) = -1 := fun h => by
    unfold lft at h ⊢
    split
    · rfl
    · rename_i h2; rw [if_neg h2] at h; omega
  generalize lft left (sizEventS m.out) = M at *
  have HL := dHide hL
  clear hL h e0 ht
  go_enter Try.func28, Try.ntmps28
  go_wp2_with fail
  refine (dUnhide C1 _ (hb0 _)).mono ?_
  rintro r w1 ⟨rfl, b1⟩
  have B1 := belowThen (hb0 _) b1
  clear b1 hb0 C1
  by_cases hM : M < 0
  · have e1 := dUnhide HL hM
    subst e1
    go_wp2
    go_ret
    exact ⟨rfl, B1⟩
  · go_wp2
    go_ret
    exact ⟨rfl, B1⟩
set_option maxHeartbeats 2000000 in
theorem eqReader_ (u v : Value) (m : Rr) (w : World) (hu : RdReader u m w) (hv : RdReader v m w) :
    Calls Try.prog 32 #[u, v] w fun e w' => e = .returned (.bool true) ∧ Below w.heap.size w w' := by
  have hb0 : ∀ o o', Below w.heap.size w ((w.alloc o).alloc o') := fun o o' => ((Below.refl _ _).alloc (Nat.le_refl _) o).alloc (by simp) o'
  obtain ⟨su, rfl, hu⟩ := hu
  obtain ⟨sv, rfl, hv⟩ := hv
  have C1 := dHide fun W (hb : Below w.heap.size w W) => eqEventS_ su sv m.out W (RdEventS.below hu hb) (RdEventS.below hv hb)
  obtain ⟨a, cap, rfl, -⟩ := formEventS hu
  obtain ⟨a', cap', rfl, -⟩ := formEventS hv
  generalize m.epoch = sl at *
  generalize m.off = so at *
  have X0 := (Bx.new w [.int .i64 sl, .int .i64 so, .slice a m.out.length cap] 67).below ((Below.refl _ _).alloc (Nat.le_refl _) (.cells #[.int .i64 sl, .int .i64 so, .slice a' m.out.length cap'] 67))
  have Y0 := Bx.new (w.alloc (.cells #[.int .i64 sl, .int .i64 so, .slice a m.out.length cap] 67)) [.int .i64 sl, .int .i64 so, .slice a' m.out.length cap'] 67
  have e1 : (w.alloc (.cells #[.int .i64 sl, .int .i64 so, .slice a m.out.length cap] 67)).heap.size = w.heap.size + 1 := by simp
  rw [e1] at Y0
  clear e1 hu hv
  go_enter Try.func32, Try.ntmps32
  go_wp2_with fail
  refine (dUnhide C1 _ (hb0 _ _)).mono ?_
  rintro e w1 ⟨rfl, b1⟩
  have B1 := belowThen (hb0 _ _) b1
  clear X0 Y0 b1 hb0 C1
  go_wp2
  go_ret
  exact ⟨rfl, B1⟩
set_option maxHeartbeats 4000000 in
theorem toReader_ (v : Value) (m : Rr) (w : World) (hl : sizReader m ≤ 1048576) (h : RdReader v m w) :
    Calls Try.prog 30 #[v] w fun e w' => ∃ u, e = .returned u ∧ Sits (OwReader w.heap.size w'.heap.size u m) w.heap.size w'.heap.size w' ∧ Below w.heap.size w w' := by
  have ba : ∀ (w : World) o, Below w.heap.size w (w.alloc o) := fun w o => (Below.refl _ _).alloc (Nat.le_refl _) o
  obtain ⟨sv, rfl, h⟩ := h
  have C1 := dHide fun W (hb : Below w.heap.size w W) => toEventS_own sv m.out W (by unfold sizReader sizEventS at hl; omega) (RdEventS.below h hb)
  obtain ⟨pa, pc, rfl, -⟩ := formEventS h
  have EX : Hid (∀ (W : World) (u : Value), OwEventS w.heap.size W.heap.size u m.out W → Sits (OwReader w.heap.size W.heap.size (.agg #[.int .i64 m.epoch, .int .i64 m.off, u]) m) w.heap.size W.heap.size W) := fun W u o => OwReader.sits ⟨u, rfl, o⟩ (Nat.le_refl _)
  generalize m.epoch = yl at *
  generalize m.off = yo at *
  generalize m.out = ms at *
  have X0 := (Bx.new w [.int .i64 yl, .int .i64 yo, .slice pa ms.length pc] 62).below (belowThen (ba _ (.cells #[.int .i64 0, .int .i64 0, .slice none 0 0] 67)) (ba _ (.cells #[.int .i64 yl, .int .i64 yo, .slice none 0 0] 67)))
  have Y0 := (BxZ.new (B := w.heap.size) (w.alloc (.cells #[.int .i64 yl, .int .i64 yo, .slice pa ms.length pc] 62)) [.int .i64 0, .int .i64 0, .slice none 0 0] 67 (by simp)).below (ba _ (.cells #[.int .i64 yl, .int .i64 yo, .slice none 0 0] 67))
  have Z0 := BxZ.new (B := w.heap.size) ((w.alloc (.cells #[.int .i64 yl, .int .i64 yo, .slice pa ms.length pc] 62)).alloc (.cells #[.int .i64 0, .int .i64 0, .slice none 0 0] 67)) [.int .i64 yl, .int .i64 yo, .slice none 0 0] 67 (by simp <;> omega)
  have B0 := belowThen (belowThen (ba w (.cells #[.int .i64 yl, .int .i64 yo, .slice pa ms.length pc] 62)) (ba _ (.cells #[.int .i64 0, .int .i64 0, .slice none 0 0] 67))) (ba _ (.cells #[.int .i64 yl, .int .i64 yo, .slice none 0 0] 67))
  have e1 : (w.alloc (.cells #[.int .i64 yl, .int .i64 yo, .slice pa ms.length pc] 62)).heap.size = w.heap.size + 1 := by simp
  have e2 : ((w.alloc (.cells #[.int .i64 yl, .int .i64 yo, .slice pa ms.length pc] 62)).alloc (.cells #[.int .i64 0, .int .i64 0, .slice none 0 0] 67)).heap.size = w.heap.size + 1 + 1 := by simp
  rw [e1] at Y0
  rw [e2] at Z0
  clear e1 e2 h hl
  go_enter Try.func30, Try.ntmps30
  go_wp2_with fail
  generalize ((w.alloc (.cells #[.int .i64 yl, .int .i64 yo, .slice pa ms.length pc] 62)).alloc (.cells #[.int .i64 0, .int .i64 0, .slice none 0 0] 67)).alloc (.cells #[.int .i64 yl, .int .i64 yo, .slice none 0 0] 67) = w0 at *
  have hlt := Z0.lt
  refine (dUnhide C1 _ B0).mono ?_
  rintro r w1 ⟨⟨u1, rfl, O1⟩, b1⟩
  have hs1 := b1.size
  obtain ⟨a1, c1, rfl, -⟩ := formEventS (OwnRw.rw O1)
  have B1 := belowThen B0 b1
  have Y1 := Y0.below b1
  have Z1 := Z0.below b1
  obtain ⟨z0, f0⟩ := Z1.2 0 _ rfl
  obtain ⟨z1, f1⟩ := Z1.2 1 _ rfl
  obtain ⟨z2, f2⟩ := Z1.2 2 _ rfl
  obtain ⟨y0, p0⟩ := Y1.2 0 _ rfl
  obtain ⟨y1, p1⟩ := Y1.2 1 _ rfl
  obtain ⟨y2, p2⟩ := Y1.2 2 _ rfl
  have YY := dHide ((((Y1.far (b' := w.heap.size + 1 + 1) (o := 2) (by omega) (.slice a1 ms.length c1)).put 0 (.int .i64 yl)).put 1 (.int .i64 yo)).put 2 (.slice a1 ms.length c1))
  have OO := dHide ((((O1.farZ (b' := w.heap.size + 1 + 1) (o := 2) (by omega) (.slice a1 ms.length c1)).farZ (b' := w.heap.size + 1) (o := 0) (by omega) (.int .i64 yl)).farZ (b' := w.heap.size + 1) (o := 1) (by omega) (.int .i64 yo)).farZ (b' := w.heap.size + 1) (o := 2) (by omega) (.slice a1 ms.length c1))
  have BB := dHide ((((B1.setCell (p := ⟨w.heap.size + 1 + 1, 2, none⟩) (by simp only; omega) (.slice a1 ms.length c1)).setCell (p := ⟨w.heap.size + 1, 0, none⟩) (by simp only; omega) (.int .i64 yl)).setCell (p := ⟨w.heap.size + 1, 1, none⟩) (by simp only; omega) (.int .i64 yo)).setCell (p := ⟨w.heap.size + 1, 2, none⟩) (by simp only; omega) (.slice a1 ms.length c1))
  have w0le : w.heap.size ≤ w0.heap.size := by omega
  clear X0 Y0 Z0 B0 C1 b1 O1 Y1 Z1 B1
  go_wp2_with fail
  generalize ((((w1.setCell ⟨w.heap.size + 1 + 1, 2, none⟩ (.slice a1 ms.length c1)).setCell ⟨w.heap.size + 1, 0, none⟩ (.int .i64 yl)).setCell ⟨w.heap.size + 1, 1, none⟩ (.int .i64 yo)).setCell ⟨w.heap.size + 1, 2, none⟩ (.slice a1 ms.length c1)) = V at *
  have q0 := ((dUnhide YY).2 0 _ rfl).1
  have q1 := ((dUnhide YY).2 1 _ rfl).1
  have q2 := ((dUnhide YY).2 2 _ rfl).1
  clear z0 z1 z2 f0 f1 f2 y0 y1 y2 p0 p1 p2
  have OV := (dUnhide OO).mono w0le
  refine bodyPost_ret (v := .agg #[.int .i64 yl, .int .i64 yo, .slice a1 ms.length c1]) (by simp [results, Try.results30, go_sem, q0, q1, q2]) rfl ⟨_, rfl, dUnhide EX V _ ⟨OV, OV.ltZ Ev.cl_len (by decide)⟩, dUnhide BB⟩
set_option maxHeartbeats 2000000 in
theorem markReader_ (lo hi : Nat) (v : Value) (m : Rr) (k0 : Nat) (w : World) (hk : k0 ≤ 536870912) (hl : cntReader m ≤ 536870912) (h : Sits (OwReader lo hi v m) lo hi w) :
    Calls Try.prog 33 #[v, .int .i64 (k0 : Int)] w fun e w' => e = .returned (.int .i64 ((k0 + cntReader m : Nat) : Int)) ∧ Sits (OwReader lo hi v (mkReader k0 m)) lo hi w' ∧ Wr lo hi w w' := by
  obtain ⟨sv, rfl, hn⟩ := h.now
  have hN : Sits (OwEventS lo hi sv m.out) lo hi w := h.imp fun W ⟨sv', h1, h2⟩ => by cases h1; exact h2
  have hb0 : ∀ o, Below w.heap.size w (w.alloc o) := fun o => (Below.refl _ _).alloc (Nat.le_refl _) o
  have C1 := dHide fun o => markEventS_ lo hi sv m.out k0 (w.alloc o) (by omega) (by unfold cntReader at hl; omega) (hN.below (hb0 o))
  have e1 : ((k0 + cntReader m : Nat) : Int) = ((k0 + cntEventS m.out : Nat) : Int) := rfl
  rw [e1]
  have HI := dHide fun (W : World) (h : Sits (OwEventS lo hi sv (mkEventS k0 m.out)) lo hi W) => h.imp fun W hW => (show OwReader lo hi (.agg #[.int .i64 m.epoch, .int .i64 m.off, sv]) (mkReader k0 m) W from ⟨sv, rfl, hW⟩)
  obtain ⟨a, cap, rfl, -⟩ := formEventS (OwEventS.rd hn)
  clear h hN hk hl e1 hn
  go_enter Try.func33, Try.ntmps33
  go_wp2_with fail
  refine (dUnhide C1 _).mono ?_
  rintro e w1 ⟨rfl, o1, d1⟩
  have q1 := dHide (dUnhide HI _ o1)
  have D1 := dHide ((Wr.of_below (hb0 _)).trans d1)
  clear o1 d1 C1 hb0 HI
  go_wp2
  go_ret
  exact ⟨rfl, dUnhide q1, dUnhide D1⟩
end Go.Proofs.Ytioocibgfhgkhaa
