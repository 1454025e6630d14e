/- Lists of ints and configs, as the exact laws handle them: read, copied, compared, marked, held. -/
import Derived.Test.YtofklfjomofijaaSitN
import Derived.Test.YtofklfjomofijaaDomH
import Derived.Test.YtofklfjomofijaaDomI
import Derived.Test.YtofklfjomofijaaOpenB
namespace Go.Proofs.Ytofklfjomofijaa
open Go.ChangeShapes Go.WideShapes Go.ChangeAt Go.RowKit
set_option linter.unusedVariables false

/-- What is left of a measure. -/
def lft (left : Int) (n : Nat) : Int := if left < (n : Int) then -1 else left - (n : Int)
theorem lft_no {left : Int} {n : Nat} (h : left < (n : Int)) : lft left n = -1 := if_pos h
theorem lft_yes {left : Int} {n : Nat} (h : ¬ left < (n : Int)) : lft left n = left - (n : Int) := if_neg h

def RdIntS (v : Value) (m : List Int) (W : World) : Prop := Ns W v m
def OwIntS (lo hi : Nat) (v : Value) (m : List Int) (W : World) : Prop := OwN lo hi v m W
def sizIntS (m : List Int) : Nat := m.length
def cntIntS (m : List Int) : Nat := m.length
def mkIntS (k : Nat) (m : List Int) : List Int := marksN k m.length
theorem OwIntS.rd {lo hi : Nat} {v : Value} {m : List Int} {W : World} (h : OwIntS lo hi v m W) : RdIntS v m W := OwN.rd h
theorem RdIntS.below {v : Value} {m : List Int} {W W' : World} (h : RdIntS v m W) (b : Below W.heap.size W W') : RdIntS v m W' := Ns.below h b
theorem formIntS {v : Value} {m : List Int} {W : World} (h : RdIntS v m W) : ∃ a cap, v = .slice a m.length cap ∧ m.length ≤ 9223372036854775807 := by
  obtain ⟨h0, a, cap, rfl, -, -⟩ := h
  exact ⟨a, cap, rfl, h0⟩
theorem toIntS_ (v : Value) (m : List Int) (w : World) (hl : sizIntS m ≤ 1048576) (h : RdIntS v m w) :
    Calls Try.prog 25 #[v] w fun e w' => ∃ u, e = .returned u ∧ Sits (OwIntS w.heap.size w'.heap.size u m) w.heap.size w'.heap.size w' ∧ Below w.heap.size w w' := toN v m w (by unfold sizIntS at hl; omega) h
theorem eqIntS_ (u v : Value) (m : List Int) (w : World) (hu : RdIntS u m w) (hv : RdIntS v m w) :
    Calls Try.prog 22 #[u, v] w fun e w' => e = .returned (.bool true) ∧ Below w.heap.size w w' := eqIntS_yes u v m w hu hv
theorem markIntS_ (lo hi : Nat) (v : Value) (m : List Int) (k0 : Nat) (w : World) (hk : k0 ≤ 1073741824) (hl : cntIntS m ≤ 1073741824) (h : Sits (OwIntS lo hi v m) lo hi w) :
    Calls Try.prog 23 #[v, .int .i64 (k0 : Int)] w fun e w' => e = .returned (.int .i64 ((k0 + cntIntS m : Nat) : Int)) ∧ Sits (OwIntS lo hi v (mkIntS k0 m)) lo hi w' ∧ Wr lo hi w w' := markN lo hi v m k0 w (by omega) (by unfold cntIntS at hl; omega) h
theorem heldIntS_ (v : Value) (m : List Int) (k0 : Nat) (w : World) (hk : k0 ≤ 1073741824) (hl : cntIntS m ≤ 1073741824) (h : RdIntS v (mkIntS k0 m) w) :
    Calls Try.prog 24 #[v, .int .i64 (k0 : Int)] w fun e w' => e = .returned (.int .i64 ((k0 + cntIntS m : Nat) : Int)) ∧ Below w.heap.size w w' := heldIntS_yes v k0 m.length w (by omega) (by unfold cntIntS at hl; omega) h

def RdConfig (v : Value) (m : List Int × Int) (W : World) : Prop := ∃ sv, v = .agg #[sv, .int .i64 m.2] ∧ Ns W sv m.1
def OwConfig (lo hi : Nat) (v : Value) (m : List Int × Int) (W : World) : Prop := ∃ sv, v = .agg #[sv, .int .i64 m.2] ∧ OwN lo hi sv m.1 W
def sizConfig (m : List Int × Int) : Nat := m.1.length
def cntConfig (m : List Int × Int) : Nat := m.1.length
def mkConfig (k : Nat) (m : List Int × Int) : List Int × Int := (marksN k m.1.length, m.2)
theorem OwConfig.rd {lo hi : Nat} {v : Value} {m : List Int × Int} {W : World} (h : OwConfig lo hi v m W) : RdConfig v m W := by
  obtain ⟨sv, h1, h2⟩ := h; exact ⟨sv, h1, h2.rd⟩
theorem RdConfig.below {v : Value} {m : List Int × Int} {W W' : World} (h : RdConfig v m W) (b : Below W.heap.size W W') : RdConfig v m W' := by
  obtain ⟨sv, h1, h2⟩ := h; exact ⟨sv, h1, h2.below b⟩
theorem formConfig {v : Value} {m : List Int × Int} {W : World} (h : RdConfig v m W) : ∃ a cap, v = .agg #[.slice a m.1.length cap, .int .i64 m.2] ∧ m.1.length ≤ 9223372036854775807 := by
  obtain ⟨sv, rfl, h0, a, cap, rfl, -, -⟩ := h
  exact ⟨a, cap, rfl, h0⟩
theorem szConfig_ (v : Value) (m : List Int × Int) (left : Int) (l0 : 0 ≤ left) (l1 : left ≤ 1048576) (w : World) (h : RdConfig v m w) :
    Calls Try.prog 26 #[v, .int .i64 left] w fun e w' => e = .returned (.int .i64 (lft left (sizConfig m))) ∧ Below w.heap.size w w' := by
  obtain ⟨sv, rfl, h⟩ := h
  exact szConfig_any sv m.1 m.2 left l0 l1 w h
theorem toConfig_ (v : Value) (m : List Int × Int) (w : World) (hl : sizConfig m ≤ 1048576) (h : RdConfig v m w) :
    Calls Try.prog 27 #[v] w fun e w' => ∃ u, e = .returned u ∧ Sits (OwConfig w.heap.size w'.heap.size u m) w.heap.size w'.heap.size w' ∧ Below w.heap.size w w' := by
  obtain ⟨sv, rfl, h⟩ := h
  refine (toConfig_any sv m.1 m.2 w h (by unfold sizConfig at hl; omega)).mono fun e w' ⟨⟨o, h1, h2⟩, h3⟩ => ⟨_, h1, h2.sits.imp fun W hW => ⟨o, rfl, hW⟩, h3⟩
theorem eqConfig_ (u v : Value) (m : List Int × Int) (w : World) (hu : RdConfig u m w) (hv : RdConfig v m w) :
    Calls Try.prog 28 #[u, v] w fun e w' => e = .returned (.bool true) ∧ Below w.heap.size w w' := by
  obtain ⟨su, rfl, hu⟩ := hu
  obtain ⟨sv, rfl, hv⟩ := hv
  exact eqConfig_yes su sv m.1 m.2 w hu hv
theorem markConfig_ (lo hi : Nat) (v : Value) (m : List Int × Int) (k0 : Nat) (w : World) (hk : k0 ≤ 1073741824) (hl : cntConfig m ≤ 1073741824) (h : Sits (OwConfig lo hi v m) lo hi w) :
    Calls Try.prog 29 #[v, .int .i64 (k0 : Int)] w fun e w' => e = .returned (.int .i64 ((k0 + cntConfig m : Nat) : Int)) ∧ Sits (OwConfig lo hi v (mkConfig k0 m)) lo hi w' ∧ Wr lo hi w w' := by
  obtain ⟨sv, rfl, hn⟩ := h.now
  have hN : Sits (OwN lo hi sv m.1) lo hi w := h.imp fun W ⟨sv', h1, h2⟩ => by cases h1; exact h2
  have hb0 : ∀ o, Below w.heap.size w (w.alloc o) := fun o => (Below.refl _ _).alloc (Nat.le_refl _) o
  have C1 := dHide fun o => markN lo hi sv m.1 k0 (w.alloc o) (by omega) (by unfold cntConfig at hl; omega) (hN.below (hb0 o))
  have e1 : ((k0 + cntConfig m : Nat) : Int) = ((k0 + m.1.length : Nat) : Int) := rfl
  rw [e1]
  have HI := dHide fun (W : World) (h : Sits (OwN lo hi sv (marksN k0 m.1.length)) lo hi W) => h.imp fun W hW => (show OwConfig lo hi (.agg #[sv, .int .i64 m.2]) (mkConfig k0 m) W from ⟨sv, rfl, hW⟩)
  obtain ⟨⟨h0, a, cap, rfl, -, -⟩, -⟩ := hn
  clear h hN hk hl e1
  go_enter Try.func29, Try.ntmps29
  go_wp2_with fail
  refine (dUnhide C1 _).mono ?_
  rintro e w1 ⟨rfl, o1, d1⟩
  have q1 := dHide (dUnhide HI _ o1)
  have D1 := dHide ((Wr.of_below (hb0 _)).trans d1)
  clear o1 d1 C1 hb0 HI
  go_wp2
  go_ret
  exact ⟨rfl, dUnhide q1, dUnhide D1⟩
/-- What a law's frame tells of a list of ints, of a config. -/
def okIntS (m : List Int) : Prop := allInt m
def IsIntS (v : Value) (m : List Int) (w : World) : Prop := RdIntS v m w ∧ okIntS m
def okConfig (m : List Int × Int) : Prop := allInt m.1 ∧ -9223372036854775808 ≤ m.2 ∧ m.2 ≤ 9223372036854775807
def IsConfig (v : Value) (m : List Int × Int) (w : World) : Prop := RdConfig v m w ∧ okConfig m
/-- Plain values among a law's arguments. -/
def okInt (m : Int) : Prop := -9223372036854775808 ≤ m ∧ m ≤ 9223372036854775807
def IsInt (v : Value) (m : Int) (w : World) : Prop := v = .int .i64 m ∧ okInt m
def okStr (m : ByteArray) : Prop := m.size ≤ 9223372036854775807
def IsStr (v : Value) (m : ByteArray) (w : World) : Prop := v = .string m ∧ okStr m
theorem cntIntS_le {m : List Int} (h : sizIntS m ≤ 1048576) : cntIntS m ≤ 1048576 := h
theorem cntConfig_le {m : List Int × Int} (h : sizConfig m ≤ 1048576) : cntConfig m ≤ 1048576 := h
end Go.Proofs.Ytofklfjomofijaa
