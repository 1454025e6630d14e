/- Lists of ints and configs, as the exact laws handle them: read, copied, compared, marked, held. -/
import Derived.Test.YtognmmmplmideaaSitN
import Derived.Test.YtognmmmplmideaaSitB
import Derived.Test.YtognmmmplmideaaDomH
import Derived.Test.YtognmmmplmideaaDomI
import Derived.Test.YtognmmmplmideaaOpenB
namespace Go.Proofs.Ytognmmmplmideaa
open Go.ChangeShapes Go.WideShapes Go.ChangeAt Go.RowKit
set_option linter.unusedVariables false

def RdIntS (v : Value) (m : List Int) (W : World) : Prop := Ns W v m
def OwIntS (lo hi : Nat) (v : Value) (m : List Int) (W : World) : Prop := OwN lo hi v m W
def sizIntS (m : List Int) : Nat := m.length
def cntIntS (m : List Int) : Nat := m.length
def mkIntS (k : Nat) (m : List Int) : List Int := marksN k m.length
theorem OwIntS.rd {lo hi : Nat} {v : Value} {m : List Int} {W : World} (h : OwIntS lo hi v m W) : RdIntS v m W := OwN.rd h
theorem RdIntS.below {v : Value} {m : List Int} {W W' : World} (h : RdIntS v m W) (b : Below W.heap.size W W') : RdIntS v m W' := Ns.below h b
theorem formIntS {v : Value} {m : List Int} {W : World} (h : RdIntS v m W) : ∃ a cap, v = .slice a m.length cap ∧ m.length ≤ 9223372036854775807 := by
  obtain ⟨h0, a, cap, rfl, -, -⟩ := h
  exact ⟨a, cap, rfl, h0⟩
theorem toIntS_ (v : Value) (m : List Int) (w : World) (hl : sizIntS m ≤ 1048576) (h : RdIntS v m w) :
    Calls Try.prog 54 #[v] w fun e w' => ∃ u, e = .returned u ∧ Sits (OwIntS w.heap.size w'.heap.size u m) w.heap.size w'.heap.size w' ∧ Below w.heap.size w w' := toN v m w (by unfold sizIntS at hl; omega) h
theorem eqIntS_ (u v : Value) (m : List Int) (w : World) (hu : RdIntS u m w) (hv : RdIntS v m w) :
    Calls Try.prog 27 #[u, v] w fun e w' => e = .returned (.bool true) ∧ Below w.heap.size w w' := eqIntS_yes u v m w hu hv
theorem markIntS_ (lo hi : Nat) (v : Value) (m : List Int) (k0 : Nat) (w : World) (hk : k0 ≤ 1073741824) (hl : cntIntS m ≤ 1073741824) (h : Sits (OwIntS lo hi v m) lo hi w) :
    Calls Try.prog 29 #[v, .int .i64 (k0 : Int)] w fun e w' => e = .returned (.int .i64 ((k0 + cntIntS m : Nat) : Int)) ∧ Sits (OwIntS lo hi v (mkIntS k0 m)) lo hi w' ∧ Wr lo hi w w' := markN lo hi v m k0 w (by omega) (by unfold cntIntS at hl; omega) h
theorem heldIntS_ (v : Value) (m : List Int) (k0 : Nat) (w : World) (hk : k0 ≤ 1073741824) (hl : cntIntS m ≤ 1073741824) (h : RdIntS v (mkIntS k0 m) w) :
    Calls Try.prog 30 #[v, .int .i64 (k0 : Int)] w fun e w' => e = .returned (.int .i64 ((k0 + cntIntS m : Nat) : Int)) ∧ Below w.heap.size w w' := heldIntS_yes v k0 m.length w (by omega) (by unfold cntIntS at hl; omega) h

def RdConfig (v : Value) (m : List Int × Int) (W : World) : Prop := ∃ sv, v = .agg #[sv, .int .i64 m.2] ∧ Ns W sv m.1
def OwConfig (lo hi : Nat) (v : Value) (m : List Int × Int) (W : World) : Prop := ∃ sv, v = .agg #[sv, .int .i64 m.2] ∧ OwN lo hi sv m.1 W
def sizConfig (m : List Int × Int) : Nat := m.1.length
def cntConfig (m : List Int × Int) : Nat := m.1.length
def mkConfig (k : Nat) (m : List Int × Int) : List Int × Int := (marksN k m.1.length, m.2)
theorem OwConfig.rd {lo hi : Nat} {v : Value} {m : List Int × Int} {W : World} (h : OwConfig lo hi v m W) : RdConfig v m W := by
  obtain ⟨sv, h1, h2⟩ := h; exact ⟨sv, h1, h2.rd⟩
theorem RdConfig.below {v : Value} {m : List Int × Int} {W W' : World} (h : RdConfig v m W) (b : Below W.heap.size W W') : RdConfig v m W' := by
  obtain ⟨sv, h1, h2⟩ := h; exact ⟨sv, h1, h2.below b⟩
theorem formConfig {v : Value} {m : List Int × Int} {W : World} (h : RdConfig v m W) : ∃ a cap, v = .agg #[.slice a m.1.length cap, .int .i64 m.2] ∧ m.1.length ≤ 9223372036854775807 := by
  obtain ⟨sv, rfl, h0, a, cap, rfl, -, -⟩ := h
  exact ⟨a, cap, rfl, h0⟩
theorem szConfig_ (v : Value) (m : List Int × Int) (left : Int) (l0 : 0 ≤ left) (l1 : left ≤ 1048576) (w : World) (h : RdConfig v m w) :
    Calls Try.prog 15 #[v, .int .i64 left] w fun e w' => e = .returned (.int .i64 (lft left (sizConfig m))) ∧ Below w.heap.size w w' := by
  obtain ⟨sv, rfl, h⟩ := h
  exact szConfig_any sv m.1 m.2 left l0 l1 w h
theorem toConfig_ (v : Value) (m : List Int × Int) (w : World) (hl : sizConfig m ≤ 1048576) (h : RdConfig v m w) :
    Calls Try.prog 18 #[v] w fun e w' => ∃ u, e = .returned u ∧ Sits (OwConfig w.heap.size w'.heap.size u m) w.heap.size w'.heap.size w' ∧ Below w.heap.size w w' := by
  obtain ⟨sv, rfl, h⟩ := h
  refine (toConfig_any sv m.1 m.2 w h (by unfold sizConfig at hl; omega)).mono fun e w' ⟨⟨o, h1, h2⟩, h3⟩ => ⟨_, h1, h2.sits.imp fun W hW => ⟨o, rfl, hW⟩, h3⟩
theorem eqConfig_ (u v : Value) (m : List Int × Int) (w : World) (hu : RdConfig u m w) (hv : RdConfig v m w) :
    Calls Try.prog 21 #[u, v] w fun e w' => e = .returned (.bool true) ∧ Below w.heap.size w w' := by
  obtain ⟨su, rfl, hu⟩ := hu
  obtain ⟨sv, rfl, hv⟩ := hv
  exact eqConfig_yes su sv m.1 m.2 w hu hv
/-- What a law's frame tells of a list of ints, of a config. -/
def okIntS (m : List Int) : Prop := allInt m
def IsIntS (v : Value) (m : List Int) (w : World) : Prop := RdIntS v m w ∧ okIntS m
def okConfig (m : List Int × Int) : Prop := allInt m.1 ∧ -9223372036854775808 ≤ m.2 ∧ m.2 ≤ 9223372036854775807
def IsConfig (v : Value) (m : List Int × Int) (w : World) : Prop := RdConfig v m w ∧ okConfig m
theorem cntIntS_le {m : List Int} (h : sizIntS m ≤ 1048576) : cntIntS m ≤ 1048576 := h
theorem cntConfig_le {m : List Int × Int} (h : sizConfig m ≤ 1048576) : cntConfig m ≤ 1048576 := h
end Go.Proofs.Ytognmmmplmideaa
