/- Several texts in one: DomH, DomI, OpenA, OpenB, OpenK, SitC. -/
import Derived.Test.YtapfdmmfhfkhkaaGaC
import Derived.Test.YtapfdmmfhfkhkaaGaB
import Derived.Test.YtapfdmmfhfkhkaaGaA
import Derived.WalkKit
import Derived.ProofKit
import Derived.OpenShut
import Derived.ShutString
import Derived.Lib.SmallJoins
namespace Go.Proofs.Ytapfdmmfhfkhkaa
open Go.ChangeShapes Go.WideShapes Go.ChangeAt Go.RowKit
set_option linter.unusedVariables false

end Go.Proofs.Ytapfdmmfhfkhkaa
namespace Go.Proofs.Ytapfdmmfhfkhkaa
open Go.ChangeShapes Go.WideShapes Go.ChangeAt Go.RowKit
set_option linter.unusedVariables false

def TwoZ (w : World) (B b : Nat) (c0 c1 : Value) : Prop := B ≤ b ∧ Two w b c0 c1 ∧ w.frozen? ⟨b, 0, none⟩ = false ∧ w.frozen? ⟨b, 1, none⟩ = false
theorem TwoZ.kept {w w' : World} {B b : Nat} {c0 c1 : Value} (h : TwoZ w B b c0 c1) (hb : Below w.heap.size w w') : TwoZ w' B b c0 c1 := by
 obtain ⟨h0, h1, f0, f1⟩ := h
 have lt := dCell_lt h1.1
 exact ⟨h0, h1.kept hb, (hb.frozen (p := ⟨b, 0, none⟩) lt).trans f0, (hb.frozen (p := ⟨b, 1, none⟩) lt).trans f1⟩
theorem TwoZ.drawn {w w' : World} {bk B b : Nat} {c0 c1 : Value} (h : TwoZ w B b c0 c1) (hd : Drawn bk w w') (hb : b ≠ bk) : TwoZ w' B b c0 c1 := by
 obtain ⟨h0, ⟨k0, k1⟩, f0, f1⟩ := h
 have lt := dCell_lt k0
 exact ⟨h0, ⟨hd.cell k0 hb, hd.cell k1 hb⟩, (hd.frozen hb lt).trans f0, (hd.frozen hb lt).trans f1⟩
theorem TwoZ.fresh (w : World) (c0 c1 : Value) (T : TypeId) : TwoZ (w.alloc (.cells #[c0, c1] T)) w.heap.size w.heap.size c0 c1 := ⟨Nat.le_refl _, Two.new w _ _ _, by simp, by simp⟩
theorem TwoZ.put0 {w : World} {B b : Nat} {c0 c1 : Value} (h : TwoZ w B b c0 c1) (v : Value) : TwoZ (w.setCell ⟨b, 0, none⟩ v) B b v c1 := by
 obtain ⟨h0, ⟨k0, k1⟩, f0, f1⟩ := h
 exact ⟨h0, ⟨World.cell?_setCell_same _ _ _ k0, set_other k1 (by omega)⟩, (World.frozen?_setCell _ _ _ _).trans f0, (World.frozen?_setCell _ _ _ _).trans f1⟩
theorem TwoZ.put1 {w : World} {B b : Nat} {c0 c1 : Value} (h : TwoZ w B b c0 c1) (v : Value) : TwoZ (w.setCell ⟨b, 1, none⟩ v) B b c0 v := by
 obtain ⟨h0, ⟨k0, k1⟩, f0, f1⟩ := h
 exact ⟨h0, ⟨set_other k0 (by omega), World.cell?_setCell_same _ _ _ k1⟩, (World.frozen?_setCell _ _ _ _).trans f0, (World.frozen?_setCell _ _ _ _).trans f1⟩
theorem TwoZ.far {w : World} {B b b' o : Nat} {c0 c1 : Value} (h : TwoZ w B b c0 c1) (hb : b ≠ b') (v : Value) : TwoZ (w.setCell ⟨b', o, none⟩ v) B b c0 c1 := by
 obtain ⟨h0, ⟨k0, k1⟩, f0, f1⟩ := h
 exact ⟨h0, ⟨set_other k0 (by omega), set_other k1 (by omega)⟩, (World.frozen?_setCell _ _ _ _).trans f0, (World.frozen?_setCell _ _ _ _).trans f1⟩
end Go.Proofs.Ytapfdmmfhfkhkaa
namespace Go.Proofs.Ytapfdmmfhfkhkaa
open Go.ChangeShapes Go.WideShapes Go.ChangeAt Go.RowKit
set_option maxRecDepth 100000
open Go.ChangeMaps (open_string shut_string)
variable {H : Type} {enc : TypeId × Value → H} {W : World} {r : Reach} {b0 base : Nat} {sp : Nat → Bool} {held : Bool} {v : Value} {d : DataW H} {p : List MemPlace}

end Go.Proofs.Ytapfdmmfhfkhkaa
namespace Go.Proofs.Ytapfdmmfhfkhkaa
open Go.ChangeShapes Go.WideShapes Go.ChangeAt Go.RowKit
set_option maxRecDepth 100000
variable {H : Type} {enc : TypeId × Value → H} {W : World} {r : Reach} {b0 base : Nat} {sp : Nat → Bool} {held : Bool} {v : Value} {d : DataW H} {p : List MemPlace}

def allInt (xs : List Int) : Prop := ∀ x ∈ xs, -9223372036854775808 ≤ x ∧ x ≤ 9223372036854775807
end Go.Proofs.Ytapfdmmfhfkhkaa
namespace Go.Proofs.Ytapfdmmfhfkhkaa
open Go.ChangeShapes Go.WideShapes Go.ChangeAt Go.RowKit
set_option linter.unusedVariables false
set_option maxRecDepth 100000
variable {H : Type} {enc : TypeId × Value → H} {W : World} {r : Reach} {b0 base : Nat} {sp : Nat → Bool} {held : Bool} {v : Value} {d : DataW H} {p : List MemPlace}

end Go.Proofs.Ytapfdmmfhfkhkaa
namespace Go.Proofs.Ytapfdmmfhfkhkaa
open Go.ChangeShapes Go.WideShapes Go.ChangeAt Go.RowKit
set_option linter.unusedVariables false

def RdIntS (v : Value) (m : List Int) (W : World) : Prop := Ns W v m
def OwIntS (lo hi : Nat) (v : Value) (m : List Int) (W : World) : Prop := OwN lo hi v m W
theorem OwIntS.rd {lo hi : Nat} {v : Value} {m : List Int} {W : World} (h : OwIntS lo hi v m W) : RdIntS v m W := OwN.rd h
theorem RdIntS.below {v : Value} {m : List Int} {W W' : World} (h : RdIntS v m W) (b : Below W.heap.size W W') : RdIntS v m W' := Ns.below h b
def RdConfig (v : Value) (m : List Int × Int) (W : World) : Prop := ∃ sv, v = .agg #[sv, .int .i64 m.2] ∧ Ns W sv m.1
def OwConfig (lo hi : Nat) (v : Value) (m : List Int × Int) (W : World) : Prop := ∃ sv, v = .agg #[sv, .int .i64 m.2] ∧ OwN lo hi sv m.1 W
def sizConfig (m : List Int × Int) : Nat := m.1.length
theorem OwConfig.rd {lo hi : Nat} {v : Value} {m : List Int × Int} {W : World} (h : OwConfig lo hi v m W) : RdConfig v m W := by
 obtain ⟨sv, h1, h2⟩ := h; exact ⟨sv, h1, h2.rd⟩
theorem RdConfig.below {v : Value} {m : List Int × Int} {W W' : World} (h : RdConfig v m W) (b : Below W.heap.size W W') : RdConfig v m W' := by
 obtain ⟨sv, h1, h2⟩ := h; exact ⟨sv, h1, h2.below b⟩
theorem formConfig {v : Value} {m : List Int × Int} {W : World} (h : RdConfig v m W) : ∃ a cap, v = .agg #[.slice a m.1.length cap, .int .i64 m.2] ∧ m.1.length ≤ 9223372036854775807 := by
 obtain ⟨sv, rfl, h0, a, cap, rfl, -, -⟩ := h
 exact ⟨a, cap, rfl, h0⟩
def okConfig (m : List Int × Int) : Prop := allInt m.1 ∧ -9223372036854775808 ≤ m.2 ∧ m.2 ≤ 9223372036854775807
end Go.Proofs.Ytapfdmmfhfkhkaa
