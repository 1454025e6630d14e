/- Entries that were copied, and may be appended to. -/
import Derived.Test.YtapfdmmfhfkhkaaGbG
import Derived.Test.YtapfdmmfhfkhkaaGaA
namespace Go.Proofs.Ytapfdmmfhfkhkaa
open Go.ChangeShapes Go.WideShapes Go.ChangeAt Go.RowKit
set_option linter.unusedVariables false
set_option linter.unusedSimpArgs false
set_option maxRecDepth 100000

def CpE (w : World) (base : Nat) (v : Value) (es : List Ent) : Prop := ApE w base v es ∧ (es = [] → touch v = none)
section
variable {w w' : World} {base base' : Nat} {v : Value} {es : List Ent}
theorem CpE.own (h : CpE w base v es) : OwnRw 4 Ent.cl w base v es := ApR.own elemE h.1
theorem CpE.lt (h : CpE w base v es) : es = [] ∨ blockOf v < w.heap.size := h.own.lt
theorem CpE.ge (h : CpE w base v es) : es = [] ∨ base ≤ blockOf v := h.own.ge
theorem CpE.below (h : CpE w base v es) (hb : Below w.heap.size w w') : CpE w' base v es := ⟨h.1.below hb, h.2⟩
theorem CpE.mono (h : CpE w base v es) (hb : base' ≤ base) : CpE w base' v es := ⟨h.1.mono hb, h.2⟩
theorem CpE.touch (h : CpE w base v es) {j : Nat} (ht : touch v = some j) : es ≠ [] ∧ j = blockOf v := by
 have hne : es ≠ [] := fun e => by rw [h.2 e] at ht; cases ht
 refine ⟨hne, ?_⟩
 rcases h.1 with ⟨h', -⟩ | h'
 ·exact absurd h' hne
 ·rcases h'.2 with ⟨rfl, -⟩ | ⟨g, cap, cur, rfl, -⟩
  ·simp [Go.Proofs.Ytapfdmmfhfkhkaa.touch] at ht
  ·by_cases hc : cap = 0
   ·simp [Go.Proofs.Ytapfdmmfhfkhkaa.touch, hc] at ht
   ·simp [Go.Proofs.Ytapfdmmfhfkhkaa.touch, hc] at ht
    exact ht.symm
theorem CpE.put4 {b o : Nat} (h : CpE w base v es) (hb : es = [] ∨ blockOf v ≠ b) (u : Value) : CpE (w.setCell ⟨b, o, none⟩ u) base v es := ⟨ApR.put elemE h.1 (fun e => by
 obtain ⟨q1, q2⟩ := h.touch e
 rcases hb with hb | hb
 ·exact q1 hb
 ·exact hb q2.symm) u, h.2⟩
theorem CpE.grown4 {row : Option Nat} (h : CpE w base v es) (g : w.grownBy w' row) (hn : es = [] ∨ row ≠ some (blockOf v)) : CpE w' base v es := by
 refine ⟨?_, h.2⟩
 cases row with
 | none => exact ApR.kept elemE h.1 g (.inl rfl)
 | some j =>
  refine ApR.kept elemE h.1 g (.inr fun e => ?_)
  obtain ⟨q1, q2⟩ := h.touch e
  rcases hn with hn | hn
  ·exact q1 hn
  ·exact hn (by rw [q2])
theorem CpE.farE {b o : Nat} (h : CpE w base v es) (hb : b < base) (u : Value) : CpE (w.setCell ⟨b, o, none⟩ u) base v es := ⟨ApR.far elemE h.1 hb u, h.2⟩
end
theorem run_cp0 (w : World) (a0 a : Option Addr) (c : Nat) (ty : TypeId) : (Builtin.append_ #[27, 27] ty #[.slice a0 0 0, .slice a 0 c]).run Try.prog w = .ok (.slice a0 0 0) w := by
 cases a0 <;> cases a <;> kernel_rfl
theorem run_cpE {w : World} {ea : Option Addr} {ec : Nat} {es : List Ent} (ty : TypeId) (a0 : Option Addr) (hsrc : Rw 4 Ent.cl w (.slice ea es.length ec) es) (hb : es.length * 40 ≤ 140737488355328) :
  ∃ v' w', (Builtin.append_ #[27, 27] ty #[.slice a0 0 0, .slice ea es.length ec]).run Try.prog w = .ok v' w' ∧ CpE w' w.heap.size v' es ∧ Below w.heap.size w w' := by
 by_cases he : es = []
 ·subst he
  exact ⟨_, _, run_cp0 w a0 ea ec ty, ⟨.inl ⟨rfl, a0, rfl⟩, fun _ => by cases a0 <;> simp [touch]⟩, Below.refl _ _⟩
 ·obtain ⟨v', w', h1, h2, h3⟩ := run_cpR elemE ty a0 _ hsrc hb
  exact ⟨v', w', h1, ⟨h2, fun e => absurd e he⟩, h3⟩
end Go.Proofs.Ytapfdmmfhfkhkaa
