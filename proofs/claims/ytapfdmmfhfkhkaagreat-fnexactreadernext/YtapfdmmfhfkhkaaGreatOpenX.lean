/- Lists of answers among a law's arguments. -/
import Derived.Test.YtapfdmmfhfkhkaaGreatGbO
import Derived.Test.YtapfdmmfhfkhkaaGreatOpenV
import Derived.Test.YtapfdmmfhfkhkaaGreatOpenR
import Derived.Test.YtapfdmmfhfkhkaaGreatNxE
namespace Go.Proofs.YtapfdmmfhfkhkaaGreat
open Go.ChangeShapes Go.WideShapes Go.ChangeAt Go.RowKit
set_option linter.unusedVariables false
set_option linter.unusedSimpArgs false
set_option maxRecDepth 100000
variable {H : Type} {enc : TypeId × Value → H} {W : World} {r : Reach} {b0 base : Nat} {held : Bool} {v : Value} {d : DataW H} {p : List MemPlace}

theorem below_thr {B b : Nat} {w w' : World} (hb : Below B w w') (h : B ≤ b) (u v x : Value) : Below B w (((w'.setCell ⟨b, 0, none⟩ u).setCell ⟨b, 1, none⟩ v).setCell ⟨b, 2, none⟩ x) := ((hb.setCell (p := ⟨b, 0, none⟩) h u).setCell (p := ⟨b, 1, none⟩) h v).setCell (p := ⟨b, 2, none⟩) h x
/-- Answers among a law's arguments. -/
def okAnswerS (m : List Aw) : Prop := ∀ a ∈ m, fitAw a
def IsAnswerS (v : Value) (m : List Aw) (w : World) : Prop := RdAnswerS v m w ∧ okAnswerS m
theorem txtA_of {m : List Aw} (h : okAnswerS m) : txtAw m := fun e he => (h e he).2.2.2.2.2
theorem aw_cells {n : Nat} {cs : List Value} {x : DataW H × List MemPlace} {f0 f1 f2 : Field} (hu : Tryz.prog.underlying 160 = some (.struct #[f0, f1, f2])) (hC : Tryz.prog.cellsOf 160 = 6)
    (q0 : f0.type = 3 ∧ f0.offset = 0) (q1 : f1.type = 4 ∧ f1.offset = 1) (q2 : f2.type = 158 ∧ f2.offset = 2)
    (h : DataW.trod enc Tryz.prog W base (fun _ => true) held n 160 cs = some x) : ∃ e : Aw, cs = e.cl ∧ fitAw e := by
  obtain ⟨xs, n', _, rfl, hl, hlen, hf⟩ := DataW.trod_struct hu h
  rw [hC] at hl
  match cs, hl, xs, hlen with
  | [c0, c1, c2, c3, c4, c5], _, [y0, y1, y2], _ =>
    have h0 := hf 0 f0 rfl
    have h1 := hf 1 f1 rfl
    have h2 := hf 2 f2 rfl
    rw [q0.1, q0.2, show Tryz.prog.cellsOf 3 = 1 from by kernel_rfl] at h0
    rw [q1.1, q1.2, show Tryz.prog.cellsOf 4 = 1 from by kernel_rfl] at h1
    rw [q2.1, q2.2, show Tryz.prog.cellsOf 158 = 4 from by kernel_rfl] at h2
    simp at h0 h1 h2
    obtain ⟨n0, e0, -, w0⟩ := DataW.trod_int Tryz.underlying3 h0
    obtain ⟨b1, e1, -⟩ := DataW.trod_bool Tryz.underlying4 h1
    obtain ⟨e2, k2, w2⟩ := ent_cells Tryz.underlying158 (by kernel_rfl) ⟨rfl, rfl⟩ ⟨rfl, rfl⟩ ⟨rfl, rfl⟩ ⟨rfl, rfl⟩ h2
    simp at e0 e1
    unfold Ent.cl at k2
    simp at k2
    obtain ⟨k20, k21, k22, k23⟩ := k2
    subst e0 e1 k20 k21 k22 k23
    exact ⟨⟨n0, b1, e2⟩, rfl, bounds_i64 w0, w2⟩
theorem aws_read {fuel : Nat} {cs : List Value} {x : DataW H × List MemPlace} (h : DataW.trod enc Tryz.prog W base (fun _ => true) held fuel 77 cs = some x) : ∃ sv es, cs = [sv] ∧ Rw 6 Aw.cl W sv es ∧ ∀ e ∈ es, fitAw e :=
  rows_read (sz := 6) (cl := Aw.cl) (good := fitAw) Tryz.underlying77 (by kernel_rfl) (by decide) (fun _ => rfl) (fun n cs x hx => aw_cells Tryz.underlying160 (by kernel_rfl) ⟨rfl, rfl⟩ ⟨rfl, rfl⟩ ⟨rfl, rfl⟩ hx) h
theorem open_SAnswer (hv : Value.okWide Tryz.prog W r b0 77 v) (h : DataW.Trod enc Tryz.prog W base (fun _ => true) held 77 v d p) : ∃ m : List Aw, IsAnswerS v m W := by
  obtain ⟨a0, len0, cap0, rfl⟩ := okWide_slice Tryz.underlying77 hv
  obtain ⟨fuel, hf⟩ := h
  obtain ⟨sv, bs, hcs, h1, h2⟩ := aws_read hf
  simp [Value.cells] at hcs
  subst hcs
  exact ⟨bs, h1, h2⟩
end Go.Proofs.YtapfdmmfhfkhkaaGreat
