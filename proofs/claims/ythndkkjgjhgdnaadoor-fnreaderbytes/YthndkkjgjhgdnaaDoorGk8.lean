/- Several texts in one: RgA, OpenR. -/
import Derived.Test.YthndkkjgjhgdnaaDoorGaB
import Derived.Test.YthndkkjgjhgdnaaDoorGaD
import Derived.Deep.Strs
namespace Go.Proofs.YthndkkjgjhgdnaaDoor
open Go.ChangeShapes Go.WideShapes Go.ChangeAt Go.RowKit
set_option linter.unusedVariables false
set_option linter.unusedSimpArgs false

/-- An era. -/
structure Er where
  nodes : List Int
  closed : Bool
  last : Int
/-- A register. -/
structure Rg where
  eras : List Er
  trim : Int
/-- The cells of an era. -/
def erCl (p : Nst Er) : List Value := [Sv Er.nodes p, .bool p.m.closed, .int .i64 p.m.last]
/-- An era as a value. -/
def erVal (p : Nst Er) : Value := .agg #[Sv Er.nodes p, .bool p.m.closed, .int .i64 p.m.last]
theorem erCl_len (p : Nst Er) : (erCl p).length = 3 := rfl
/-- The three cells of an era in a row. -/
def ErAt (w : World) (b o : Nat) (p : Nst Er) : Prop := w.cell? ⟨b, o, none⟩ = some (.slice p.a p.m.nodes.length p.c) ∧ w.cell? ⟨b, o + 1, none⟩ = some (.bool p.m.closed) ∧ w.cell? ⟨b, o + 2, none⟩ = some (.int .i64 p.m.last)
theorem ErAt.below {w w' : World} {b o : Nat} {p : Nst Er} (h : ErAt w b o p) (hb : Below w.heap.size w w') : ErAt w' b o p :=
  ⟨(hb.cell (p := ⟨b, o, none⟩) (dCell_lt h.1)).trans h.1, (hb.cell (p := ⟨b, o + 1, none⟩) (dCell_lt h.2.1)).trans h.2.1, (hb.cell (p := ⟨b, o + 2, none⟩) (dCell_lt h.2.2)).trans h.2.2⟩
theorem Rw.era {w : World} {a : Option Addr} {n cap : Nat} {rs : List (Nst Er)} (h : Rw 3 erCl w (.slice a n cap) rs) {k : Nat} (hk : k < rs.length) : ∃ b off, a = some ⟨b, off, none⟩ ∧ ∀ i (hi : i < rs.length), ErAt w b (off + i * 3) rs[i] := by
  obtain ⟨b, off, e, hc⟩ := h.el hk
  exact ⟨b, off, e, fun i hi => ⟨hc i hi 0 _ rfl, hc i hi 1 _ rfl, hc i hi 2 _ rfl⟩⟩
/-- A new block of one era. -/
theorem rwR_one (w : World) (p : Nst Er) (T : TypeId) (c : Nat) (hc : 1 ≤ c ∧ c ≤ 9223372036854775807) : Rw 3 erCl (w.alloc (.cells #[.slice p.a p.m.nodes.length p.c, .bool p.m.closed, .int .i64 p.m.last] T)) (.slice (some ⟨w.heap.size, 0, none⟩) 1 c) [p] := by
  refine ⟨by simp, _, _, rfl, by simpa using hc, .inr ⟨w.heap.size, 0, rfl, fun i hi j u hu => ?_⟩⟩
  obtain rfl : i = 0 := by simp at hi; omega
  simp only [List.getElem_cons_zero, erCl, Sv] at hu
  simpa using hu
/-- How many nodes eras have. -/
def sumN (ms : List Er) : Nat := (ms.map fun e => e.nodes.length).sum
theorem sumN_take (ms : List Er) (k : Nat) (h : k < ms.length) : sumN (ms.take (k + 1)) = sumN (ms.take k) + ms[k].nodes.length := by
  unfold sumN
  rw [List.take_succ_eq_append_getElem h, List.map_append, List.sum_append, List.map_cons, List.map_nil, List.sum_cons, List.sum_nil, Nat.add_zero]
theorem sumN_le (ms : List Er) (k : Nat) : sumN (ms.take k) ≤ sumN ms := by
  unfold sumN
  conv => rhs; rw [← List.take_append_drop k ms, List.map_append, List.sum_append]
  exact Nat.le_add_right _ _
theorem sumN_mem {ms : List Er} {k : Nat} (h : k < ms.length) : ms[k].nodes.length ≤ sumN ms := by
  have h1 := sumN_take ms k h
  have h2 := sumN_le ms (k + 1)
  omega
def RdEraS (v : Value) (ms : List Er) (W : World) : Prop := RdK 3 Er.nodes erCl v ms W
def OwEraS (lo hi : Nat) (v : Value) (ms : List Er) (W : World) : Prop := OwK 3 Er.nodes erCl lo hi v ms W
def RdRegister (v : Value) (m : Rg) (W : World) : Prop := ∃ sv, v = .agg #[sv, .int .i64 m.trim] ∧ RdEraS sv m.eras W
def OwRegister (lo hi : Nat) (v : Value) (m : Rg) (W : World) : Prop := ∃ sv, v = .agg #[sv, .int .i64 m.trim] ∧ OwEraS lo hi sv m.eras W
def sizEraS (m : List Er) : Nat := m.length + sumN m
def sizRegister (m : Rg) : Nat := sizEraS m.eras
/-- How many marks an era takes. -/
def cntEraS (m : List Er) : Nat := sumN m + 2 * m.length
def cntRegister (m : Rg) : Nat := cntEraS m.eras
/-- A marked era. -/
def mkEr (k : Nat) (e : Er) : Er := ⟨marksN k e.nodes.length, ((k + e.nodes.length) % 3 == 0), ((k + e.nodes.length + 1 : Nat) : Int)⟩
def mkEraS : Nat → List Er → List Er
  | _, [] => []
  | k, e :: l => mkEr k e :: mkEraS (k + e.nodes.length + 2) l
def mkRegister (k : Nat) (m : Rg) : Rg := ⟨mkEraS k m.eras, m.trim⟩
theorem mkEraS_len : ∀ (k : Nat) (m : List Er), (mkEraS k m).length = m.length
  | _, [] => rfl
  | k, e :: l => by rw [mkEraS, List.length_cons, List.length_cons, mkEraS_len]
theorem cntEraS_cons (e : Er) (l : List Er) : cntEraS (e :: l) = e.nodes.length + 2 + cntEraS l := by
  simp only [cntEraS, sumN, List.map_cons, List.sum_cons, List.length_cons]
  omega
theorem mkEraS_at : ∀ (k : Nat) (m : List Er) (i : Nat) (h : i < m.length) (h' : i < (mkEraS k m).length), (mkEraS k m)[i] = mkEr (k + cntEraS (m.take i)) m[i]
  | _, [], i, h, _ => by simp at h
  | k, e :: l, 0, h, _ => by simp [mkEraS, cntEraS, sumN]
  | k, e :: l, i + 1, h, h' => by
    have ih := mkEraS_at (k + e.nodes.length + 2) l i (by simpa using h) (by rw [mkEraS_len]; simpa using h)
    simp only [mkEraS, List.getElem_cons_succ, List.take_succ_cons, cntEraS_cons]
    rw [ih]
    congr 1
    omega
theorem cntEraS_take (m : List Er) (k : Nat) (h : k < m.length) : cntEraS (m.take (k + 1)) = cntEraS (m.take k) + m[k].nodes.length + 2 := by
  have h1 := sumN_take m k h
  unfold cntEraS
  rw [h1, List.length_take, List.length_take]
  omega
theorem cntEraS_le' (m : List Er) (k : Nat) : cntEraS (m.take k) ≤ cntEraS m := by
  have h1 := sumN_le m k
  unfold cntEraS
  rw [List.length_take]
  omega
theorem OwRegister.rd {lo hi : Nat} {v : Value} {m : Rg} {W : World} (h : OwRegister lo hi v m W) : RdRegister v m W := by
  obtain ⟨sv, h1, h2⟩ := h
  exact ⟨sv, h1, OwK.rd h2⟩
theorem RdRegister.below {v : Value} {m : Rg} {W W' : World} (h : RdRegister v m W) (b : Below W.heap.size W W') : RdRegister v m W' := by
  obtain ⟨sv, h1, h2⟩ := h
  exact ⟨sv, h1, RdK.below h2 b⟩
theorem formRegister {v : Value} {m : Rg} {W : World} (h : RdRegister v m W) : ∃ a cap, v = .agg #[.slice a m.eras.length cap, .int .i64 m.trim] ∧ m.eras.length ≤ 9223372036854775807 := by
  obtain ⟨sv, rfl, h⟩ := h
  obtain ⟨a, cap, rfl, h0⟩ := formK h
  exact ⟨a, cap, rfl, h0⟩
theorem OwRegister.sits {lo hi : Nat} {w : World} {v : Value} {m : Rg} (h : OwRegister lo hi v m w) (hf : hi ≤ w.heap.size) : Sits (OwRegister lo hi v m) lo hi w := by
  obtain ⟨sv, h1, h2⟩ := h
  have s2 := OwK.sits h2 hf
  exact ⟨hf, fun W hW => ⟨sv, h1, s2.all W hW⟩⟩
theorem cntEraS_le {m : List Er} (h : sizEraS m ≤ 1048576) : cntEraS m ≤ 2097152 := by unfold sizEraS at h; unfold cntEraS; omega
theorem cntRegister_le {m : Rg} (h : sizRegister m ≤ 1048576) : cntRegister m ≤ 2097152 := cntEraS_le h
end Go.Proofs.YthndkkjgjhgdnaaDoor
namespace Go.Proofs.YthndkkjgjhgdnaaDoor
open Go.ChangeShapes Go.WideShapes Go.ChangeAt Go.RowKit
set_option linter.unusedVariables false
set_option maxRecDepth 100000
variable {H : Type} {enc : TypeId × Value → H} {W : World} {r : Reach} {b0 base : Nat} {held : Bool} {v : Value} {d : DataW H} {p : List MemPlace}

/-- An era of ints. -/
def fitEr (e : Er) : Prop := allInt e.nodes ∧ -9223372036854775808 ≤ e.last ∧ e.last ≤ 9223372036854775807
def okRegister (m : Rg) : Prop := (∀ e ∈ m.eras, fitEr e) ∧ -9223372036854775808 ≤ m.trim ∧ m.trim ≤ 9223372036854775807
def IsRegister (v : Value) (m : Rg) (w : World) : Prop := RdRegister v m w ∧ okRegister m
theorem era_cells {T : TypeId} {n : Nat} {cs : List Value} {x : DataW H × List MemPlace} {f0 f1 f2 : Field} (hu : Tryd.prog.underlying T = some (.struct #[f0, f1, f2])) (hC : Tryd.prog.cellsOf T = 3)
    (q0 : f0.type = 24 ∧ f0.offset = 0) (q1 : f1.type = 4 ∧ f1.offset = 1) (q2 : f2.type = 3 ∧ f2.offset = 2)
    (h : DataW.trod enc Tryd.prog W base (fun _ => true) held n T cs = some x) : ∃ e : Nst Er, cs = erCl e ∧ Ns W (Sv Er.nodes e) e.m.nodes ∧ fitEr e.m := by
  obtain ⟨y0, y1, y2, n', -, hl, h0, h1, h2⟩ := Go.Deep.trod_struct3 hu h
  rw [hC] at hl
  match cs, hl with
  | [c0, c1, c2], _ =>
    rw [q0.1, q0.2, show Tryd.prog.cellsOf 24 = 1 from by kernel_rfl] at h0
    rw [q1.1, q1.2, show Tryd.prog.cellsOf 4 = 1 from by kernel_rfl] at h1
    rw [q2.1, q2.2, show Tryd.prog.cellsOf 3 = 1 from by kernel_rfl] at h2
    obtain ⟨sv, bs, e0, k1, k2⟩ := ints_read h0
    obtain ⟨b1, e1, -⟩ := DataW.trod_bool Tryd.underlying4 h1
    obtain ⟨n2, e2, -, w2⟩ := DataW.trod_int Tryd.underlying3 h2
    simp at e0 e1 e2
    subst e0 e1 e2
    have k1' := k1
    obtain ⟨-, a, c, rfl, -, -⟩ := k1'
    exact ⟨⟨a, c, bs, b1, n2⟩, rfl, k1, k2, (bounds_i64 w2).1, (bounds_i64 w2).2⟩
end Go.Proofs.YthndkkjgjhgdnaaDoor
