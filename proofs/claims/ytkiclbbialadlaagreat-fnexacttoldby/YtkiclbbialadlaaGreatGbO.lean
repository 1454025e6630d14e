/- Several texts in one: MnA, EntO, OpenE, RgA, OpenR, WrB, OpenM, OpenW. -/
import Derived.Test.YtkiclbbialadlaaGreatGaB
import Derived.Test.YtkiclbbialadlaaGreatGaD
import Derived.Test.YtkiclbbialadlaaGreatGbG
import Derived.Test.YtkiclbbialadlaaGreatGbP
import Derived.Test.YtkiclbbialadlaaGreatGaT
import Derived.Deep.Strs
import Derived.Test.YtkiclbbialadlaaGreatGk10
import Derived.Stop.Asserts
import Derived.Test.YtkiclbbialadlaaGreatGw2
namespace Go.Proofs.YtkiclbbialadlaaGreat
open Go.ChangeShapes Go.WideShapes Go.ChangeAt Go.RowKit
set_option linter.unusedSimpArgs false
set_option linter.unusedVariables false
set_option maxRecDepth 100000
structure Mn where
 bye : Int
 epoch : Int
 sealed : List Int
 seen : List Ent
 planned : Bool
 wrote : List (List Int)
def idL (x : List Int) : List Int := x
def lsCl (p : Nst (List Int)) : List Value := [.slice p.a p.m.length p.c]
theorem sv_id (p : Nst (List Int)) : Sv idL p = .slice p.a p.m.length p.c := rfl
theorem lsCl_len (p : Nst (List Int)) : (lsCl p).length = 1 := rfl
theorem elemL : Elem (α := Nst (List Int)) 22 113 (.slice none 0 0) 1 24 lsCl where
 under := Tryz.underlying113
 info := by kernel_rfl
 zcells := by kernel_rfl
 pos := by decide
 len := lsCl_len
 one := fun a u hu => by
  simp only [lsCl, List.mem_cons, List.not_mem_nil, or_false] at hu
  rcases hu with rfl
  rfl
theorem Rw.ls {w : World} {a : Option Addr} {n cap : Nat} {rs : List (Nst (List Int))} (h : Rw 1 lsCl w (.slice a n cap) rs) {k : Nat} (hk : k < rs.length) : ∃ b off, a = some ⟨b, off, none⟩ ∧ ∀ i (hi : i < rs.length), w.cell? ⟨b, off + i, none⟩ = some (.slice rs[i].a rs[i].m.length rs[i].c) := by
 obtain ⟨b, off, e, hc⟩ := h.el hk
 exact ⟨b, off, e, fun i hi => by simpa using hc i hi 0 _ rfl⟩
def sumL (ms : List (List Int)) : Nat := (ms.map List.length).sum
theorem sumL_take (ms : List (List Int)) (k : Nat) (h : k < ms.length) : sumL (ms.take (k + 1)) = sumL (ms.take k) + ms[k].length := by
 unfold sumL
 rw [List.take_succ_eq_append_getElem h, List.map_append, List.sum_append, List.map_cons, List.map_nil, List.sum_cons, List.sum_nil, Nat.add_zero]
theorem sumL_le (ms : List (List Int)) (k : Nat) : sumL (ms.take k) ≤ sumL ms := by
 unfold sumL
 conv => rhs; rw [← List.take_append_drop k ms, List.map_append, List.sum_append]
 exact Nat.le_add_right _ _
theorem sumL_mem {ms : List (List Int)} {k : Nat} (h : k < ms.length) : ms[k].length ≤ sumL ms := by
 have h1 := sumL_take ms k h
 have h2 := sumL_le ms (k + 1)
 omega
def RdIntSS (v : Value) (ms : List (List Int)) (W : World) : Prop := RdK 1 idL lsCl v ms W
def OwL (lo hi : Nat) (v : Value) (rs : List (Nst (List Int))) (W : World) : Prop :=
 OwnRw 1 lsCl W lo v rs ∧ (rs = [] ∨ bO v < hi) ∧ (∀ p ∈ rs, OwN lo hi (Sv idL p) p.m W) ∧ Apart idL v rs
def Off (b : Nat) (v : Value) (rs : List (Nst (List Int))) : Prop := (rs = [] ∨ bO v ≠ b) ∧ ∀ p ∈ rs, p.m = [] ∨ bO (Sv idL p) ≠ b
theorem OwL.owk {lo hi : Nat} {v : Value} {rs : List (Nst (List Int))} {W : World} (h : OwL lo hi v rs W) : OwK 1 idL lsCl lo hi v (rs.map Nst.m) W := ⟨rs, rfl, h.1, h.2.1, h.2.2.1, h.2.2.2⟩
theorem OwL.rd {lo hi : Nat} {v : Value} {rs : List (Nst (List Int))} {W : World} (h : OwL lo hi v rs W) : RdIntSS v (rs.map Nst.m) W := OwK.rd h.owk
theorem OwL.sits {lo hi : Nat} {v : Value} {rs : List (Nst (List Int))} {W : World} (h : OwL lo hi v rs W) (hf : hi ≤ W.heap.size) : Sits (OwL lo hi v rs) lo hi W := by
 obtain ⟨h2, h3, h4, h5⟩ := h
 refine ⟨hf, fun w' hW => ⟨h2.sitsR h3 hW, h3, fun p hp => ((h4 p hp).sits hf).all w' hW, h5⟩⟩
theorem OwL.wide {lo hi lo' hi' : Nat} {v : Value} {rs : List (Nst (List Int))} {W : World} (h : OwL lo hi v rs W) (h1 : lo' ≤ lo) (h2 : hi ≤ hi') : OwL lo' hi' v rs W := by
 obtain ⟨e2, e3, e4, e5⟩ := h
 refine ⟨e2.mono h1, ?_, fun p hp => (e4 p hp).wide h1 h2, e5⟩
 rcases e3 with h | h
 ·exact .inl h
 ·exact .inr (by omega)
theorem OwL.far {lo hi b o : Nat} {v : Value} {rs : List (Nst (List Int))} {w : World} (h : OwL lo hi v rs w) (hb : b < lo) (u : Value) : OwL lo hi v rs (w.setCell ⟨b, o, none⟩ u) := by
 obtain ⟨e2, e3, e4, e5⟩ := h
 have hW : ∀ k, lo ≤ k → k < hi → (w.setCell ⟨b, o, none⟩ u).heap[k]? = w.heap[k]? := fun k h1 h2 => Below.heap_setCell _ _ _ k (by simp only; omega)
 exact ⟨e2.sitsR e3 hW, e3, fun p hp => (e4 p hp).putW (by
  rcases (e4 p hp).1.ge with h | h
  ·exact .inl h
  ·exact .inr (by omega)) u, e5⟩
theorem OwL.keep {lo hi : Nat} {v : Value} {rs : List (Nst (List Int))} {w w' : World} (h : OwL lo hi v rs w) (hb : ∀ k, k < w.heap.size → (¬ Off k v rs) → w'.heap[k]? = w.heap[k]?) : OwL lo hi v rs w' := by
 obtain ⟨e2, e3, e4, e5⟩ := h
 refine ⟨?_, e3, fun p hp => ?_, e5⟩
 ·have hlt := e2.ltG lsCl_len (by decide)
  obtain ⟨h0, a, cap, rfl, hcap, h⟩ := e2
  refine ⟨h0, a, cap, rfl, hcap, ?_⟩
  rcases h with h | ⟨b, off, rfl, hb', hc⟩
  ·exact .inl h
  ·rcases hlt with h | hlt
   ·exact .inl h
   ·by_cases hr : rs = []
    ·exact .inl hr
    ·have e := hb b hlt (fun q => (q.1.resolve_left hr) rfl)
     exact .inr ⟨b, off, rfl, hb', fun i hi j u hu => ⟨(World.cell?_of_block (a := ⟨b, off + i * 1 + j, none⟩) e).trans (hc i hi j u hu).1, (World.frozen?_of_block (a := ⟨b, off + i * 1 + j, none⟩) e).trans (hc i hi j u hu).2⟩⟩
 ·obtain ⟨o, hl⟩ := e4 p hp
  refine ⟨?_, hl⟩
  by_cases hm : p.m = []
  ·obtain ⟨h0, a, cap, e, hcap, h⟩ := o
   exact ⟨h0, a, cap, e, hcap, .inl hm⟩
  ·have hlt := o.bs.lt.resolve_left hm
   have e := hb _ hlt (fun q => ((q.2 p hp).resolve_left hm) rfl)
   have n1 : OwN (bO (Sv idL p)) (bO (Sv idL p) + 1) (Sv idL p) p.m w := (OwN.narrow (lo := lo) (hi := w.heap.size) ⟨o, .inr hlt⟩ hm).1
   have n2 := (n1.sits hlt).all w' (fun k h1 h2 => by
    have : k = bO (Sv idL p) := by omega
    subst this
    exact e)
   exact n2.1.mono (o.ge.resolve_left hm)
def RdMend (v : Value) (m : Mn) (W : World) : Prop := ∃ sv ev wv, v = .agg #[.int .i64 m.bye, .int .i64 m.epoch, sv, ev, .bool m.planned, wv] ∧ Ns W sv m.sealed ∧ RdEntryS ev m.seen W ∧ RdIntSS wv m.wrote W
def OwMend (lo hi : Nat) (v : Value) (m : Mn) (W : World) : Prop := ∃ sv ev wv rs, v = .agg #[.int .i64 m.bye, .int .i64 m.epoch, sv, ev, .bool m.planned, wv] ∧ rs.map Nst.m = m.wrote ∧ OwN lo hi sv m.sealed W ∧ OwEntryS lo hi ev m.seen W ∧ OwL lo hi wv rs W ∧ (m.sealed = [] ∨ m.seen = [] ∨ bO sv ≠ bO ev) ∧ (m.sealed = [] ∨ Off (bO sv) wv rs) ∧ (m.seen = [] ∨ Off (bO ev) wv rs)
def sizIntSS (m : List (List Int)) : Nat := m.length + sumL m
def sizMend (m : Mn) : Nat := m.sealed.length + (sizEntryS m.seen + sizIntSS m.wrote)
def cntIntSS (m : List (List Int)) : Nat := sumL m
def cntMend (m : Mn) : Nat := m.sealed.length + (cntEntryS m.seen + cntIntSS m.wrote)
theorem OwMend.rd {lo hi : Nat} {v : Value} {m : Mn} {W : World} (h : OwMend lo hi v m W) : RdMend v m W := by
 obtain ⟨sv, ev, wv, rs, h1, h2, h3, h4, h5, -⟩ := h
 exact ⟨sv, ev, wv, h1, h3.rd, h4.rd, by rw [← h2]; exact h5.rd⟩
theorem RdMend.below {v : Value} {m : Mn} {W W' : World} (h : RdMend v m W) (b : Below W.heap.size W W') : RdMend v m W' := by
 obtain ⟨sv, ev, wv, h1, h2, h3, h4⟩ := h
 exact ⟨sv, ev, wv, h1, h2.below b, h3.below b, RdK.below h4 b⟩
theorem formMend {v : Value} {m : Mn} {W : World} (h : RdMend v m W) : ∃ sa sc ea ec wa wc, v = .agg #[.int .i64 m.bye, .int .i64 m.epoch, .slice sa m.sealed.length sc, .slice ea m.seen.length ec, .bool m.planned, .slice wa m.wrote.length wc] ∧ m.sealed.length ≤ 9223372036854775807 ∧ m.seen.length ≤ 9223372036854775807 ∧ m.wrote.length ≤ 9223372036854775807 := by
 obtain ⟨sv, ev, wv, rfl, h2, h3, h4⟩ := h
 obtain ⟨h0, a, cap, rfl, -, -⟩ := h2
 obtain ⟨ea, ec, rfl, h1⟩ := formEntryS h3
 obtain ⟨wa, wc, rfl, h5⟩ := formK h4
 exact ⟨a, cap, ea, ec, wa, wc, rfl, h0, h1, h5⟩
theorem OwMend.sits {lo hi : Nat} {w : World} {v : Value} {m : Mn} (h : OwMend lo hi v m w) (hf : hi ≤ w.heap.size) : Sits (OwMend lo hi v m) lo hi w := by
 obtain ⟨sv, ev, wv, rs, h1, h2, h3, h4, h5, h6⟩ := h
 have s3 := h3.sits hf
 have s4 := h4.sits hf
 have s5 := h5.sits hf
 exact ⟨hf, fun W hW => ⟨sv, ev, wv, rs, h1, h2, s3.all W hW, s4.all W hW, s5.all W hW, h6⟩⟩
theorem sv_mk (p : Nst (List Int)) (k : Nat) : Sv idL (⟨p.a, p.c, marksN k p.m.length⟩ : Nst (List Int)) = Sv idL p := by
 rw [sv_id, sv_id]
 simp only [marksN_len]
variable {H : Type} {enc : TypeId × Value → H} {W : World} {r : Reach} {b0 base : Nat} {sp : Nat → Bool} {held : Bool} {v : Value} {d : DataW H} {p : List MemPlace}
variable {H : Type} {enc : TypeId × Value → H} {W : World} {r : Reach} {b0 base : Nat} {sp : Nat → Bool} {held : Bool} {v : Value} {d : DataW H} {p : List MemPlace}
theorem ent_cells {T : TypeId} {n : Nat} {cs : List Value} {x : DataW H × List MemPlace} {f0 f1 f2 f3 : Field} (hu : Tryz.prog.underlying T = some (.struct #[f0, f1, f2, f3])) (hC : Tryz.prog.cellsOf T = 4)
  (q0 : f0.type = 3 ∧ f0.offset = 0) (q1 : f1.type = 3 ∧ f1.offset = 1) (q2 : f2.type = 4 ∧ f2.offset = 2) (q3 : f3.type = 9 ∧ f3.offset = 3)
  (h : DataW.trod enc Tryz.prog W base sp held n T cs = some x) : ∃ e : Ent, cs = e.cl ∧ e.fits := by
 obtain ⟨y0, y1, y2, y3, n', -, hl, h0, h1, h2, h3⟩ := Go.Joins.trod_struct4 hu h
 rw [hC] at hl
 match cs, hl with
 | [c0, c1, c2, c3], _ =>
  rw [q0.1, q0.2, show Tryz.prog.cellsOf 3 = 1 from by kernel_rfl] at h0
  rw [q1.1, q1.2, show Tryz.prog.cellsOf 3 = 1 from by kernel_rfl] at h1
  rw [q2.1, q2.2, show Tryz.prog.cellsOf 4 = 1 from by kernel_rfl] at h2
  rw [q3.1, q3.2, show Tryz.prog.cellsOf 9 = 1 from by kernel_rfl] at h3
  obtain ⟨n0, e0, -, w0⟩ := DataW.trod_int Tryz.underlying3 h0
  obtain ⟨n1, e1, -, w1⟩ := DataW.trod_int Tryz.underlying3 h1
  obtain ⟨b2, e2, -⟩ := DataW.trod_bool Tryz.underlying4 h2
  obtain ⟨s3, e3, -, w3⟩ := DataW.trod_string Tryz.underlying9 h3
  simp at e0 e1 e2 e3
  subst e0 e1 e2 e3
  exact ⟨⟨n0, n1, b2, s3⟩, rfl, (bounds_i64 w0).1, (bounds_i64 w0).2, (bounds_i64 w1).1, (bounds_i64 w1).2, w3⟩
theorem ents_read {fuel : Nat} {cs : List Value} {x : DataW H × List MemPlace} (h : DataW.trod enc Tryz.prog W base sp held fuel 104 cs = some x) : ∃ sv es, cs = [sv] ∧ Rw 4 Ent.cl W sv es ∧ fitE es :=
 rows_read (sz := 4) (cl := Ent.cl) (good := Ent.fits) Tryz.underlying104 (by kernel_rfl) (by decide) (fun _ => rfl) (fun n cs x hx => ent_cells Tryz.underlying212 (by kernel_rfl) ⟨rfl, rfl⟩ ⟨rfl, rfl⟩ ⟨rfl, rfl⟩ ⟨rfl, rfl⟩ hx) h
structure Er where
 nodes : List Int
 closed : Bool
 last : Int
structure Rg where
 eras : List Er
 trim : Int
def erCl (p : Nst Er) : List Value := [Sv Er.nodes p, .bool p.m.closed, .int .i64 p.m.last]
theorem erCl_len (p : Nst Er) : (erCl p).length = 3 := rfl
theorem elemR : Elem (α := Nst Er) 183 40 (.agg #[.slice none 0 0, .bool false, .int .i64 0]) 3 40 erCl where
 under := Tryz.underlying40
 info := by kernel_rfl
 zcells := by kernel_rfl
 pos := by decide
 len := erCl_len
 one := fun a u hu => by
  simp only [erCl, List.mem_cons, List.not_mem_nil, or_false] at hu
  rcases hu with rfl | rfl | rfl <;> rfl
def ErAt (w : World) (b o : Nat) (p : Nst Er) : Prop := w.cell? ⟨b, o, none⟩ = some (.slice p.a p.m.nodes.length p.c) ∧ w.cell? ⟨b, o + 1, none⟩ = some (.bool p.m.closed) ∧ w.cell? ⟨b, o + 2, none⟩ = some (.int .i64 p.m.last)
theorem ErAt.below {w w' : World} {b o : Nat} {p : Nst Er} (h : ErAt w b o p) (hb : Below w.heap.size w w') : ErAt w' b o p :=
 ⟨(hb.cell (p := ⟨b, o, none⟩) (dCell_lt h.1)).trans h.1, (hb.cell (p := ⟨b, o + 1, none⟩) (dCell_lt h.2.1)).trans h.2.1, (hb.cell (p := ⟨b, o + 2, none⟩) (dCell_lt h.2.2)).trans h.2.2⟩
theorem Rw.era {w : World} {a : Option Addr} {n cap : Nat} {rs : List (Nst Er)} (h : Rw 3 erCl w (.slice a n cap) rs) {k : Nat} (hk : k < rs.length) : ∃ b off, a = some ⟨b, off, none⟩ ∧ ∀ i (hi : i < rs.length), ErAt w b (off + i * 3) rs[i] := by
 obtain ⟨b, off, e, hc⟩ := h.el hk
 exact ⟨b, off, e, fun i hi => ⟨hc i hi 0 _ rfl, hc i hi 1 _ rfl, hc i hi 2 _ rfl⟩⟩
def sumN (ms : List Er) : Nat := (ms.map fun e => e.nodes.length).sum
theorem sumN_take (ms : List Er) (k : Nat) (h : k < ms.length) : sumN (ms.take (k + 1)) = sumN (ms.take k) + ms[k].nodes.length := by
 unfold sumN
 rw [List.take_succ_eq_append_getElem h, List.map_append, List.sum_append, List.map_cons, List.map_nil, List.sum_cons, List.sum_nil, Nat.add_zero]
theorem sumN_le (ms : List Er) (k : Nat) : sumN (ms.take k) ≤ sumN ms := by
 unfold sumN
 conv => rhs; rw [← List.take_append_drop k ms, List.map_append, List.sum_append]
 exact Nat.le_add_right _ _
theorem sumN_mem {ms : List Er} {k : Nat} (h : k < ms.length) : ms[k].nodes.length ≤ sumN ms := by
 have h1 := sumN_take ms k h
 have h2 := sumN_le ms (k + 1)
 omega
def RdEraS (v : Value) (ms : List Er) (W : World) : Prop := RdK 3 Er.nodes erCl v ms W
def OwEraS (lo hi : Nat) (v : Value) (ms : List Er) (W : World) : Prop := OwK 3 Er.nodes erCl lo hi v ms W
def RdRegister (v : Value) (m : Rg) (W : World) : Prop := ∃ sv, v = .agg #[sv, .int .i64 m.trim] ∧ RdEraS sv m.eras W
def OwRegister (lo hi : Nat) (v : Value) (m : Rg) (W : World) : Prop := ∃ sv, v = .agg #[sv, .int .i64 m.trim] ∧ OwEraS lo hi sv m.eras W
def sizEraS (m : List Er) : Nat := m.length + sumN m
def sizRegister (m : Rg) : Nat := sizEraS m.eras
def cntEraS (m : List Er) : Nat := sumN m + 2 * m.length
def cntRegister (m : Rg) : Nat := cntEraS m.eras
def mkEr (k : Nat) (e : Er) : Er := ⟨marksN k e.nodes.length, ((k + e.nodes.length) % 3 == 0), ((k + e.nodes.length + 1 : Nat) : Int)⟩
def mkEraS : Nat → List Er → List Er
 | _, [] => []
 | k, e :: l => mkEr k e :: mkEraS (k + e.nodes.length + 2) l
def mkRegister (k : Nat) (m : Rg) : Rg := ⟨mkEraS k m.eras, m.trim⟩
theorem mkEraS_len : ∀ (k : Nat) (m : List Er), (mkEraS k m).length = m.length
 | _, [] => rfl
 | k, e :: l => by rw [mkEraS, List.length_cons, List.length_cons, mkEraS_len]
theorem cntEraS_cons (e : Er) (l : List Er) : cntEraS (e :: l) = e.nodes.length + 2 + cntEraS l := by
 simp only [cntEraS, sumN, List.map_cons, List.sum_cons, List.length_cons]
 omega
theorem mkEraS_at : ∀ (k : Nat) (m : List Er) (i : Nat) (h : i < m.length) (h' : i < (mkEraS k m).length), (mkEraS k m)[i] = mkEr (k + cntEraS (m.take i)) m[i]
 | _, [], i, h, _ => by simp at h
 | k, e :: l, 0, h, _ => by simp [mkEraS, cntEraS, sumN]
 | k, e :: l, i + 1, h, h' => by
  have ih := mkEraS_at (k + e.nodes.length + 2) l i (by simpa using h) (by rw [mkEraS_len]; simpa using h)
  simp only [mkEraS, List.getElem_cons_succ, List.take_succ_cons, cntEraS_cons]
  rw [ih]
  congr 1
  omega
theorem cntEraS_take (m : List Er) (k : Nat) (h : k < m.length) : cntEraS (m.take (k + 1)) = cntEraS (m.take k) + m[k].nodes.length + 2 := by
 have h1 := sumN_take m k h
 unfold cntEraS
 rw [h1, List.length_take, List.length_take]
 omega
theorem cntEraS_le' (m : List Er) (k : Nat) : cntEraS (m.take k) ≤ cntEraS m := by
 have h1 := sumN_le m k
 unfold cntEraS
 rw [List.length_take]
 omega
theorem OwRegister.rd {lo hi : Nat} {v : Value} {m : Rg} {W : World} (h : OwRegister lo hi v m W) : RdRegister v m W := by
 obtain ⟨sv, h1, h2⟩ := h
 exact ⟨sv, h1, OwK.rd h2⟩
theorem RdRegister.below {v : Value} {m : Rg} {W W' : World} (h : RdRegister v m W) (b : Below W.heap.size W W') : RdRegister v m W' := by
 obtain ⟨sv, h1, h2⟩ := h
 exact ⟨sv, h1, RdK.below h2 b⟩
theorem formRegister {v : Value} {m : Rg} {W : World} (h : RdRegister v m W) : ∃ a cap, v = .agg #[.slice a m.eras.length cap, .int .i64 m.trim] ∧ m.eras.length ≤ 9223372036854775807 := by
 obtain ⟨sv, rfl, h⟩ := h
 obtain ⟨a, cap, rfl, h0⟩ := formK h
 exact ⟨a, cap, rfl, h0⟩
theorem OwRegister.sits {lo hi : Nat} {w : World} {v : Value} {m : Rg} (h : OwRegister lo hi v m w) (hf : hi ≤ w.heap.size) : Sits (OwRegister lo hi v m) lo hi w := by
 obtain ⟨sv, h1, h2⟩ := h
 have s2 := OwK.sits h2 hf
 exact ⟨hf, fun W hW => ⟨sv, h1, s2.all W hW⟩⟩
theorem cntEraS_le {m : List Er} (h : sizEraS m ≤ 1048576) : cntEraS m ≤ 2097152 := by unfold sizEraS at h; unfold cntEraS; omega
theorem cntRegister_le {m : Rg} (h : sizRegister m ≤ 1048576) : cntRegister m ≤ 2097152 := cntEraS_le h
variable {H : Type} {enc : TypeId × Value → H} {W : World} {r : Reach} {b0 base : Nat} {held : Bool} {v : Value} {d : DataW H} {p : List MemPlace}
def fitEr (e : Er) : Prop := allInt e.nodes ∧ -9223372036854775808 ≤ e.last ∧ e.last ≤ 9223372036854775807
def okRegister (m : Rg) : Prop := (∀ e ∈ m.eras, fitEr e) ∧ -9223372036854775808 ≤ m.trim ∧ m.trim ≤ 9223372036854775807
theorem era_cells {T : TypeId} {n : Nat} {cs : List Value} {x : DataW H × List MemPlace} {f0 f1 f2 : Field} (hu : Tryz.prog.underlying T = some (.struct #[f0, f1, f2])) (hC : Tryz.prog.cellsOf T = 3)
  (q0 : f0.type = 22 ∧ f0.offset = 0) (q1 : f1.type = 4 ∧ f1.offset = 1) (q2 : f2.type = 3 ∧ f2.offset = 2)
  (h : DataW.trod enc Tryz.prog W base (fun _ => true) held n T cs = some x) : ∃ e : Nst Er, cs = erCl e ∧ Ns W (Sv Er.nodes e) e.m.nodes ∧ fitEr e.m := by
 obtain ⟨y0, y1, y2, n', -, hl, h0, h1, h2⟩ := Go.Deep.trod_struct3 hu h
 rw [hC] at hl
 match cs, hl with
 | [c0, c1, c2], _ =>
  rw [q0.1, q0.2, show Tryz.prog.cellsOf 22 = 1 from by kernel_rfl] at h0
  rw [q1.1, q1.2, show Tryz.prog.cellsOf 4 = 1 from by kernel_rfl] at h1
  rw [q2.1, q2.2, show Tryz.prog.cellsOf 3 = 1 from by kernel_rfl] at h2
  obtain ⟨sv, bs, e0, k1, k2⟩ := ints_read h0
  obtain ⟨b1, e1, -⟩ := DataW.trod_bool Tryz.underlying4 h1
  obtain ⟨n2, e2, -, w2⟩ := DataW.trod_int Tryz.underlying3 h2
  simp at e0 e1 e2
  subst e0 e1 e2
  have k1' := k1
  obtain ⟨-, a, c, rfl, -, -⟩ := k1'
  exact ⟨⟨a, c, bs, b1, n2⟩, rfl, k1, k2, (bounds_i64 w2).1, (bounds_i64 w2).2⟩
theorem eras_read {fuel : Nat} {cs : List Value} {x : DataW H × List MemPlace} (h : DataW.trod enc Tryz.prog W base (fun _ => true) held fuel 26 cs = some x) : ∃ sv ms, cs = [sv] ∧ RdEraS sv ms W ∧ ∀ e ∈ ms, fitEr e := by
 obtain ⟨sv, rs, e, h1, h2⟩ := rows_read (sz := 3) (cl := erCl) (good := fun e => Ns W (Sv Er.nodes e) e.m.nodes ∧ fitEr e.m) Tryz.underlying26 (by kernel_rfl) (by decide) erCl_len (fun n cs x hx => era_cells Tryz.underlying169 (by kernel_rfl) ⟨rfl, rfl⟩ ⟨rfl, rfl⟩ ⟨rfl, rfl⟩ hx) h
 refine ⟨sv, rs.map Nst.m, e, ⟨rs, rfl, h1, fun p hp => (h2 p hp).1⟩, fun e he => ?_⟩
 obtain ⟨p, hp, rfl⟩ := List.mem_map.1 he
 exact (h2 p hp).2
theorem taOpen_done (w : World) : (Instr.typeAssert (.iface 284 (.agg #[])) 20 279 true).run Tryz.prog w = .ok (.tuple #[.agg #[.pointer none], .bool false]) w := by kernel_rfl
theorem taOpen_yes (v : Value) (w : World) : (Instr.typeAssert (.iface 279 v) 20 279 true).run Tryz.prog w = .ok (.tuple #[v, .bool true]) w := by kernel_rfl
set_option maxHeartbeats 2000000 in
theorem winAt_done (b o b' off n cap k : Nat) (w : World) (hc : w.cell? ⟨b, o + 2, none⟩ = some (.slice (some ⟨b', off, none⟩) n cap)) (hk : k < n) (hn : n ≤ 9223372036854775807) (hd : w.cell? ⟨b', off + k * 3 + 2, none⟩ = some (.bool true)) :
  Calls Tryz.prog 245 #[.pointer (some ⟨b, o, none⟩), .int .i64 ((k : Int) + 1)] w fun e w' => e = .returned (.iface 284 (.agg #[])) ∧ w' = w := by
 have h1 : ¬ ((k : Int) + 1 < 1) := by omega
 have h2 : ¬ ((n : Int) < (k : Int) + 1) := by omega
 have h3 : (k : Int) + 1 - 1 = (k : Int) := by omega
 have h4 : (k : Int) < (n : Int) := by omega
 go_enter Tryz.func245, Tryz.ntmps245
 go_wp2
 go_ret
 exact ⟨rfl, rfl⟩
set_option maxHeartbeats 2000000 in
theorem winAt_open (b o b' off n cap k : Nat) (w : World) (hc : w.cell? ⟨b, o + 2, none⟩ = some (.slice (some ⟨b', off, none⟩) n cap)) (hk : k < n) (hn : n ≤ 9223372036854775807) (hd : w.cell? ⟨b', off + k * 3 + 2, none⟩ = some (.bool false)) :
  Calls Tryz.prog 245 #[.pointer (some ⟨b, o, none⟩), .int .i64 ((k : Int) + 1)] w fun e w' => e = .returned (.iface 279 (.agg #[.pointer (some ⟨b', off + k * 3, none⟩)])) ∧ w' = w := by
 have h1 : ¬ ((k : Int) + 1 < 1) := by omega
 have h2 : ¬ ((n : Int) < (k : Int) + 1) := by omega
 have h3 : (k : Int) + 1 - 1 = (k : Int) := by omega
 have h4 : (k : Int) < (n : Int) := by omega
 go_enter Tryz.func245, Tryz.ntmps245
 go_wp2
 go_ret
 exact ⟨rfl, rfl⟩
theorem writingOf_any (ca : Option Addr) (cn cc : Nat) (cop e : Int) (a : Option Addr) (n cap : Nat) (w : World) :
  Calls Tryz.prog 181 #[.agg #[.slice ca cn cc, .int .i64 cop], .agg #[.int .i64 e, .slice a n cap]] w fun r w' => (∃ b, r = .returned (.pointer (some ⟨b, 0, none⟩)) ∧ BxZ w' w.heap.size b [.int .i64 e, .slice ca cn cc, .int .i64 cop, .slice a n cap]) ∧ Below w.heap.size w w' := by
 have ba : ∀ (w : World) o, Below w.heap.size w (w.alloc o) := fun w o => (Below.refl _ _).alloc (Nat.le_refl _) o
 go_enter Tryz.func181, Tryz.ntmps181
 go_wp2
 go_ret
 refine ⟨⟨_, rfl, ?_⟩, bT (bT (ba w _) (ba _ _)) (ba _ _)⟩
 have q := BxZ.new (B := w.heap.size) ((w.alloc (.cells #[.slice ca cn cc, .int .i64 cop] 38)).alloc (.cells #[.int .i64 e, .slice a n cap] 130)) [.int .i64 e, .slice ca cn cc, .int .i64 cop, .slice a n cap] 251 (by simp <;> omega)
 simpa using q
variable {H : Type} {enc : TypeId × Value → H} {W : World} {r : Reach} {b0 base : Nat} {held : Bool} {v : Value} {d : DataW H} {p : List MemPlace}
def okMend (m : Mn) : Prop := (-9223372036854775808 ≤ m.bye ∧ m.bye ≤ 9223372036854775807) ∧ (-9223372036854775808 ≤ m.epoch ∧ m.epoch ≤ 9223372036854775807) ∧ allInt m.sealed ∧ fitE m.seen ∧ ∀ l ∈ m.wrote, allInt l
theorem txtM_of {m : Mn} (h : okMend m) : txtE m.seen := fun e he => (h.2.2.2.1 e he).2.2.2.2
theorem lists_read {fuel : Nat} {cs : List Value} {x : DataW H × List MemPlace} (h : DataW.trod enc Tryz.prog W base (fun _ => true) held fuel 113 cs = some x) : ∃ sv ms, cs = [sv] ∧ RdIntSS sv ms W ∧ ∀ l ∈ ms, allInt l := by
 obtain ⟨sv, rs, e, h1, h2⟩ := rows_read (sz := 1) (cl := lsCl) (good := fun e => Ns W (Sv idL e) e.m ∧ allInt e.m) Tryz.underlying113 (by kernel_rfl) (by decide) lsCl_len (fun n cs x hx => by
  obtain ⟨sv, bs, e1, k1, k2⟩ := ints_read hx
  have k1' := k1
  obtain ⟨-, a, c, rfl, -, -⟩ := k1'
  exact ⟨⟨a, c, bs⟩, e1, k1, k2⟩) h
 refine ⟨sv, rs.map Nst.m, e, ⟨rs, rfl, h1, fun p hp => (h2 p hp).1⟩, fun e he => ?_⟩
 obtain ⟨p, hp, rfl⟩ := List.mem_map.1 he
 exact (h2 p hp).2
variable {H : Type} {enc : TypeId × Value → H} {W : World} {r : Reach} {b0 base : Nat} {held : Bool} {v : Value} {d : DataW H} {p : List MemPlace}
def fitWd (e : Wd) : Prop := allInt e.acks ∧ e.data.size ≤ 9223372036854775807
def okWriter (m : Wt) : Prop := (∀ e ∈ m.words, fitWd e) ∧ -9223372036854775808 ≤ m.epoch ∧ m.epoch ≤ 9223372036854775807
theorem txtW_of {m : Wt} (h : okWriter m) : txtW m.words := fun e he => (h.1 e he).2
theorem word_cells {T : TypeId} {n : Nat} {cs : List Value} {x : DataW H × List MemPlace} {f0 f1 f2 : Field} (hu : Tryz.prog.underlying T = some (.struct #[f0, f1, f2])) (hC : Tryz.prog.cellsOf T = 3)
  (q0 : f0.type = 9 ∧ f0.offset = 0) (q1 : f1.type = 22 ∧ f1.offset = 1) (q2 : f2.type = 4 ∧ f2.offset = 2)
  (h : DataW.trod enc Tryz.prog W base (fun _ => true) held n T cs = some x) : ∃ e : Nst Wd, cs = wdCl e ∧ Ns W (Sv Wd.acks e) e.m.acks ∧ fitWd e.m := by
 obtain ⟨y0, y1, y2, n', -, hl, h0, h1, h2⟩ := Go.Deep.trod_struct3 hu h
 rw [hC] at hl
 match cs, hl with
 | [c0, c1, c2], _ =>
  rw [q0.1, q0.2, show Tryz.prog.cellsOf 9 = 1 from by kernel_rfl] at h0
  rw [q1.1, q1.2, show Tryz.prog.cellsOf 22 = 1 from by kernel_rfl] at h1
  rw [q2.1, q2.2, show Tryz.prog.cellsOf 4 = 1 from by kernel_rfl] at h2
  obtain ⟨s0, e0, -, w0⟩ := DataW.trod_string Tryz.underlying9 h0
  obtain ⟨sv, bs, e1, k1, k2⟩ := ints_read h1
  obtain ⟨b2, e2, -⟩ := DataW.trod_bool Tryz.underlying4 h2
  simp at e0 e1 e2
  subst e0 e1 e2
  have k1' := k1
  obtain ⟨-, a, c, rfl, -, -⟩ := k1'
  exact ⟨⟨a, c, s0, bs, b2⟩, rfl, k1, k2, w0⟩
theorem words_read {fuel : Nat} {cs : List Value} {x : DataW H × List MemPlace} (h : DataW.trod enc Tryz.prog W base (fun _ => true) held fuel 109 cs = some x) : ∃ sv ms, cs = [sv] ∧ RdWordS sv ms W ∧ ∀ e ∈ ms, fitWd e := by
 obtain ⟨sv, rs, e, h1, h2⟩ := rows_read (sz := 3) (cl := wdCl) (good := fun e => Ns W (Sv Wd.acks e) e.m.acks ∧ fitWd e.m) Tryz.underlying109 (by kernel_rfl) (by decide) wdCl_len (fun n cs x hx => word_cells Tryz.underlying214 (by kernel_rfl) ⟨rfl, rfl⟩ ⟨rfl, rfl⟩ ⟨rfl, rfl⟩ hx) h
 refine ⟨sv, rs.map Nst.m, e, ⟨rs, rfl, h1, fun p hp => (h2 p hp).1⟩, fun e he => ?_⟩
 obtain ⟨p, hp, rfl⟩ := List.mem_map.1 he
 exact (h2 p hp).2
end Go.Proofs.YtkiclbbialadlaaGreat
