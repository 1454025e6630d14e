/- Several texts in one: EntO, OpenE, MnA, RgA, WrSb, OpenR, WrB, OpenM, OpenW. -/
import Derived.Test.YtekgkjomdpjkbaaGreatGk14
import Derived.Test.YtekgkjomdpjkbaaGreatGbP
import Derived.Test.YtekgkjomdpjkbaaGreatGaT
import Derived.Test.YtekgkjomdpjkbaaGreatGaB
import Derived.Test.YtekgkjomdpjkbaaGreatGbG
import Derived.Deep.Strs
import Derived.Stop.Asserts
namespace Go.Proofs.YtekgkjomdpjkbaaGreat
open Go.ChangeShapes Go.WideShapes Go.ChangeAt Go.RowKit
set_option linter.unusedSimpArgs false
set_option linter.unusedVariables false
set_option maxRecDepth 100000
variable {H : Type} {enc : TypeId × Value → H} {W : World} {r : Reach} {b0 base : Nat} {sp : Nat → Bool} {held : Bool} {v : Value} {d : DataW H} {p : List MemPlace}
variable {H : Type} {enc : TypeId × Value → H} {W : World} {r : Reach} {b0 base : Nat} {sp : Nat → Bool} {held : Bool} {v : Value} {d : DataW H} {p : List MemPlace}
theorem ent_cells {T : TypeId} {n : Nat} {cs : List Value} {x : DataW H × List MemPlace} {f0 f1 f2 f3 : Field} (hu : Tryz.prog.underlying T = some (.struct #[f0, f1, f2, f3])) (hC : Tryz.prog.cellsOf T = 4)
  (q0 : f0.type = 3 ∧ f0.offset = 0) (q1 : f1.type = 3 ∧ f1.offset = 1) (q2 : f2.type = 4 ∧ f2.offset = 2) (q3 : f3.type = 9 ∧ f3.offset = 3)
  (h : DataW.trod enc Tryz.prog W base sp held n T cs = some x) : ∃ e : Ent, cs = e.cl ∧ e.fits := by
 obtain ⟨y0, y1, y2, y3, n', -, hl, h0, h1, h2, h3⟩ := Go.Joins.trod_struct4 hu h
 rw [hC] at hl
 match cs, hl with
 | [c0, c1, c2, c3], _ =>
  rw [q0.1, q0.2, show Tryz.prog.cellsOf 3 = 1 from by kernel_rfl] at h0
  rw [q1.1, q1.2, show Tryz.prog.cellsOf 3 = 1 from by kernel_rfl] at h1
  rw [q2.1, q2.2, show Tryz.prog.cellsOf 4 = 1 from by kernel_rfl] at h2
  rw [q3.1, q3.2, show Tryz.prog.cellsOf 9 = 1 from by kernel_rfl] at h3
  obtain ⟨n0, e0, -, w0⟩ := DataW.trod_int Tryz.underlying3 h0
  obtain ⟨n1, e1, -, w1⟩ := DataW.trod_int Tryz.underlying3 h1
  obtain ⟨b2, e2, -⟩ := DataW.trod_bool Tryz.underlying4 h2
  obtain ⟨s3, e3, -, w3⟩ := DataW.trod_string Tryz.underlying9 h3
  simp at e0 e1 e2 e3
  subst e0 e1 e2 e3
  exact ⟨⟨n0, n1, b2, s3⟩, rfl, (bounds_i64 w0).1, (bounds_i64 w0).2, (bounds_i64 w1).1, (bounds_i64 w1).2, w3⟩
theorem ents_read {fuel : Nat} {cs : List Value} {x : DataW H × List MemPlace} (h : DataW.trod enc Tryz.prog W base sp held fuel 90 cs = some x) : ∃ sv es, cs = [sv] ∧ Rw 4 Ent.cl W sv es ∧ fitE es :=
 rows_read (sz := 4) (cl := Ent.cl) (good := Ent.fits) Tryz.underlying90 (by kernel_rfl) (by decide) (fun _ => rfl) (fun n cs x hx => ent_cells Tryz.underlying174 (by kernel_rfl) ⟨rfl, rfl⟩ ⟨rfl, rfl⟩ ⟨rfl, rfl⟩ ⟨rfl, rfl⟩ hx) h
structure Mn where
 bye : Int
 epoch : Int
 sealed : List Int
 seen : List Ent
 planned : Bool
 wrote : List (List Int)
def idL (x : List Int) : List Int := x
def lsCl (p : Nst (List Int)) : List Value := [.slice p.a p.m.length p.c]
theorem lsCl_len (p : Nst (List Int)) : (lsCl p).length = 1 := rfl
theorem elemL : Elem (α := Nst (List Int)) 22 99 (.slice none 0 0) 1 24 lsCl where
 under := Tryz.underlying99
 info := by kernel_rfl
 zcells := by kernel_rfl
 pos := by decide
 len := lsCl_len
 one := fun a u hu => by
  simp only [lsCl, List.mem_cons, List.not_mem_nil, or_false] at hu
  rcases hu with rfl
  rfl
theorem Rw.ls {w : World} {a : Option Addr} {n cap : Nat} {rs : List (Nst (List Int))} (h : Rw 1 lsCl w (.slice a n cap) rs) {k : Nat} (hk : k < rs.length) : ∃ b off, a = some ⟨b, off, none⟩ ∧ ∀ i (hi : i < rs.length), w.cell? ⟨b, off + i, none⟩ = some (.slice rs[i].a rs[i].m.length rs[i].c) := by
 obtain ⟨b, off, e, hc⟩ := h.el hk
 exact ⟨b, off, e, fun i hi => by simpa using hc i hi 0 _ rfl⟩
def sumL (ms : List (List Int)) : Nat := (ms.map List.length).sum
theorem sumL_take (ms : List (List Int)) (k : Nat) (h : k < ms.length) : sumL (ms.take (k + 1)) = sumL (ms.take k) + ms[k].length := by
 unfold sumL
 rw [List.take_succ_eq_append_getElem h, List.map_append, List.sum_append, List.map_cons, List.map_nil, List.sum_cons, List.sum_nil, Nat.add_zero]
theorem sumL_le (ms : List (List Int)) (k : Nat) : sumL (ms.take k) ≤ sumL ms := by
 unfold sumL
 conv => rhs; rw [← List.take_append_drop k ms, List.map_append, List.sum_append]
 exact Nat.le_add_right _ _
theorem sumL_mem {ms : List (List Int)} {k : Nat} (h : k < ms.length) : ms[k].length ≤ sumL ms := by
 have h1 := sumL_take ms k h
 have h2 := sumL_le ms (k + 1)
 omega
def RdIntSS (v : Value) (ms : List (List Int)) (W : World) : Prop := RdK 1 idL lsCl v ms W
def OwL (lo hi : Nat) (v : Value) (rs : List (Nst (List Int))) (W : World) : Prop :=
 OwnRw 1 lsCl W lo v rs ∧ (rs = [] ∨ bO v < hi) ∧ (∀ p ∈ rs, OwN lo hi (Sv idL p) p.m W) ∧ Apart idL v rs
def Off (b : Nat) (v : Value) (rs : List (Nst (List Int))) : Prop := (rs = [] ∨ bO v ≠ b) ∧ ∀ p ∈ rs, p.m = [] ∨ bO (Sv idL p) ≠ b
theorem OwL.owk {lo hi : Nat} {v : Value} {rs : List (Nst (List Int))} {W : World} (h : OwL lo hi v rs W) : OwK 1 idL lsCl lo hi v (rs.map Nst.m) W := ⟨rs, rfl, h.1, h.2.1, h.2.2.1, h.2.2.2⟩
theorem OwL.rd {lo hi : Nat} {v : Value} {rs : List (Nst (List Int))} {W : World} (h : OwL lo hi v rs W) : RdIntSS v (rs.map Nst.m) W := OwK.rd h.owk
theorem OwL.sits {lo hi : Nat} {v : Value} {rs : List (Nst (List Int))} {W : World} (h : OwL lo hi v rs W) (hf : hi ≤ W.heap.size) : Sits (OwL lo hi v rs) lo hi W := by
 obtain ⟨h2, h3, h4, h5⟩ := h
 refine ⟨hf, fun w' hW => ⟨h2.sitsR h3 hW, h3, fun p hp => ((h4 p hp).sits hf).all w' hW, h5⟩⟩
theorem OwL.wide {lo hi lo' hi' : Nat} {v : Value} {rs : List (Nst (List Int))} {W : World} (h : OwL lo hi v rs W) (h1 : lo' ≤ lo) (h2 : hi ≤ hi') : OwL lo' hi' v rs W := by
 obtain ⟨e2, e3, e4, e5⟩ := h
 refine ⟨e2.mono h1, ?_, fun p hp => (e4 p hp).wide h1 h2, e5⟩
 rcases e3 with h | h
 ·exact .inl h
 ·exact .inr (by omega)
theorem OwL.far {lo hi b o : Nat} {v : Value} {rs : List (Nst (List Int))} {w : World} (h : OwL lo hi v rs w) (hb : b < lo) (u : Value) : OwL lo hi v rs (w.setCell ⟨b, o, none⟩ u) := by
 obtain ⟨e2, e3, e4, e5⟩ := h
 have hW : ∀ k, lo ≤ k → k < hi → (w.setCell ⟨b, o, none⟩ u).heap[k]? = w.heap[k]? := fun k h1 h2 => Below.heap_setCell _ _ _ k (by simp only; omega)
 exact ⟨e2.sitsR e3 hW, e3, fun p hp => (e4 p hp).putW (by
  rcases (e4 p hp).1.ge with h | h
  ·exact .inl h
  ·exact .inr (by omega)) u, e5⟩
theorem OwL.keep {lo hi : Nat} {v : Value} {rs : List (Nst (List Int))} {w w' : World} (h : OwL lo hi v rs w) (hb : ∀ k, k < w.heap.size → (¬ Off k v rs) → w'.heap[k]? = w.heap[k]?) : OwL lo hi v rs w' := by
 obtain ⟨e2, e3, e4, e5⟩ := h
 refine ⟨?_, e3, fun p hp => ?_, e5⟩
 ·have hlt := e2.ltG lsCl_len (by decide)
  obtain ⟨h0, a, cap, rfl, hcap, h⟩ := e2
  refine ⟨h0, a, cap, rfl, hcap, ?_⟩
  rcases h with h | ⟨b, off, rfl, hb', hc⟩
  ·exact .inl h
  ·rcases hlt with h | hlt
   ·exact .inl h
   ·by_cases hr : rs = []
    ·exact .inl hr
    ·have e := hb b hlt (fun q => (q.1.resolve_left hr) rfl)
     exact .inr ⟨b, off, rfl, hb', fun i hi j u hu => ⟨(World.cell?_of_block (a := ⟨b, off + i * 1 + j, none⟩) e).trans (hc i hi j u hu).1, (World.frozen?_of_block (a := ⟨b, off + i * 1 + j, none⟩) e).trans (hc i hi j u hu).2⟩⟩
 ·obtain ⟨o, hl⟩ := e4 p hp
  refine ⟨?_, hl⟩
  by_cases hm : p.m = []
  ·obtain ⟨h0, a, cap, e, hcap, h⟩ := o
   exact ⟨h0, a, cap, e, hcap, .inl hm⟩
  ·have hlt := o.bs.lt.resolve_left hm
   have e := hb _ hlt (fun q => ((q.2 p hp).resolve_left hm) rfl)
   have n1 : OwN (bO (Sv idL p)) (bO (Sv idL p) + 1) (Sv idL p) p.m w := (OwN.narrow (lo := lo) (hi := w.heap.size) ⟨o, .inr hlt⟩ hm).1
   have n2 := (n1.sits hlt).all w' (fun k h1 h2 => by
    have : k = bO (Sv idL p) := by omega
    subst this
    exact e)
   exact n2.1.mono (o.ge.resolve_left hm)
def RdMend (v : Value) (m : Mn) (W : World) : Prop := ∃ sv ev wv, v = .agg #[.int .i64 m.bye, .int .i64 m.epoch, sv, ev, .bool m.planned, wv] ∧ Ns W sv m.sealed ∧ RdEntryS ev m.seen W ∧ RdIntSS wv m.wrote W
def OwMend (lo hi : Nat) (v : Value) (m : Mn) (W : World) : Prop := ∃ sv ev wv rs, v = .agg #[.int .i64 m.bye, .int .i64 m.epoch, sv, ev, .bool m.planned, wv] ∧ rs.map Nst.m = m.wrote ∧ OwN lo hi sv m.sealed W ∧ OwEntryS lo hi ev m.seen W ∧ OwL lo hi wv rs W ∧ (m.sealed = [] ∨ m.seen = [] ∨ bO sv ≠ bO ev) ∧ (m.sealed = [] ∨ Off (bO sv) wv rs) ∧ (m.seen = [] ∨ Off (bO ev) wv rs)
def sizIntSS (m : List (List Int)) : Nat := m.length + sumL m
def sizMend (m : Mn) : Nat := m.sealed.length + (sizEntryS m.seen + sizIntSS m.wrote)
theorem OwMend.rd {lo hi : Nat} {v : Value} {m : Mn} {W : World} (h : OwMend lo hi v m W) : RdMend v m W := by
 obtain ⟨sv, ev, wv, rs, h1, h2, h3, h4, h5, -⟩ := h
 exact ⟨sv, ev, wv, h1, h3.rd, h4.rd, by rw [← h2]; exact h5.rd⟩
theorem RdMend.below {v : Value} {m : Mn} {W W' : World} (h : RdMend v m W) (b : Below W.heap.size W W') : RdMend v m W' := by
 obtain ⟨sv, ev, wv, h1, h2, h3, h4⟩ := h
 exact ⟨sv, ev, wv, h1, h2.below b, h3.below b, RdK.below h4 b⟩
theorem formMend {v : Value} {m : Mn} {W : World} (h : RdMend v m W) : ∃ sa sc ea ec wa wc, v = .agg #[.int .i64 m.bye, .int .i64 m.epoch, .slice sa m.sealed.length sc, .slice ea m.seen.length ec, .bool m.planned, .slice wa m.wrote.length wc] ∧ m.sealed.length ≤ 9223372036854775807 ∧ m.seen.length ≤ 9223372036854775807 ∧ m.wrote.length ≤ 9223372036854775807 := by
 obtain ⟨sv, ev, wv, rfl, h2, h3, h4⟩ := h
 obtain ⟨h0, a, cap, rfl, -, -⟩ := h2
 obtain ⟨ea, ec, rfl, h1⟩ := formEntryS h3
 obtain ⟨wa, wc, rfl, h5⟩ := formK h4
 exact ⟨a, cap, ea, ec, wa, wc, rfl, h0, h1, h5⟩
theorem OwMend.sits {lo hi : Nat} {w : World} {v : Value} {m : Mn} (h : OwMend lo hi v m w) (hf : hi ≤ w.heap.size) : Sits (OwMend lo hi v m) lo hi w := by
 obtain ⟨sv, ev, wv, rs, h1, h2, h3, h4, h5, h6⟩ := h
 have s3 := h3.sits hf
 have s4 := h4.sits hf
 have s5 := h5.sits hf
 exact ⟨hf, fun W hW => ⟨sv, ev, wv, rs, h1, h2, s3.all W hW, s4.all W hW, s5.all W hW, h6⟩⟩
structure Er where
 nodes : List Int
 closed : Bool
 last : Int
structure Rg where
 eras : List Er
 trim : Int
def erCl (p : Nst Er) : List Value := [Sv Er.nodes p, .bool p.m.closed, .int .i64 p.m.last]
theorem erCl_len (p : Nst Er) : (erCl p).length = 3 := rfl
theorem elemR : Elem (α := Nst Er) 156 39 (.agg #[.slice none 0 0, .bool false, .int .i64 0]) 3 40 erCl where
 under := Tryz.underlying39
 info := by kernel_rfl
 zcells := by kernel_rfl
 pos := by decide
 len := erCl_len
 one := fun a u hu => by
  simp only [erCl, List.mem_cons, List.not_mem_nil, or_false] at hu
  rcases hu with rfl | rfl | rfl <;> rfl
def ErAt (w : World) (b o : Nat) (p : Nst Er) : Prop := w.cell? ⟨b, o, none⟩ = some (.slice p.a p.m.nodes.length p.c) ∧ w.cell? ⟨b, o + 1, none⟩ = some (.bool p.m.closed) ∧ w.cell? ⟨b, o + 2, none⟩ = some (.int .i64 p.m.last)
theorem ErAt.below {w w' : World} {b o : Nat} {p : Nst Er} (h : ErAt w b o p) (hb : Below w.heap.size w w') : ErAt w' b o p :=
 ⟨(hb.cell (p := ⟨b, o, none⟩) (dCell_lt h.1)).trans h.1, (hb.cell (p := ⟨b, o + 1, none⟩) (dCell_lt h.2.1)).trans h.2.1, (hb.cell (p := ⟨b, o + 2, none⟩) (dCell_lt h.2.2)).trans h.2.2⟩
theorem Rw.era {w : World} {a : Option Addr} {n cap : Nat} {rs : List (Nst Er)} (h : Rw 3 erCl w (.slice a n cap) rs) {k : Nat} (hk : k < rs.length) : ∃ b off, a = some ⟨b, off, none⟩ ∧ ∀ i (hi : i < rs.length), ErAt w b (off + i * 3) rs[i] := by
 obtain ⟨b, off, e, hc⟩ := h.el hk
 exact ⟨b, off, e, fun i hi => ⟨hc i hi 0 _ rfl, hc i hi 1 _ rfl, hc i hi 2 _ rfl⟩⟩
def sumN (ms : List Er) : Nat := (ms.map fun e => e.nodes.length).sum
theorem sumN_take (ms : List Er) (k : Nat) (h : k < ms.length) : sumN (ms.take (k + 1)) = sumN (ms.take k) + ms[k].nodes.length := by
 unfold sumN
 rw [List.take_succ_eq_append_getElem h, List.map_append, List.sum_append, List.map_cons, List.map_nil, List.sum_cons, List.sum_nil, Nat.add_zero]
theorem sumN_le (ms : List Er) (k : Nat) : sumN (ms.take k) ≤ sumN ms := by
 unfold sumN
 conv => rhs; rw [← List.take_append_drop k ms, List.map_append, List.sum_append]
 exact Nat.le_add_right _ _
theorem sumN_mem {ms : List Er} {k : Nat} (h : k < ms.length) : ms[k].nodes.length ≤ sumN ms := by
 have h1 := sumN_take ms k h
 have h2 := sumN_le ms (k + 1)
 omega
def RdEraS (v : Value) (ms : List Er) (W : World) : Prop := RdK 3 Er.nodes erCl v ms W
def OwEraS (lo hi : Nat) (v : Value) (ms : List Er) (W : World) : Prop := OwK 3 Er.nodes erCl lo hi v ms W
def RdRegister (v : Value) (m : Rg) (W : World) : Prop := ∃ sv, v = .agg #[sv, .int .i64 m.trim] ∧ RdEraS sv m.eras W
def OwRegister (lo hi : Nat) (v : Value) (m : Rg) (W : World) : Prop := ∃ sv, v = .agg #[sv, .int .i64 m.trim] ∧ OwEraS lo hi sv m.eras W
def sizEraS (m : List Er) : Nat := m.length + sumN m
def sizRegister (m : Rg) : Nat := sizEraS m.eras
def cntEraS (m : List Er) : Nat := sumN m + 2 * m.length
def mkEr (k : Nat) (e : Er) : Er := ⟨marksN k e.nodes.length, ((k + e.nodes.length) % 3 == 0), ((k + e.nodes.length + 1 : Nat) : Int)⟩
theorem OwRegister.rd {lo hi : Nat} {v : Value} {m : Rg} {W : World} (h : OwRegister lo hi v m W) : RdRegister v m W := by
 obtain ⟨sv, h1, h2⟩ := h
 exact ⟨sv, h1, OwK.rd h2⟩
theorem RdRegister.below {v : Value} {m : Rg} {W W' : World} (h : RdRegister v m W) (b : Below W.heap.size W W') : RdRegister v m W' := by
 obtain ⟨sv, h1, h2⟩ := h
 exact ⟨sv, h1, RdK.below h2 b⟩
theorem formRegister {v : Value} {m : Rg} {W : World} (h : RdRegister v m W) : ∃ a cap, v = .agg #[.slice a m.eras.length cap, .int .i64 m.trim] ∧ m.eras.length ≤ 9223372036854775807 := by
 obtain ⟨sv, rfl, h⟩ := h
 obtain ⟨a, cap, rfl, h0⟩ := formK h
 exact ⟨a, cap, rfl, h0⟩
theorem OwRegister.sits {lo hi : Nat} {w : World} {v : Value} {m : Rg} (h : OwRegister lo hi v m w) (hf : hi ≤ w.heap.size) : Sits (OwRegister lo hi v m) lo hi w := by
 obtain ⟨sv, h1, h2⟩ := h
 have s2 := OwK.sits h2 hf
 exact ⟨hf, fun W hW => ⟨sv, h1, s2.all W hW⟩⟩
set_option maxHeartbeats 4000000 in
theorem toWord_any (p : Nst Wd) (w : World) (hl : p.m.acks.length ≤ 1048576) (h : Ns w (Sv Wd.acks p) p.m.acks) :
  Calls Tryz.prog 146 #[.agg #[.string p.m.data, .slice p.a p.m.acks.length p.c, .bool p.m.done]] w fun r w' => (∃ qa qc, r = .returned (.agg #[.string p.m.data, .slice qa p.m.acks.length qc, .bool p.m.done]) ∧ OwnN w' w.heap.size (.slice qa p.m.acks.length qc) p.m.acks) ∧ Below w.heap.size w w' := by
 have ba : ∀ (w : World) o, Below w.heap.size w (w.alloc o) := fun w o => (Below.refl _ _).alloc (Nat.le_refl _) o
 have C1 := dH fun W (hb : Below w.heap.size w W) => toIntS_any _ p.m.acks W (by omega) (h.below hb)
 obtain ⟨pa, pc, yd, yn, yb⟩ := p
 unfold Sv at C1
 simp only at *
 clear h
 have X0 := (Bx.new w [.string yd, .slice pa yn.length pc, .bool yb] 177).below (bT (ba _ (.cells #[.string ⟨#[]⟩, .slice none 0 0, .bool false] 184)) (ba _ (.cells #[.string yd, .slice none 0 0, .bool false] 184)))
 have Y0 := (BxZ.new (B := w.heap.size) (w.alloc (.cells #[.string yd, .slice pa yn.length pc, .bool yb] 177)) [.string ⟨#[]⟩, .slice none 0 0, .bool false] 184 (by simp)).below (ba _ (.cells #[.string yd, .slice none 0 0, .bool false] 184))
 have Z0 := BxZ.new (B := w.heap.size) ((w.alloc (.cells #[.string yd, .slice pa yn.length pc, .bool yb] 177)).alloc (.cells #[.string ⟨#[]⟩, .slice none 0 0, .bool false] 184)) [.string yd, .slice none 0 0, .bool false] 184 (by simp <;> omega)
 have B0 := bT (bT (ba w (.cells #[.string yd, .slice pa yn.length pc, .bool yb] 177)) (ba _ (.cells #[.string ⟨#[]⟩, .slice none 0 0, .bool false] 184))) (ba _ (.cells #[.string yd, .slice none 0 0, .bool false] 184))
 have e1 : (w.alloc (.cells #[.string yd, .slice pa yn.length pc, .bool yb] 177)).heap.size = w.heap.size + 1 := by simp
 have e2 : ((w.alloc (.cells #[.string yd, .slice pa yn.length pc, .bool yb] 177)).alloc (.cells #[.string ⟨#[]⟩, .slice none 0 0, .bool false] 184)).heap.size = w.heap.size + 1 + 1 := by simp
 rw [e1] at Y0
 rw [e2] at Z0
 clear e1 e2 hl
 go_enter Tryz.func146, Tryz.ntmps146
 go_wp2_with fail
 generalize ((w.alloc (.cells #[.string yd, .slice pa yn.length pc, .bool yb] 177)).alloc (.cells #[.string ⟨#[]⟩, .slice none 0 0, .bool false] 184)).alloc (.cells #[.string yd, .slice none 0 0, .bool false] 184) = w0 at *
 have hlt := Z0.lt
 refine (dU C1 _ B0).mono ?_
 rintro r w1 ⟨⟨u1, rfl, O1⟩, b1⟩
 have hs1 := b1.size
 obtain ⟨-, a1, c1, rfl, -, -⟩ := O1.bs
 have B1 := bT B0 b1
 have X1 := X0.below b1
 have Y1 := Y0.below b1
 have Z1 := Z0.below b1
 have k2 := X1 2 _ rfl
 obtain ⟨z0, f0⟩ := Z1.2 0 _ rfl
 obtain ⟨z1, f1⟩ := Z1.2 1 _ rfl
 obtain ⟨z2, f2⟩ := Z1.2 2 _ rfl
 obtain ⟨y0, p0⟩ := Y1.2 0 _ rfl
 obtain ⟨y1, p1⟩ := Y1.2 1 _ rfl
 obtain ⟨y2, p2⟩ := Y1.2 2 _ rfl
 have YY := dH (((((Y1.far (b' := w.heap.size + 1 + 1) (o := 1) (by omega) (.slice a1 yn.length c1)).far (b' := w.heap.size + 1 + 1) (o := 2) (by omega) (.bool yb)).put 0 (.string yd)).put 1 (.slice a1 yn.length c1)).put 2 (.bool yb))
 have OO := dH (((((O1.far (b := w.heap.size + 1 + 1) (o := 1) (by omega) (.slice a1 yn.length c1)).far (b := w.heap.size + 1 + 1) (o := 2) (by omega) (.bool yb)).far (b := w.heap.size + 1) (o := 0) (by omega) (.string yd)).far (b := w.heap.size + 1) (o := 1) (by omega) (.slice a1 yn.length c1)).far (b := w.heap.size + 1) (o := 2) (by omega) (.bool yb))
 have BB := dH (((((B1.setCell (p := ⟨w.heap.size + 1 + 1, 1, none⟩) (by simp only; omega) (.slice a1 yn.length c1)).setCell (p := ⟨w.heap.size + 1 + 1, 2, none⟩) (by simp only; omega) (.bool yb)).setCell (p := ⟨w.heap.size + 1, 0, none⟩) (by simp only; omega) (.string yd)).setCell (p := ⟨w.heap.size + 1, 1, none⟩) (by simp only; omega) (.slice a1 yn.length c1)).setCell (p := ⟨w.heap.size + 1, 2, none⟩) (by simp only; omega) (.bool yb))
 have w0le : w.heap.size ≤ w0.heap.size := by omega
 clear X0 Y0 Z0 B0 C1 b1 O1 X1 Y1 Z1 B1
 go_wp2_with fail
 generalize (((((w1.setCell ⟨w.heap.size + 1 + 1, 1, none⟩ (.slice a1 yn.length c1)).setCell ⟨w.heap.size + 1 + 1, 2, none⟩ (.bool yb)).setCell ⟨w.heap.size + 1, 0, none⟩ (.string yd)).setCell ⟨w.heap.size + 1, 1, none⟩ (.slice a1 yn.length c1)).setCell ⟨w.heap.size + 1, 2, none⟩ (.bool yb)) = V at *
 have q0 := ((dU YY).2 0 _ rfl).1
 have q1 := ((dU YY).2 1 _ rfl).1
 have q2 := ((dU YY).2 2 _ rfl).1
 clear z0 z1 z2 f0 f1 f2 y0 y1 y2 p0 p1 p2 k2
 refine bodyPost_ret (v := .agg #[.string yd, .slice a1 yn.length c1, .bool yb]) (by simp [results, Tryz.results146, go_sem, q0, q1, q2]) rfl ⟨⟨_, _, rfl, (dU OO).mono w0le⟩, dU BB⟩
theorem makeW (n : Nat) (h : n ≤ 1073741824) (w : World) : (Instr.makeSlice 114 (.int .i64 (n : Int)) (.int .i64 (n : Int))).run Tryz.prog w = .ok (.slice (some ⟨w.heap.size, 0, none⟩) n n) (w.alloc (.cells (madeCells (Value.agg #[.string ⟨#[]⟩, .slice none 0 0, .bool false]).cells (n * 3)) 184)) := by
 obtain ⟨i0, hi, hz0, hz1, hz2⟩ := info_parts (elemW).info
 have := run_make (P := Tryz.prog) w 114 184 i0 _ Tryz.underlying114 hi hz0 .i64 .i64 (n : Int) (n : Int) (by omega) (by omega) (by rw [hz2]; omega) (by omega)
 rw [hz1] at this
 simpa using this
def zeroWd : Nst Wd := ⟨none, 0, ⟨#[]⟩, [], false⟩
theorem zeroWd_cells : ∀ (j : Nat) (u : Value), (wdCl zeroWd)[j]? = some u → (Value.agg #[.string ⟨#[]⟩, .slice none 0 0, .bool false]).cells[j]? = some u := by
 have e : (Value.agg #[.string ⟨#[]⟩, .slice none 0 0, .bool false]).cells = #[.string ⟨#[]⟩, .slice none 0 0, .bool false] := by kernel_rfl
 intro j u hu
 rw [e]
 have : (wdCl zeroWd) = [.string ⟨#[]⟩, .slice none 0 0, .bool false] := rfl
 rw [this] at hu
 simpa using hu
def CopW (wr : World) (b : Nat) (rs : List (Nst Wd)) (k : Nat) (f : Nat → Nst Wd) : Prop :=
 RowG 3 wdCl wr b 0 rs.length f ∧ (∀ i (h : i < rs.length), i < k → (f i).m = rs[i].m ∧ OwnN wr (b + 1) (Sv Wd.acks (f i)) (f i).m.acks) ∧ ∀ i j, i < k → j < k → i < j → (f i).m.acks = [] ∨ (f j).m.acks = [] ∨ bO (Sv Wd.acks (f i)) ≠ bO (Sv Wd.acks (f j))
theorem CopW.step {wr w2 : World} {b k : Nat} {rs : List (Nst Wd)} {f : Nat → Nst Wd} (h : CopW wr b rs k f) (hk : k < rs.length) (hb2 : Below wr.heap.size wr w2) (hbw : b < wr.heap.size) {qa : Option Addr} {qc : Nat} (ho : OwnN w2 wr.heap.size (.slice qa rs[k].m.acks.length qc) rs[k].m.acks) :
  CopW (((w2.setCell ⟨b, k * 3, none⟩ (.string rs[k].m.data)).setCell ⟨b, k * 3 + 1, none⟩ (.slice qa rs[k].m.acks.length qc)).setCell ⟨b, k * 3 + 2, none⟩ (.bool rs[k].m.done)) b rs (k + 1) (putG f k ⟨qa, qc, rs[k].m⟩) := by
 obtain ⟨h1, h2, h3⟩ := h
 have far : ∀ {base : Nat} {v : Value} {xs : List Int}, OwnN w2 base v xs → b < base → OwnN (((w2.setCell ⟨b, k * 3, none⟩ (.string rs[k].m.data)).setCell ⟨b, k * 3 + 1, none⟩ (.slice qa rs[k].m.acks.length qc)).setCell ⟨b, k * 3 + 2, none⟩ (.bool rs[k].m.done)) base v xs := fun {base v xs} q hb => ((q.far hb _).far hb _).far hb _
 refine ⟨?_, fun i hi hik => ?_, fun i j hi hj hij => ?_⟩
 ·have r1 := (h1.below hb2).put wdCl_len hk 0 (by decide) (.string rs[k].m.data) ⟨(f k).a, (f k).c, ⟨rs[k].m.data, (f k).m.acks, (f k).m.done⟩⟩ rfl
  have r2 := r1.put wdCl_len hk 1 (by decide) (.slice qa rs[k].m.acks.length qc) ⟨qa, qc, ⟨rs[k].m.data, rs[k].m.acks, (f k).m.done⟩⟩ (by rw [putG_same]; rfl)
  have r3 := r2.put wdCl_len hk 2 (by decide) (.bool rs[k].m.done) ⟨qa, qc, rs[k].m⟩ (by rw [putG_same]; rfl)
  simpa [putG_twice] using r3
 ·by_cases e : i = k
  ·subst e
   rw [putG_same]
   exact ⟨rfl, far (ho.mono (by omega)) (by omega)⟩
  ·rw [putG_ne _ _ e]
   have q := h2 i hi (by omega)
   exact ⟨q.1, far (q.2.below hb2) (by omega)⟩
 ·by_cases e : j = k
  ·subst e
   rw [putG_same, putG_ne _ _ (by omega)]
   have q := h2 i (by omega) (by omega)
   rcases q.2.bs.lt with h | h
   ·exact .inl h
   ·rcases ho.ge with h' | h'
    ·exact .inr (.inl h')
    ·right; right
     have e1 : bO (Sv Wd.acks (⟨qa, qc, rs[j].m⟩ : Nst Wd)) = bO (.slice qa rs[j].m.acks.length qc) := rfl
     rw [e1]
     omega
  ·rw [putG_ne _ _ e, putG_ne _ _ (by omega)]
   exact h3 i j (by omega) (by omega) hij
set_option maxHeartbeats 4000000 in
theorem toWordS_own (v : Value) (ms : List Wd) (w : World) (hl : sizWordS ms ≤ 1048576) (hv : RdWordS v ms w) :
  Calls Tryz.prog 103 #[v] w fun r w' => (∃ u, r = .returned u ∧ OwWordS w.heap.size w'.heap.size u ms w') ∧ Below w.heap.size w w' := by
 obtain ⟨rs, rfl, hr, hn⟩ := hv
 have hlen : rs.length ≤ 1048576 := by unfold sizWordS at hl; rw [List.length_map] at hl; omega
 have HS : Hid (∀ k (hk : k < rs.length), rs[k].m.acks.length ≤ 1048576) := fun k hk => by
  have h1 := sumW_mem (ms := rs.map Nst.m) (k := k) (by simpa using hk)
  rw [List.getElem_map] at h1
  unfold sizWordS at hl
  omega
 have HV := dH fun W (hb : Below w.heap.size w W) => hr.below hb
 have HN := dH fun W (hb : Below w.heap.size w W) k (hk : k < rs.length) => (hn _ (List.getElem_mem hk)).below hb
 obtain ⟨h0, a, cap, rfl, -, -⟩ := hr
 have hmk := makeW rs.length (by omega)
 clear hn hl
 go_enter Tryz.func103, Tryz.ntmps103
 go_wp2
 go_loopw [4] (fun x wr => ∃ (k : Nat) (f : Nat → Nst Wd), x = .int .i64 (k : Int) ∧ k ≤ rs.length ∧ Hid (CopW wr w.heap.size rs k f) ∧ w.heap.size < wr.heap.size ∧ Below w.heap.size w wr) (fun x _ => rs.length - (intOf x).toNat)
 case atStart => exact ⟨0, fun _ => zeroWd, rfl, Nat.zero_le _, ⟨RowG.made w _ rs.length 184 zeroWd rfl zeroWd_cells, fun i h h' => by omega, fun i j h => by omega⟩, by simp, (Below.refl _ _).alloc (Nat.le_refl _) _⟩
 case round =>
  obtain ⟨k, f, rfl, hk, hz, hsz, hb⟩ := hrel
  by_cases hlt : (k : Int) < (rs.length : Int)
  ·have hkl : k < rs.length := by omega
   obtain ⟨b, off, rfl, hc⟩ := (dU HV wr hb).word hkl
   obtain ⟨c0, c1, c2⟩ := hc k hkl
   have CE := dH fun W (hB : Below wr.heap.size wr W) => toWord_any rs[k] W (dU HS k hkl) (dU HN W (bT hb hB) k hkl)
   have hin : Hid (∀ (w2 : World) (qa : Option Addr) (qc : Nat), Below wr.heap.size wr w2 → OwnN w2 wr.heap.size (.slice qa rs[k].m.acks.length qc) rs[k].m.acks → CopW (((w2.setCell ⟨w.heap.size, k * 3, none⟩ (.string rs[k].m.data)).setCell ⟨w.heap.size, k * 3 + 1, none⟩ (.slice qa rs[k].m.acks.length qc)).setCell ⟨w.heap.size, k * 3 + 2, none⟩ (.bool rs[k].m.done)) w.heap.size rs (k + 1) (putG f k ⟨qa, qc, rs[k].m⟩)) := fun w2 qa qc hB ho => (dU hz).step hkl hB hsz ho
   have hrow : Hid (∀ W, Below wr.heap.size wr W → RowG 3 wdCl W w.heap.size 0 rs.length f) := fun W hB => (dU hz).1.below hB
   generalize rs[k] = y at *
   obtain ⟨ya, yc, yd, yn, yb⟩ := y
   simp only at *
   clear hc hz
   go_wp2_with fail
   refine (dU CE _ (Below.refl _ _)).mono ?_
   rintro r w2 ⟨⟨qa, qc, rfl, ho⟩, b2⟩
   have Z2 := dU hrow w2 b2
   obtain ⟨z0, f0⟩ := Z2 k hkl 0 _ rfl
   obtain ⟨z1, f1⟩ := Z2 k hkl 1 _ rfl
   obtain ⟨z2, f2⟩ := Z2 k hkl 2 _ rfl
   have Z3 := dH (dU hin w2 qa qc b2 ho)
   simp only [Nat.zero_add, Nat.add_zero] at z0 z1 z2 f0 f1 f2
   have hb2 := bT hb b2
   have hb3 := dH (((hb2.setCell (p := ⟨w.heap.size, k * 3, none⟩) (Nat.le_refl _) (.string yd)).setCell (p := ⟨w.heap.size, k * 3 + 1, none⟩) (Nat.le_refl _) (.slice qa yn.length qc)).setCell (p := ⟨w.heap.size, k * 3 + 2, none⟩) (Nat.le_refl _) (.bool yb))
   have hs2 : w.heap.size < (((w2.setCell ⟨w.heap.size, k * 3, none⟩ (.string yd)).setCell ⟨w.heap.size, k * 3 + 1, none⟩ (.slice qa yn.length qc)).setCell ⟨w.heap.size, k * 3 + 2, none⟩ (.bool yb)).heap.size := by simpa using Nat.lt_of_lt_of_le hsz b2.size
   clear CE b2 c0 c1 c2 hb hrow Z2 hb2 hin ho
   go_wp2
   go_roundw
   case rel => exact ⟨k + 1, _, by go_num, by omega, Z3, hs2, dU hb3⟩
   case measure => simp [intOf]; omega
  ·have O : Hid (OwWordS w.heap.size wr.heap.size (.slice (some ⟨w.heap.size, 0, none⟩) rs.length rs.length) (rs.map Nst.m) wr) := by
    obtain ⟨h1, h2, h3⟩ := dU hz
    have q := OwK.build (sub := Wd.acks) (lo := w.heap.size) (hi := wr.heap.size) (cap := rs.length) h1 (Nat.le_refl _) (.inr hsz) (by omega) (fun i hi => by
     have q := (h2 i hi (by omega)).2
     exact ⟨q.mono (by omega), q.bs.lt⟩) (fun i j hi hj hij => by
     rcases Nat.lt_or_gt_of_ne hij with h | h
     ·exact h3 i j (by omega) (by omega) h
     ·rcases h3 j i (by omega) (by omega) h with h | h | h
      ·exact .inr (.inl h)
      ·exact .inl h
      ·exact .inr (.inr (Ne.symm h))) (fun i hi => by
     rcases (h2 i hi (by omega)).2.ge with h | h
     ·exact .inl h
     ·exact .inr (by omega))
    have hm : ((List.range rs.length).map fun i => (f i).m) = rs.map Nst.m := range_map_m (ms := rs.map Nst.m) (by simp) (fun i hi => by
     have hi' : i < rs.length := by simpa using hi
     rw [List.getElem_map]
     exact (h2 i hi' (by omega)).1)
    rw [hm] at q
    exact q
   clear hz HV HN HS
   go_wp2
   go_ret
   exact ⟨⟨_, rfl, dU O⟩, hb⟩
set_option maxHeartbeats 4000000 in
theorem toWriter_ (v : Value) (m : Wt) (w : World) (hl : sizWriter m ≤ 1048576) (h : RdWriter v m w) :
  Calls Tryz.prog 68 #[v] w fun e w' => ∃ u, e = .returned u ∧ Sits (OwWriter w.heap.size w'.heap.size u m) w.heap.size w'.heap.size w' ∧ Below w.heap.size w w' := by
 have ba : ∀ (w : World) o, Below w.heap.size w (w.alloc o) := fun w o => (Below.refl _ _).alloc (Nat.le_refl _) o
 obtain ⟨sv, rfl, h⟩ := h
 have C1 := dH fun W (hb : Below w.heap.size w W) => toWordS_own sv m.words W hl (RdK.below h hb)
 obtain ⟨pa, pc, rfl, -⟩ := formK h
 have EX : Hid (∀ (W : World) (u : Value), OwWordS w.heap.size W.heap.size u m.words W → Sits (OwWriter w.heap.size W.heap.size (.agg #[.int .i64 m.epoch, u]) m) w.heap.size W.heap.size W) := fun W u o => OwWriter.sits ⟨u, rfl, o⟩ (Nat.le_refl _)
 generalize m.epoch = yl at *
 generalize m.words = ms at *
 have X0 := (Bx.new w [.int .i64 yl, .slice pa ms.length pc] 97).below (bT (ba _ (.cells #[.int .i64 0, .slice none 0 0] 116)) (ba _ (.cells #[.int .i64 yl, .slice none 0 0] 116)))
 have Y0 := (BxZ.new (B := w.heap.size) (w.alloc (.cells #[.int .i64 yl, .slice pa ms.length pc] 97)) [.int .i64 0, .slice none 0 0] 116 (by simp)).below (ba _ (.cells #[.int .i64 yl, .slice none 0 0] 116))
 have Z0 := BxZ.new (B := w.heap.size) ((w.alloc (.cells #[.int .i64 yl, .slice pa ms.length pc] 97)).alloc (.cells #[.int .i64 0, .slice none 0 0] 116)) [.int .i64 yl, .slice none 0 0] 116 (by simp <;> omega)
 have B0 := bT (bT (ba w (.cells #[.int .i64 yl, .slice pa ms.length pc] 97)) (ba _ (.cells #[.int .i64 0, .slice none 0 0] 116))) (ba _ (.cells #[.int .i64 yl, .slice none 0 0] 116))
 have e1 : (w.alloc (.cells #[.int .i64 yl, .slice pa ms.length pc] 97)).heap.size = w.heap.size + 1 := by simp
 have e2 : ((w.alloc (.cells #[.int .i64 yl, .slice pa ms.length pc] 97)).alloc (.cells #[.int .i64 0, .slice none 0 0] 116)).heap.size = w.heap.size + 1 + 1 := by simp
 rw [e1] at Y0
 rw [e2] at Z0
 clear e1 e2 h hl
 go_enter Tryz.func68, Tryz.ntmps68
 go_wp2_with fail
 generalize ((w.alloc (.cells #[.int .i64 yl, .slice pa ms.length pc] 97)).alloc (.cells #[.int .i64 0, .slice none 0 0] 116)).alloc (.cells #[.int .i64 yl, .slice none 0 0] 116) = w0 at *
 have hlt := Z0.lt
 refine (dU C1 _ B0).mono ?_
 rintro r w1 ⟨⟨u1, rfl, O1⟩, b1⟩
 have hs1 := b1.size
 obtain ⟨a1, c1, rfl, -⟩ := formK (OwK.rd O1)
 have B1 := bT B0 b1
 have Y1 := Y0.below b1
 have Z1 := Z0.below b1
 obtain ⟨z0, f0⟩ := Z1.2 0 _ rfl
 obtain ⟨z1, f1⟩ := Z1.2 1 _ rfl
 obtain ⟨y0, p0⟩ := Y1.2 0 _ rfl
 obtain ⟨y1, p1⟩ := Y1.2 1 _ rfl
 have YY := dH (((Y1.far (b' := w.heap.size + 1 + 1) (o := 1) (by omega) (.slice a1 ms.length c1)).put 0 (.int .i64 yl)).put 1 (.slice a1 ms.length c1))
 have OO : Hid (OwWordS w0.heap.size w1.heap.size (.slice a1 ms.length c1) ms (((w1.setCell ⟨w.heap.size + 1 + 1, 1, none⟩ (.slice a1 ms.length c1)).setCell ⟨w.heap.size + 1, 0, none⟩ (.int .i64 yl)).setCell ⟨w.heap.size + 1, 1, none⟩ (.slice a1 ms.length c1))) := OwK.far (OwK.far (OwK.far O1 (b := w.heap.size + 1 + 1) (o := 1) (by omega) (.slice a1 ms.length c1)) (b := w.heap.size + 1) (o := 0) (by omega) (.int .i64 yl)) (b := w.heap.size + 1) (o := 1) (by omega) (.slice a1 ms.length c1)
 have BB := dH (((B1.setCell (p := ⟨w.heap.size + 1 + 1, 1, none⟩) (by simp only; omega) (.slice a1 ms.length c1)).setCell (p := ⟨w.heap.size + 1, 0, none⟩) (by simp only; omega) (.int .i64 yl)).setCell (p := ⟨w.heap.size + 1, 1, none⟩) (by simp only; omega) (.slice a1 ms.length c1))
 have w0le : w.heap.size ≤ w0.heap.size := by omega
 have hV : w1.heap.size = (((w1.setCell ⟨w.heap.size + 1 + 1, 1, none⟩ (.slice a1 ms.length c1)).setCell ⟨w.heap.size + 1, 0, none⟩ (.int .i64 yl)).setCell ⟨w.heap.size + 1, 1, none⟩ (.slice a1 ms.length c1)).heap.size := by simp
 clear X0 Y0 Z0 B0 C1 b1 O1 Y1 Z1 B1
 go_wp2_with fail
 generalize (((w1.setCell ⟨w.heap.size + 1 + 1, 1, none⟩ (.slice a1 ms.length c1)).setCell ⟨w.heap.size + 1, 0, none⟩ (.int .i64 yl)).setCell ⟨w.heap.size + 1, 1, none⟩ (.slice a1 ms.length c1)) = V at *
 have q0 := ((dU YY).2 0 _ rfl).1
 have q1 := ((dU YY).2 1 _ rfl).1
 clear z0 z1 f0 f1 y0 y1 p0 p1
 refine bodyPost_ret (v := .agg #[.int .i64 yl, .slice a1 ms.length c1]) (by simp [results, Tryz.results68, go_sem, q0, q1]) rfl ⟨_, rfl, dU EX V _ ((dU OO).wide w0le (by omega)), dU BB⟩
variable {H : Type} {enc : TypeId × Value → H} {W : World} {r : Reach} {b0 base : Nat} {held : Bool} {v : Value} {d : DataW H} {p : List MemPlace}
def fitEr (e : Er) : Prop := allInt e.nodes ∧ -9223372036854775808 ≤ e.last ∧ e.last ≤ 9223372036854775807
def okRegister (m : Rg) : Prop := (∀ e ∈ m.eras, fitEr e) ∧ -9223372036854775808 ≤ m.trim ∧ m.trim ≤ 9223372036854775807
theorem era_cells {T : TypeId} {n : Nat} {cs : List Value} {x : DataW H × List MemPlace} {f0 f1 f2 : Field} (hu : Tryz.prog.underlying T = some (.struct #[f0, f1, f2])) (hC : Tryz.prog.cellsOf T = 3)
  (q0 : f0.type = 22 ∧ f0.offset = 0) (q1 : f1.type = 4 ∧ f1.offset = 1) (q2 : f2.type = 3 ∧ f2.offset = 2)
  (h : DataW.trod enc Tryz.prog W base (fun _ => true) held n T cs = some x) : ∃ e : Nst Er, cs = erCl e ∧ Ns W (Sv Er.nodes e) e.m.nodes ∧ fitEr e.m := by
 obtain ⟨y0, y1, y2, n', -, hl, h0, h1, h2⟩ := Go.Deep.trod_struct3 hu h
 rw [hC] at hl
 match cs, hl with
 | [c0, c1, c2], _ =>
  rw [q0.1, q0.2, show Tryz.prog.cellsOf 22 = 1 from by kernel_rfl] at h0
  rw [q1.1, q1.2, show Tryz.prog.cellsOf 4 = 1 from by kernel_rfl] at h1
  rw [q2.1, q2.2, show Tryz.prog.cellsOf 3 = 1 from by kernel_rfl] at h2
  obtain ⟨sv, bs, e0, k1, k2⟩ := ints_read h0
  obtain ⟨b1, e1, -⟩ := DataW.trod_bool Tryz.underlying4 h1
  obtain ⟨n2, e2, -, w2⟩ := DataW.trod_int Tryz.underlying3 h2
  simp at e0 e1 e2
  subst e0 e1 e2
  have k1' := k1
  obtain ⟨-, a, c, rfl, -, -⟩ := k1'
  exact ⟨⟨a, c, bs, b1, n2⟩, rfl, k1, k2, (bounds_i64 w2).1, (bounds_i64 w2).2⟩
theorem eras_read {fuel : Nat} {cs : List Value} {x : DataW H × List MemPlace} (h : DataW.trod enc Tryz.prog W base (fun _ => true) held fuel 26 cs = some x) : ∃ sv ms, cs = [sv] ∧ RdEraS sv ms W ∧ ∀ e ∈ ms, fitEr e := by
 obtain ⟨sv, rs, e, h1, h2⟩ := rows_read (sz := 3) (cl := erCl) (good := fun e => Ns W (Sv Er.nodes e) e.m.nodes ∧ fitEr e.m) Tryz.underlying26 (by kernel_rfl) (by decide) erCl_len (fun n cs x hx => era_cells Tryz.underlying141 (by kernel_rfl) ⟨rfl, rfl⟩ ⟨rfl, rfl⟩ ⟨rfl, rfl⟩ hx) h
 refine ⟨sv, rs.map Nst.m, e, ⟨rs, rfl, h1, fun p hp => (h2 p hp).1⟩, fun e he => ?_⟩
 obtain ⟨p, hp, rfl⟩ := List.mem_map.1 he
 exact (h2 p hp).2
theorem taOpen_done (w : World) : (Instr.typeAssert (.iface 262 (.agg #[])) 20 257 true).run Tryz.prog w = .ok (.tuple #[.agg #[.pointer none], .bool false]) w := by kernel_rfl
theorem taOpen_yes (v : Value) (w : World) : (Instr.typeAssert (.iface 257 v) 20 257 true).run Tryz.prog w = .ok (.tuple #[v, .bool true]) w := by kernel_rfl
set_option maxHeartbeats 2000000 in
theorem winAt_done (b o b' off n cap k : Nat) (w : World) (hc : w.cell? ⟨b, o + 2, none⟩ = some (.slice (some ⟨b', off, none⟩) n cap)) (hk : k < n) (hn : n ≤ 9223372036854775807) (hd : w.cell? ⟨b', off + k * 3 + 2, none⟩ = some (.bool true)) :
  Calls Tryz.prog 254 #[.pointer (some ⟨b, o, none⟩), .int .i64 ((k : Int) + 1)] w fun e w' => e = .returned (.iface 262 (.agg #[])) ∧ w' = w := by
 have h1 : ¬ ((k : Int) + 1 < 1) := by omega
 have h2 : ¬ ((n : Int) < (k : Int) + 1) := by omega
 have h3 : (k : Int) + 1 - 1 = (k : Int) := by omega
 have h4 : (k : Int) < (n : Int) := by omega
 go_enter Tryz.func254, Tryz.ntmps254
 go_wp2
 go_ret
 exact ⟨rfl, rfl⟩
set_option maxHeartbeats 2000000 in
theorem winAt_open (b o b' off n cap k : Nat) (w : World) (hc : w.cell? ⟨b, o + 2, none⟩ = some (.slice (some ⟨b', off, none⟩) n cap)) (hk : k < n) (hn : n ≤ 9223372036854775807) (hd : w.cell? ⟨b', off + k * 3 + 2, none⟩ = some (.bool false)) :
  Calls Tryz.prog 254 #[.pointer (some ⟨b, o, none⟩), .int .i64 ((k : Int) + 1)] w fun e w' => e = .returned (.iface 257 (.agg #[.pointer (some ⟨b', off + k * 3, none⟩)])) ∧ w' = w := by
 have h1 : ¬ ((k : Int) + 1 < 1) := by omega
 have h2 : ¬ ((n : Int) < (k : Int) + 1) := by omega
 have h3 : (k : Int) + 1 - 1 = (k : Int) := by omega
 have h4 : (k : Int) < (n : Int) := by omega
 go_enter Tryz.func254, Tryz.ntmps254
 go_wp2
 go_ret
 exact ⟨rfl, rfl⟩
theorem writingOf_any (ca : Option Addr) (cn cc : Nat) (cop e : Int) (a : Option Addr) (n cap : Nat) (w : World) :
  Calls Tryz.prog 205 #[.agg #[.slice ca cn cc, .int .i64 cop], .agg #[.int .i64 e, .slice a n cap]] w fun r w' => (∃ b, r = .returned (.pointer (some ⟨b, 0, none⟩)) ∧ BxZ w' w.heap.size b [.int .i64 e, .slice ca cn cc, .int .i64 cop, .slice a n cap]) ∧ Below w.heap.size w w' := by
 have ba : ∀ (w : World) o, Below w.heap.size w (w.alloc o) := fun w o => (Below.refl _ _).alloc (Nat.le_refl _) o
 go_enter Tryz.func205, Tryz.ntmps205
 go_wp2
 go_ret
 refine ⟨⟨_, rfl, ?_⟩, bT (bT (ba w _) (ba _ _)) (ba _ _)⟩
 have q := BxZ.new (B := w.heap.size) ((w.alloc (.cells #[.slice ca cn cc, .int .i64 cop] 37)).alloc (.cells #[.int .i64 e, .slice a n cap] 116)) [.int .i64 e, .slice ca cn cc, .int .i64 cop, .slice a n cap] 242 (by simp <;> omega)
 simpa using q
variable {H : Type} {enc : TypeId × Value → H} {W : World} {r : Reach} {b0 base : Nat} {held : Bool} {v : Value} {d : DataW H} {p : List MemPlace}
def okMend (m : Mn) : Prop := (-9223372036854775808 ≤ m.bye ∧ m.bye ≤ 9223372036854775807) ∧ (-9223372036854775808 ≤ m.epoch ∧ m.epoch ≤ 9223372036854775807) ∧ allInt m.sealed ∧ fitE m.seen ∧ ∀ l ∈ m.wrote, allInt l
theorem txtM_of {m : Mn} (h : okMend m) : txtE m.seen := fun e he => (h.2.2.2.1 e he).2.2.2.2
theorem lists_read {fuel : Nat} {cs : List Value} {x : DataW H × List MemPlace} (h : DataW.trod enc Tryz.prog W base (fun _ => true) held fuel 99 cs = some x) : ∃ sv ms, cs = [sv] ∧ RdIntSS sv ms W ∧ ∀ l ∈ ms, allInt l := by
 obtain ⟨sv, rs, e, h1, h2⟩ := rows_read (sz := 1) (cl := lsCl) (good := fun e => Ns W (Sv idL e) e.m ∧ allInt e.m) Tryz.underlying99 (by kernel_rfl) (by decide) lsCl_len (fun n cs x hx => by
  obtain ⟨sv, bs, e1, k1, k2⟩ := ints_read hx
  have k1' := k1
  obtain ⟨-, a, c, rfl, -, -⟩ := k1'
  exact ⟨⟨a, c, bs⟩, e1, k1, k2⟩) h
 refine ⟨sv, rs.map Nst.m, e, ⟨rs, rfl, h1, fun p hp => (h2 p hp).1⟩, fun e he => ?_⟩
 obtain ⟨p, hp, rfl⟩ := List.mem_map.1 he
 exact (h2 p hp).2
variable {H : Type} {enc : TypeId × Value → H} {W : World} {r : Reach} {b0 base : Nat} {held : Bool} {v : Value} {d : DataW H} {p : List MemPlace}
def fitWd (e : Wd) : Prop := allInt e.acks ∧ e.data.size ≤ 9223372036854775807
def okWriter (m : Wt) : Prop := (∀ e ∈ m.words, fitWd e) ∧ -9223372036854775808 ≤ m.epoch ∧ m.epoch ≤ 9223372036854775807
theorem txtW_of {m : Wt} (h : okWriter m) : txtW m.words := fun e he => (h.1 e he).2
theorem word_cells {T : TypeId} {n : Nat} {cs : List Value} {x : DataW H × List MemPlace} {f0 f1 f2 : Field} (hu : Tryz.prog.underlying T = some (.struct #[f0, f1, f2])) (hC : Tryz.prog.cellsOf T = 3)
  (q0 : f0.type = 9 ∧ f0.offset = 0) (q1 : f1.type = 22 ∧ f1.offset = 1) (q2 : f2.type = 4 ∧ f2.offset = 2)
  (h : DataW.trod enc Tryz.prog W base (fun _ => true) held n T cs = some x) : ∃ e : Nst Wd, cs = wdCl e ∧ Ns W (Sv Wd.acks e) e.m.acks ∧ fitWd e.m := by
 obtain ⟨y0, y1, y2, n', -, hl, h0, h1, h2⟩ := Go.Deep.trod_struct3 hu h
 rw [hC] at hl
 match cs, hl with
 | [c0, c1, c2], _ =>
  rw [q0.1, q0.2, show Tryz.prog.cellsOf 9 = 1 from by kernel_rfl] at h0
  rw [q1.1, q1.2, show Tryz.prog.cellsOf 22 = 1 from by kernel_rfl] at h1
  rw [q2.1, q2.2, show Tryz.prog.cellsOf 4 = 1 from by kernel_rfl] at h2
  obtain ⟨s0, e0, -, w0⟩ := DataW.trod_string Tryz.underlying9 h0
  obtain ⟨sv, bs, e1, k1, k2⟩ := ints_read h1
  obtain ⟨b2, e2, -⟩ := DataW.trod_bool Tryz.underlying4 h2
  simp at e0 e1 e2
  subst e0 e1 e2
  have k1' := k1
  obtain ⟨-, a, c, rfl, -, -⟩ := k1'
  exact ⟨⟨a, c, s0, bs, b2⟩, rfl, k1, k2, w0⟩
theorem words_read {fuel : Nat} {cs : List Value} {x : DataW H × List MemPlace} (h : DataW.trod enc Tryz.prog W base (fun _ => true) held fuel 95 cs = some x) : ∃ sv ms, cs = [sv] ∧ RdWordS sv ms W ∧ ∀ e ∈ ms, fitWd e := by
 obtain ⟨sv, rs, e, h1, h2⟩ := rows_read (sz := 3) (cl := wdCl) (good := fun e => Ns W (Sv Wd.acks e) e.m.acks ∧ fitWd e.m) Tryz.underlying95 (by kernel_rfl) (by decide) wdCl_len (fun n cs x hx => word_cells Tryz.underlying177 (by kernel_rfl) ⟨rfl, rfl⟩ ⟨rfl, rfl⟩ ⟨rfl, rfl⟩ hx) h
 refine ⟨sv, rs.map Nst.m, e, ⟨rs, rfl, h1, fun p hp => (h2 p hp).1⟩, fun e he => ?_⟩
 obtain ⟨p, hp, rfl⟩ := List.mem_map.1 he
 exact (h2 p hp).2
end Go.Proofs.YtekgkjomdpjkbaaGreat
