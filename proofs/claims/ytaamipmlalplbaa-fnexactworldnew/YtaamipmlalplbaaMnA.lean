/- Mends as models; rows of lists of nodes. -/
import Derived.Test.YtaamipmlalplbaaGaB
import Derived.Test.YtaamipmlalplbaaGaD
import Derived.Test.YtaamipmlalplbaaGbG
namespace Go.Proofs.Ytaamipmlalplbaa
open Go.ChangeShapes Go.WideShapes Go.ChangeAt Go.RowKit
set_option linter.unusedVariables false
set_option linter.unusedSimpArgs false

/-- A mend. -/
structure Mn where
  bye : Int
  epoch : Int
  sealed : List Int
  seen : List Ent
  planned : Bool
  wrote : List (List Int)
/-- A list is its own list. -/
def idL (x : List Int) : List Int := x
/-- The one cell of a list in a row of lists. -/
def lsCl (p : Nst (List Int)) : List Value := [.slice p.a p.m.length p.c]
theorem sv_id (p : Nst (List Int)) : Sv idL p = .slice p.a p.m.length p.c := rfl
theorem lsCl_len (p : Nst (List Int)) : (lsCl p).length = 1 := rfl
theorem elemL : Elem (α := Nst (List Int)) 22 76 (.slice none 0 0) 1 24 lsCl where
  under := Try.underlying76
  info := by kernel_rfl
  zcells := by kernel_rfl
  pos := by decide
  len := lsCl_len
  one := fun a u hu => by
    simp only [lsCl, List.mem_cons, List.not_mem_nil, or_false] at hu
    rcases hu with rfl
    rfl
theorem Rw.ls {w : World} {a : Option Addr} {n cap : Nat} {rs : List (Nst (List Int))} (h : Rw 1 lsCl w (.slice a n cap) rs) {k : Nat} (hk : k < rs.length) : ∃ b off, a = some ⟨b, off, none⟩ ∧ ∀ i (hi : i < rs.length), w.cell? ⟨b, off + i, none⟩ = some (.slice rs[i].a rs[i].m.length rs[i].c) := by
  obtain ⟨b, off, e, hc⟩ := h.el hk
  exact ⟨b, off, e, fun i hi => by simpa using hc i hi 0 _ rfl⟩
/-- How many nodes lists have. -/
def sumL (ms : List (List Int)) : Nat := (ms.map List.length).sum
theorem sumL_take (ms : List (List Int)) (k : Nat) (h : k < ms.length) : sumL (ms.take (k + 1)) = sumL (ms.take k) + ms[k].length := by
  unfold sumL
  rw [List.take_succ_eq_append_getElem h, List.map_append, List.sum_append, List.map_cons, List.map_nil, List.sum_cons, List.sum_nil, Nat.add_zero]
theorem sumL_le (ms : List (List Int)) (k : Nat) : sumL (ms.take k) ≤ sumL ms := by
  unfold sumL
  conv => rhs; rw [← List.take_append_drop k ms, List.map_append, List.sum_append]
  exact Nat.le_add_right _ _
theorem sumL_mem {ms : List (List Int)} {k : Nat} (h : k < ms.length) : ms[k].length ≤ sumL ms := by
  have h1 := sumL_take ms k h
  have h2 := sumL_le ms (k + 1)
  omega
def RdIntSS (v : Value) (ms : List (List Int)) (W : World) : Prop := RdK 1 idL lsCl v ms W
/-- Lists that may be written, in different blocks. -/
def OwL (lo hi : Nat) (v : Value) (rs : List (Nst (List Int))) (W : World) : Prop :=
  OwnRw 1 lsCl W lo v rs ∧ (rs = [] ∨ blockOf v < hi) ∧ (∀ p ∈ rs, OwN lo hi (Sv idL p) p.m W) ∧ Apart idL v rs
/-- The block b is none of theirs. -/
def Off (b : Nat) (v : Value) (rs : List (Nst (List Int))) : Prop := (rs = [] ∨ blockOf v ≠ b) ∧ ∀ p ∈ rs, p.m = [] ∨ blockOf (Sv idL p) ≠ b
theorem OwL.owk {lo hi : Nat} {v : Value} {rs : List (Nst (List Int))} {W : World} (h : OwL lo hi v rs W) : OwK 1 idL lsCl lo hi v (rs.map Nst.m) W := ⟨rs, rfl, h.1, h.2.1, h.2.2.1, h.2.2.2⟩
theorem OwL.rd {lo hi : Nat} {v : Value} {rs : List (Nst (List Int))} {W : World} (h : OwL lo hi v rs W) : RdIntSS v (rs.map Nst.m) W := OwK.rd h.owk
theorem OwL.sits {lo hi : Nat} {v : Value} {rs : List (Nst (List Int))} {W : World} (h : OwL lo hi v rs W) (hf : hi ≤ W.heap.size) : Sits (OwL lo hi v rs) lo hi W := by
  obtain ⟨h2, h3, h4, h5⟩ := h
  refine ⟨hf, fun w' hW => ⟨h2.sitsR h3 hW, h3, fun p hp => ((h4 p hp).sits hf).all w' hW, h5⟩⟩
theorem OwL.wide {lo hi lo' hi' : Nat} {v : Value} {rs : List (Nst (List Int))} {W : World} (h : OwL lo hi v rs W) (h1 : lo' ≤ lo) (h2 : hi ≤ hi') : OwL lo' hi' v rs W := by
  obtain ⟨e2, e3, e4, e5⟩ := h
  refine ⟨e2.mono h1, ?_, fun p hp => (e4 p hp).wide h1 h2, e5⟩
  rcases e3 with h | h
  · exact .inl h
  · exact .inr (by omega)
theorem OwL.far {lo hi b o : Nat} {v : Value} {rs : List (Nst (List Int))} {w : World} (h : OwL lo hi v rs w) (hb : b < lo) (u : Value) : OwL lo hi v rs (w.setCell ⟨b, o, none⟩ u) := by
  obtain ⟨e2, e3, e4, e5⟩ := h
  have hW : ∀ k, lo ≤ k → k < hi → (w.setCell ⟨b, o, none⟩ u).heap[k]? = w.heap[k]? := fun k h1 h2 => Below.heap_setCell _ _ _ k (by simp only; omega)
  exact ⟨e2.sitsR e3 hW, e3, fun p hp => (e4 p hp).putW (by
    rcases (e4 p hp).1.ge with h | h
    · exact .inl h
    · exact .inr (by omega)) u, e5⟩
/-- Elsewhere than what is written. -/
theorem OwL.keep {lo hi : Nat} {v : Value} {rs : List (Nst (List Int))} {w w' : World} (h : OwL lo hi v rs w) (hb : ∀ k, k < w.heap.size → (¬ Off k v rs) → w'.heap[k]? = w.heap[k]?) : OwL lo hi v rs w' := by
  obtain ⟨e2, e3, e4, e5⟩ := h
  refine ⟨?_, e3, fun p hp => ?_, e5⟩
  · have hlt := e2.ltG lsCl_len (by decide)
    obtain ⟨h0, a, cap, rfl, hcap, h⟩ := e2
    refine ⟨h0, a, cap, rfl, hcap, ?_⟩
    rcases h with h | ⟨b, off, rfl, hb', hc⟩
    · exact .inl h
    · rcases hlt with h | hlt
      · exact .inl h
      · by_cases hr : rs = []
        · exact .inl hr
        · have e := hb b hlt (fun q => (q.1.resolve_left hr) rfl)
          exact .inr ⟨b, off, rfl, hb', fun i hi j u hu => ⟨(World.cell?_of_block (a := ⟨b, off + i * 1 + j, none⟩) e).trans (hc i hi j u hu).1, (World.frozen?_of_block (a := ⟨b, off + i * 1 + j, none⟩) e).trans (hc i hi j u hu).2⟩⟩
  · obtain ⟨o, hl⟩ := e4 p hp
    refine ⟨?_, hl⟩
    by_cases hm : p.m = []
    · obtain ⟨h0, a, cap, e, hcap, h⟩ := o
      exact ⟨h0, a, cap, e, hcap, .inl hm⟩
    · have hlt := o.bs.lt.resolve_left hm
      have e := hb _ hlt (fun q => ((q.2 p hp).resolve_left hm) rfl)
      have n1 : OwN (blockOf (Sv idL p)) (blockOf (Sv idL p) + 1) (Sv idL p) p.m w := (OwN.narrow (lo := lo) (hi := w.heap.size) ⟨o, .inr hlt⟩ hm).1
      have n2 := (n1.sits hlt).all w' (fun k h1 h2 => by
        have : k = blockOf (Sv idL p) := by omega
        subst this
        exact e)
      exact n2.1.mono (o.ge.resolve_left hm)
def RdMend (v : Value) (m : Mn) (W : World) : Prop := ∃ sv ev wv, v = .agg #[.int .i64 m.bye, .int .i64 m.epoch, sv, ev, .bool m.planned, wv] ∧ Ns W sv m.sealed ∧ RdEntryS ev m.seen W ∧ RdIntSS wv m.wrote W
def OwMend (lo hi : Nat) (v : Value) (m : Mn) (W : World) : Prop := ∃ sv ev wv rs, v = .agg #[.int .i64 m.bye, .int .i64 m.epoch, sv, ev, .bool m.planned, wv] ∧ rs.map Nst.m = m.wrote ∧ OwN lo hi sv m.sealed W ∧ OwEntryS lo hi ev m.seen W ∧ OwL lo hi wv rs W ∧ (m.sealed = [] ∨ m.seen = [] ∨ blockOf sv ≠ blockOf ev) ∧ (m.sealed = [] ∨ Off (blockOf sv) wv rs) ∧ (m.seen = [] ∨ Off (blockOf ev) wv rs)
def sizIntSS (m : List (List Int)) : Nat := m.length + sumL m
def sizMend (m : Mn) : Nat := m.sealed.length + (sizEntryS m.seen + sizIntSS m.wrote)
def cntIntSS (m : List (List Int)) : Nat := sumL m
def cntMend (m : Mn) : Nat := m.sealed.length + (cntEntryS m.seen + cntIntSS m.wrote)
def mkIntSS : Nat → List (List Int) → List (List Int)
  | _, [] => []
  | k, e :: l => marksN k e.length :: mkIntSS (k + e.length) l
def mkMend (k : Nat) (m : Mn) : Mn := ⟨m.bye, m.epoch, marksN k m.sealed.length, mkEntryS (k + m.sealed.length) m.seen, m.planned, mkIntSS (k + m.sealed.length + cntEntryS m.seen) m.wrote⟩
theorem mkIntSS_len : ∀ (k : Nat) (m : List (List Int)), (mkIntSS k m).length = m.length
  | _, [] => rfl
  | k, e :: l => by rw [mkIntSS, List.length_cons, List.length_cons, mkIntSS_len]
theorem sumL_cons (e : List Int) (l : List (List Int)) : sumL (e :: l) = e.length + sumL l := by
  simp only [sumL, List.map_cons, List.sum_cons]
theorem mkIntSS_at : ∀ (k : Nat) (m : List (List Int)) (i : Nat) (h : i < m.length) (h' : i < (mkIntSS k m).length), (mkIntSS k m)[i] = marksN (k + sumL (m.take i)) m[i].length
  | _, [], i, h, _ => by simp at h
  | k, e :: l, 0, h, _ => by simp [mkIntSS, sumL]
  | k, e :: l, i + 1, h, h' => by
    have ih := mkIntSS_at (k + e.length) l i (by simpa using h) (by rw [mkIntSS_len]; simpa using h)
    simp only [mkIntSS, List.getElem_cons_succ, List.take_succ_cons, sumL_cons]
    rw [ih]
    congr 1
    omega
theorem OwMend.rd {lo hi : Nat} {v : Value} {m : Mn} {W : World} (h : OwMend lo hi v m W) : RdMend v m W := by
  obtain ⟨sv, ev, wv, rs, h1, h2, h3, h4, h5, -⟩ := h
  exact ⟨sv, ev, wv, h1, h3.rd, h4.rd, by rw [← h2]; exact h5.rd⟩
theorem RdMend.below {v : Value} {m : Mn} {W W' : World} (h : RdMend v m W) (b : Below W.heap.size W W') : RdMend v m W' := by
  obtain ⟨sv, ev, wv, h1, h2, h3, h4⟩ := h
  exact ⟨sv, ev, wv, h1, h2.below b, h3.below b, RdK.below h4 b⟩
theorem formMend {v : Value} {m : Mn} {W : World} (h : RdMend v m W) : ∃ sa sc ea ec wa wc, v = .agg #[.int .i64 m.bye, .int .i64 m.epoch, .slice sa m.sealed.length sc, .slice ea m.seen.length ec, .bool m.planned, .slice wa m.wrote.length wc] ∧ m.sealed.length ≤ 9223372036854775807 ∧ m.seen.length ≤ 9223372036854775807 ∧ m.wrote.length ≤ 9223372036854775807 := by
  obtain ⟨sv, ev, wv, rfl, h2, h3, h4⟩ := h
  obtain ⟨h0, a, cap, rfl, -, -⟩ := h2
  obtain ⟨ea, ec, rfl, h1⟩ := formEntryS h3
  obtain ⟨wa, wc, rfl, h5⟩ := formK h4
  exact ⟨a, cap, ea, ec, wa, wc, rfl, h0, h1, h5⟩
theorem OwMend.sits {lo hi : Nat} {w : World} {v : Value} {m : Mn} (h : OwMend lo hi v m w) (hf : hi ≤ w.heap.size) : Sits (OwMend lo hi v m) lo hi w := by
  obtain ⟨sv, ev, wv, rs, h1, h2, h3, h4, h5, h6⟩ := h
  have s3 := h3.sits hf
  have s4 := h4.sits hf
  have s5 := h5.sits hf
  exact ⟨hf, fun W hW => ⟨sv, ev, wv, rs, h1, h2, s3.all W hW, s4.all W hW, s5.all W hW, h6⟩⟩
theorem cntMend_le {m : Mn} (h : sizMend m ≤ 1048576) : cntMend m ≤ 8388608 := by
  unfold sizMend sizIntSS at h
  have h1 := cntEntryS_le (m := m.seen) (by omega)
  unfold cntMend cntIntSS
  omega
theorem sv_mk (p : Nst (List Int)) (k : Nat) : Sv idL (⟨p.a, p.c, marksN k p.m.length⟩ : Nst (List Int)) = Sv idL p := by
  rw [sv_id, sv_id]
  simp only [marksN_len]
end Go.Proofs.Ytaamipmlalplbaa
