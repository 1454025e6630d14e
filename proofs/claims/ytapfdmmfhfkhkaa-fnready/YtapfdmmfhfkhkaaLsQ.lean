/- Mends whose lists may be appended to, list by list. -/
import Derived.Test.YtapfdmmfhfkhkaaLsP
import Derived.Test.YtapfdmmfhfkhkaaGx5
namespace Go.Proofs.Ytapfdmmfhfkhkaa
open Go.ChangeShapes Go.WideShapes Go.ChangeAt Go.RowKit
set_option linter.unusedVariables false
set_option linter.unusedSimpArgs false
set_option maxRecDepth 100000

theorem MIn.owm {lo hi : Nat} {sv ev wv : Value} {rs : List (Nst (List Int))} {ss : List Int} {es : List Ent} {W : World} (h : MIn lo hi sv ev wv rs ss es W) : OwM lo hi sv ev wv rs ss es W := h.ow
theorem MIn.belowW {lo hi : Nat} {sv ev wv : Value} {rs : List (Nst (List Int))} {ss : List Int} {es : List Ent} {W W' : World} (h : MIn lo hi sv ev wv rs ss es W) (hh : hi ≤ W.heap.size) (hb : Below W.heap.size W W') : MIn lo W'.heap.size sv ev wv rs ss es W' := (h.below hh hb).wide (Nat.le_refl _) (Nat.le_trans hh hb.size)
def ApM (lo hi : Nat) (u : Value) (m : Mn) (W : World) : Prop := ∃ sv ev wv rs, u = .agg #[.int .i64 m.bye, .int .i64 m.epoch, sv, ev, .bool m.planned, wv] ∧ rs.map Nst.m = m.wrote ∧ MIn lo hi sv ev wv rs m.sealed m.seen W
theorem ApM.ow {lo hi : Nat} {u : Value} {m : Mn} {W : World} (h : ApM lo hi u m W) : OwMend lo hi u m W := by
 obtain ⟨sv, ev, wv, rs, rfl, h1, h2⟩ := h
 exact h2.mend h1
theorem ApM.parts {lo hi : Nat} {u : Value} {m : Mn} {W : World} (h : ApM lo hi u m W) : ∃ sa sc ea ec wa wc rs, u = .agg #[.int .i64 m.bye, .int .i64 m.epoch, .slice sa m.sealed.length sc, .slice ea m.seen.length ec, .bool m.planned, .slice wa m.wrote.length wc] ∧ rs.map Nst.m = m.wrote ∧ MIn lo hi (.slice sa m.sealed.length sc) (.slice ea m.seen.length ec) (.slice wa m.wrote.length wc) rs m.sealed m.seen W := by
 obtain ⟨sv, ev, wv, rs, rfl, h2, h3⟩ := h
 obtain ⟨-, sa, sc, rfl, -, -⟩ := h3.s.rd
 obtain ⟨ea, ec, rfl⟩ := ApR.slice elemE h3.e.1
 obtain ⟨wa, wc, rfl⟩ := h3.l.slice
 have e : rs.length = m.wrote.length := by rw [← h2, List.length_map]
 rw [e] at h3 ⊢
 exact ⟨sa, sc, ea, ec, wa, wc, rs, rfl, h2, h3⟩
def AnsM (w : World) (A : Mn × Bool) (e : Ending) (w' : World) : Prop := (∃ u, e = .returned (.tuple #[u, .bool A.2]) ∧ OwMend w.heap.size w'.heap.size u A.1 w' ∧ (A.2 = true → ApM w.heap.size w'.heap.size u A.1 w')) ∧ Below w.heap.size w w'
theorem AnsM.no {w V : World} {u : Value} {m : Mn} (h : OwMend w.heap.size V.heap.size u m V) (hb : Below w.heap.size w V) : AnsM w (m, false) (.returned (.tuple #[u, .bool false])) V := ⟨⟨u, rfl, h, fun h => by cases h⟩, hb⟩
theorem AnsM.yes {w V : World} {u : Value} {m : Mn} (h : OwMend w.heap.size V.heap.size u m V ∧ ApM w.heap.size V.heap.size u m V) (hb : Below w.heap.size w V) : AnsM w (m, true) (.returned (.tuple #[u, .bool true])) V := ⟨⟨u, rfl, h.1, fun _ => h.2⟩, hb⟩
theorem AnsM.any {w w' : World} {A : Mn × Bool} {e : Ending} (h : AnsM w A e w') : (∃ u, e = .returned (.tuple #[u, .bool A.2]) ∧ OwMend w.heap.size w'.heap.size u A.1 w') ∧ Below w.heap.size w w' := by
 obtain ⟨⟨u, h1, h2, -⟩, h3⟩ := h
 exact ⟨⟨u, h1, h2⟩, h3⟩
theorem fcells_setL : ∀ (ms : List (Nst (List Int))) (k : Nat) (h : k < ms.length) (p : Nst (List Int)), (fcells lsCl ms).set k (.slice p.a p.m.length p.c) = fcells lsCl (ms.set k p)
 | [], k, h, _ => by simp at h
 | a :: l, 0, h, p => rfl
 | a :: l, k + 1, h, p => by
  have e : ∀ (x : Nst (List Int)) (y : List (Nst (List Int))), fcells lsCl (x :: y) = .slice x.a x.m.length x.c :: fcells lsCl y := fun _ _ => rfl
  have ih := fcells_setL l k (by simpa using h) p
  rw [List.set_cons_succ, e, e, List.set_cons_succ, ih]
theorem ApR.storeL {w : World} {base g n cap k : Nat} {rs : List (Nst (List Int))} (h : ApR 24 1 lsCl w base (.slice (some ⟨g, 0, none⟩) n cap) rs) (hk : k < rs.length) (p : Nst (List Int)) : ApR 24 1 lsCl (w.setCell ⟨g, k, none⟩ (.slice p.a p.m.length p.c)) base (.slice (some ⟨g, 0, none⟩) n cap) (rs.set k p) := by
 rcases h with ⟨rfl, -⟩ | h
 ·simp at hk
 ·have hn : n = rs.length := by
   obtain ⟨a, c, e⟩ := rowR_slice h
   simp only [Value.slice.injEq] at e
   exact e.2.1
  subst hn
  have s := (h.stored k (.slice p.a p.m.length p.c)).1
  rw [fcells_setL rs k hk p] at s
  refine .inr ?_
  rw [List.length_set]
  exact s
theorem MIn.head {lo hi : Nat} {sv ev : Value} {a : Option Addr} {n c : Nat} {rs : List (Nst (List Int))} {ss : List Int} {es : List Ent} {W : World} (h : MIn lo hi sv ev (.slice a n c) rs ss es W) (hr : rs ≠ []) : ∃ g, a = some ⟨g, 0, none⟩ ∧ touch (.slice a n c) = some g ∧ g < hi ∧ lo ≤ g := by
 have ht := touchL_of h.l hr
 have h1 := h.lh _ ht
 have h2 := (h.l.1.touched elemL ht).1
 rcases h.l.1 with ⟨q, -⟩ | q
 ·exact absurd q hr
 ·rcases q.2 with ⟨-, h0⟩ | ⟨g, cap, cur, e, -⟩
  ·exact absurd (List.length_eq_zero_iff.1 h0) hr
  ·cases e
   exact ⟨g, rfl, ht, h1, h2⟩
theorem MIn.told {lo hi B : Nat} {sv ev : Value} {rs : List (Nst (List Int))} {ss : List Int} {es : List Ent} {W : World} {g n cap k : Nat} {p : Nst (List Int)} (h : MIn lo hi sv ev (.slice (some ⟨g, 0, none⟩) n cap) rs ss es W) (hk : k < rs.length) (hB : hi ≤ B) (hBW : B ≤ W.heap.size) (hl : lo ≤ B) (hp : OwnN W B (Sv idL p) p.m) :
  MIn lo W.heap.size sv ev (.slice (some ⟨g, 0, none⟩) n cap) (rs.set k p) ss es (W.setCell ⟨g, k, none⟩ (.slice p.a p.m.length p.c)) := by
 have hr : rs ≠ [] := fun e => by rw [e] at hk; simp at hk
 have T := h.owm.toldNew hk hB hBW hl hp
 rw [Nat.zero_add] at T
 have ht := touchL_of h.l hr
 have hg : blockOf (.slice (some ⟨g, 0, none⟩) n cap) = g := rfl
 rw [hg] at ht
 have hgh := h.lh g ht
 have hs : ss = [] ∨ blockOf sv ≠ g := h.sw.imp id (fun q e => q.1 (by rw [ht, e]))
 have he : es = [] ∨ blockOf ev ≠ g := h.ew.imp id (fun q e => q.1 (by rw [ht, e]))
 have hpn : p.m = [] ∨ B ≤ blockOf (Sv idL p) := hp.ge
 refine ⟨T.1, h.e.put4 he _, h.eh.imp id (fun q => by omega), ⟨ApR.storeL h.l.1 hk p, fun q hq => ?_, T.2.2.1.2.2.2, fun q hq => ?_⟩, fun b hb => by have := h.lh b hb; omega, fun q hq => ?_, h.se, ?_, ?_⟩
 ·exact (T.2.2.1.2.2.1 q hq).1
 ·rcases List.mem_or_eq_of_mem_set hq with hx | rfl
  ·exact h.l.2.2.2 q hx
  ·rcases hpn with r | r
   ·exact .inl r
   ·refine .inr fun e => ?_
    rw [ht] at e
    cases e
    omega
 ·rcases List.mem_or_eq_of_mem_set hq with hx | rfl
  ·exact (h.ph q hx).imp id (fun r => by omega)
  ·exact hp.bs.lt
 ·rcases h.s.2 with r0 | r0
  ·exact .inl r0
  ·rcases h.sw with r | r
   ·exact .inl r
   ·refine .inr ⟨r.1, fun q hq => ?_⟩
    rcases List.mem_or_eq_of_mem_set hq with hx | rfl
    ·exact r.2 q hx
    ·rcases hpn with r2 | r2
     ·exact .inl r2
     ·exact .inr (by omega)
 ·rcases h.eh with r0 | r0
  ·exact .inl r0
  ·rcases h.ew with r | r
   ·exact .inl r
   ·refine .inr ⟨r.1, fun q hq => ?_⟩
    rcases List.mem_or_eq_of_mem_set hq with hx | rfl
    ·exact r.2 q hx
    ·rcases hpn with r2 | r2
     ·exact .inl r2
     ·exact .inr (by omega)
theorem keepL_ne (e : Ent) (l : List Ent) : keepL e l ≠ [] := by
 cases l with
 | nil => simp [keepL]
 | cons a l =>
  intro h
  have := (keepL_len e (a :: l)).2
  rw [h] at this
  simp at this
end Go.Proofs.Ytapfdmmfhfkhkaa
