/- Several texts in one: LsP, LsQ. -/
import Derived.Test.YtjkjmapibcfcdaaGreatGx5
import Derived.Test.YtjkjmapibcfcdaaGreatGw2
import Derived.Test.YtjkjmapibcfcdaaGreatGx6
namespace Go.Proofs.YtjkjmapibcfcdaaGreat
open Go.ChangeShapes Go.WideShapes Go.ChangeAt Go.RowKit
set_option linter.unusedSimpArgs false
set_option linter.unusedVariables false
set_option maxRecDepth 100000
def LAp (w : World) (base : Nat) (v : Value) (rs : List (Nst (List Int))) : Prop :=
 ApR 24 1 lsCl w base v rs ∧ (∀ p ∈ rs, OwnN w base (Sv idL p) p.m) ∧ Apart idL v rs ∧ ∀ p ∈ rs, p.m = [] ∨ touch v ≠ some (bO (Sv idL p))
theorem LAp.nil (w : World) (base : Nat) (a : Option Addr) : LAp w base (.slice a 0 0) [] := ⟨.inl ⟨rfl, a, rfl⟩, (fun p h => by cases h), ⟨(fun i j hi => by simp at hi), fun i hi => by simp at hi⟩, fun p h => by cases h⟩
theorem LAp.below {w w' : World} {base : Nat} {v : Value} {rs : List (Nst (List Int))} (h : LAp w base v rs) (hb : Below w.heap.size w w') : LAp w' base v rs := ⟨h.1.below hb, fun p hp => (h.2.1 p hp).below hb, h.2.2⟩
theorem LAp.mono {w : World} {base base' : Nat} {v : Value} {rs : List (Nst (List Int))} (h : LAp w base v rs) (hb : base' ≤ base) : LAp w base' v rs := ⟨h.1.mono hb, fun p hp => (h.2.1 p hp).mono hb, h.2.2⟩
theorem LAp.far {w : World} {base b o : Nat} {v : Value} {rs : List (Nst (List Int))} (h : LAp w base v rs) (hb : b < base) (u : Value) : LAp (w.setCell ⟨b, o, none⟩ u) base v rs := ⟨h.1.far elemL hb u, fun p hp => (h.2.1 p hp).far hb u, h.2.2⟩
theorem LAp.slice {w : World} {base : Nat} {v : Value} {rs : List (Nst (List Int))} (h : LAp w base v rs) : ∃ a c, v = .slice a rs.length c := ApR.slice elemL h.1
theorem LAp.snoc {w w' : World} {base lo : Nat} {v v' : Value} {rs : List (Nst (List Int))} {p : Nst (List Int)} (h : LAp w base v rs) (hp : OwnN w lo (Sv idL p) p.m) (hlo : base ≤ lo) (hfr : ∀ q ∈ rs, q.m = [] ∨ p.m = [] ∨ bO (Sv idL q) ≠ bO (Sv idL p)) (htv : p.m = [] ∨ touch v ≠ some (bO (Sv idL p))) (h1 : ApR 24 1 lsCl w' base v' (rs ++ [p])) (hg : w.grownBy w' (touch v)) (ht : touch v' = touch v ∨ ∀ k, touch v' = some k → w.heap.size ≤ k) : LAp w' base v' (rs ++ [p]) := by
 obtain ⟨a1, a2, a3, a4⟩ := h
 have b1 := ApR.own elemL h1
 have g1 : ∀ q ∈ rs ++ [p], OwnN w' base (Sv idL q) q.m := fun q hq => by
  rcases List.mem_append.1 hq with hq | hq
  ·refine (a2 q hq).grown hg ?_
   rcases a4 q hq with h | h
   ·exact .inl h
   ·exact .inr h
  ·obtain rfl : q = p := by simpa using hq
   refine (hp.mono hlo).grown hg ?_
   rcases htv with h | h
   ·exact .inl h
   ·exact .inr h
 have old : ∀ q ∈ rs ++ [p], q.m = [] ∨ bO (Sv idL q) < w.heap.size := fun q hq => by
  rcases List.mem_append.1 hq with hq | hq
  ·exact (a2 q hq).bs.lt
  ·obtain rfl : q = p := by simpa using hq
   exact hp.bs.lt
 have g4 : ∀ q ∈ rs ++ [p], q.m = [] ∨ touch v' ≠ some (bO (Sv idL q)) := fun q hq => by
  rcases ht with ht | ht
  ·rw [ht]
   rcases List.mem_append.1 hq with hq | hq
   ·exact a4 q hq
   ·obtain rfl : q = p := by simpa using hq
    exact htv
  ·rcases old q hq with h | h
   ·exact .inl h
   ·refine .inr fun e => ?_
    have := ht _ e
    omega
 refine ⟨h1, g1, ⟨fun i j hi hj hij => ?_, fun i hi => ?_⟩, g4⟩
 ·have key : ∀ i j (hi : i < (rs ++ [p]).length) (hj : j < (rs ++ [p]).length), i < j → idL (rs ++ [p])[i].m = [] ∨ idL (rs ++ [p])[j].m = [] ∨ bO (Sv idL (rs ++ [p])[i]) ≠ bO (Sv idL (rs ++ [p])[j]) := fun i j hi hj hij => by
   have hi' : i < rs.length := by simp at hj; omega
   rw [List.getElem_append_left hi']
   by_cases e : j < rs.length
   ·rw [List.getElem_append_left e]
    exact a3.1 i j hi' e (by omega)
   ·have ej : j = rs.length := by simp at hj; omega
    subst ej
    rw [List.getElem_append_right (Nat.le_refl _)]
    simp only [Nat.sub_self, List.getElem_cons_zero]
    exact hfr _ (List.getElem_mem hi')
  rcases Nat.lt_or_gt_of_ne hij with h | h
  ·exact key i j hi hj h
  ·rcases key j i hj hi h with h | h | h
   ·exact .inr (.inl h)
   ·exact .inl h
   ·exact .inr (.inr (Ne.symm h))
 ·have q := g4 _ (List.getElem_mem hi)
  rcases q with h | h
  ·exact .inl h
  ·refine .inr fun e => h ?_
   have hne : rs ++ [p] ≠ [] := by simp
   rcases h1 with ⟨h', -⟩ | h'
   ·exact absurd h' hne
   ·rcases h'.2 with ⟨-, h0⟩ | ⟨g, cap, cur, rfl, -, -, hnc, -⟩
    ·exact absurd (List.length_eq_zero_iff.1 h0) hne
    ·have : (rs ++ [p]).length ≠ 0 := by simp
     have hc : cap ≠ 0 := by omega
     rw [e]
     simp [touch, hc, bO]
theorem rwL_one (w : World) (p : Nst (List Int)) (T : TypeId) (c : Nat) (hc : 1 ≤ c ∧ c ≤ 9223372036854775807) : Rw 1 lsCl (w.alloc (.cells #[.slice p.a p.m.length p.c] T)) (.slice (some ⟨w.heap.size, 0, none⟩) 1 c) [p] := by
 refine ⟨by simp, _, _, rfl, by simpa using hc, .inr ⟨w.heap.size, 0, rfl, fun i hi j u hu => ?_⟩⟩
 obtain rfl : i = 0 := by simp at hi; omega
 simp only [List.getElem_cons_zero, lsCl] at hu
 simpa using hu
theorem touchL_of {w : World} {base : Nat} {v : Value} {rs : List (Nst (List Int))} (h : LAp w base v rs) (hx : rs ≠ []) : touch v = some (bO v) := by
 rcases h.1 with ⟨h, -⟩ | h
 ·exact absurd h hx
 ·rcases h.2 with ⟨-, h0⟩ | ⟨g, cap, cur, rfl, -, -, hnc, -⟩
  ·exact absurd (List.length_eq_zero_iff.1 h0) hx
  ·have : rs.length ≠ 0 := fun e => hx (List.length_eq_zero_iff.1 e)
   have hc : cap ≠ 0 := by omega
   simp [touch, hc, bO]
theorem ApR.sameB {α : Type} {T : TypeId} {sz : Nat} {cl : α → List Value} {w w' : World} {base : Nat} {v : Value} {ms : List α} (h : ApR T sz cl w base v ms) (heq : ∀ b, touch v = some b → w'.heap[b]? = w.heap[b]?) : ApR T sz cl w' base v ms := by
 rcases h with h | h
 ·exact .inl h
 ·rcases h.2 with ⟨rfl, h0⟩ | ⟨g, cap, cur, rfl, hb, hg, hnc, hcm, hcs, htk⟩
  ·exact .inr ⟨h.1, .inl ⟨rfl, h0⟩⟩
  ·by_cases hc : cap = 0
   ·have e0 : ms = [] := List.length_eq_zero_iff.1 (by omega)
    subst e0
    subst hc
    exact .inl ⟨rfl, _, rfl⟩
   ·exact .inr ⟨h.1, .inr ⟨g, cap, cur, rfl, hb, (heq g (by simp [touch, hc])).trans hg, hnc, hcm, hcs, htk⟩⟩
theorem OwnN.sameB {w w' : World} {base : Nat} {v : Value} {xs : List Int} (h : OwnN w base v xs) (heq : xs = [] ∨ w'.heap[bO v]? = w.heap[bO v]?) : OwnN w' base v xs := by
 obtain ⟨h0, a, cap, rfl, hcap, h⟩ := h
 refine ⟨h0, a, cap, rfl, hcap, ?_⟩
 rcases heq with hn | hn
 ·exact .inl hn
 ·rcases h with h | ⟨b, off, rfl, hb, hc⟩
  ·exact .inl h
  ·exact .inr ⟨b, off, rfl, hb, fun i hi => ⟨(World.cell?_of_block (a := ⟨b, off + i, none⟩) hn).trans (hc i hi).1, (World.frozen?_of_block (a := ⟨b, off + i, none⟩) hn).trans (hc i hi).2⟩⟩
def OffT (b : Nat) (v : Value) (rs : List (Nst (List Int))) : Prop := touch v ≠ some b ∧ ∀ p ∈ rs, p.m = [] ∨ bO (Sv idL p) ≠ b
theorem OffT.off {b base : Nat} {v : Value} {rs : List (Nst (List Int))} {w : World} (h : OffT b v rs) (hl : LAp w base v rs) : Off b v rs := by
 refine ⟨?_, h.2⟩
 by_cases hr : rs = []
 ·exact .inl hr
 ·exact .inr fun e => h.1 (by rw [touchL_of hl hr, e])
structure MIn (lo hi : Nat) (sv ev wv : Value) (rs : List (Nst (List Int))) (ss : List Int) (es : List Ent) (W : World) : Prop where
 s : OwN lo hi sv ss W
 e : CpE W lo ev es
 eh : es = [] ∨ bO ev < hi
 l : LAp W lo wv rs
 lh : ∀ b, touch wv = some b → b < hi
 ph : ∀ p ∈ rs, p.m = [] ∨ bO (Sv idL p) < hi
 se : ss = [] ∨ es = [] ∨ bO sv ≠ bO ev
 sw : ss = [] ∨ OffT (bO sv) wv rs
 ew : es = [] ∨ OffT (bO ev) wv rs
section
variable {lo hi lo' hi' B b o : Nat} {sv ev wv sv' ev' wv' : Value} {rs rs' : List (Nst (List Int))} {ss ss' : List Int} {es es' : List Ent} {W W' : World}
theorem MIn.same (h : MIn lo hi sv ev wv rs ss es W) (heq : ∀ k, lo ≤ k → k < hi → W'.heap[k]? = W.heap[k]?) : MIn lo hi sv ev wv rs ss es W' := by
 obtain ⟨h1, h2, h3, h4, h5, h6, h7, h8, h9⟩ := h
 refine ⟨⟨h1.1.sameB ?_, h1.2⟩, ⟨h2.1.sameB fun k hk => ?_, h2.2⟩, h3, ⟨h4.1.sameB fun k hk => heq k (h4.1.touched elemL hk).1 (h5 k hk), fun p hp => (h4.2.1 p hp).sameB ?_, h4.2.2⟩, h5, h6, h7, h8, h9⟩
 ·rcases h1.1.ge with q | q
  ·exact .inl q
  ·rcases h1.2 with q' | q'
   ·exact .inl q'
   ·exact .inr (heq _ q q')
 ·obtain ⟨q1, q2⟩ := h2.touch hk
  subst q2
  exact heq _ (h2.ge.resolve_left q1) (h3.resolve_left q1)
 ·rcases (h4.2.1 p hp).ge with q | q
  ·exact .inl q
  ·rcases h6 p hp with q' | q'
   ·exact .inl q'
   ·exact .inr (heq _ q q')
theorem MIn.wide (h : MIn lo hi sv ev wv rs ss es W) (h1 : lo' ≤ lo) (h2 : hi ≤ hi') : MIn lo' hi' sv ev wv rs ss es W :=
 ⟨h.s.wide h1 h2, h.e.mono h1, h.eh.imp id (fun q => Nat.lt_of_lt_of_le q h2), h.l.mono h1, fun b hb => Nat.lt_of_lt_of_le (h.lh b hb) h2, fun p hp => (h.ph p hp).imp id (fun q => Nat.lt_of_lt_of_le q h2), h.se, h.sw, h.ew⟩
theorem MIn.below (h : MIn lo hi sv ev wv rs ss es W) (hh : hi ≤ W.heap.size) (hb : Below W.heap.size W W') : MIn lo hi sv ev wv rs ss es W' := h.same fun k _ hk => hb.block k (by omega)
theorem MIn.far (h : MIn lo hi sv ev wv rs ss es W) (hb : b < lo ∨ hi ≤ b) (u : Value) : MIn lo hi sv ev wv rs ss es (W.setCell ⟨b, o, none⟩ u) := h.same fun k h1 h2 => Below.heap_setCell _ _ _ k (by simp only; omega)
theorem MIn.ow (h : MIn lo hi sv ev wv rs ss es W) : OwN lo hi sv ss W ∧ OwEntryS lo hi ev es W ∧ OwL lo hi wv rs W ∧ (ss = [] ∨ es = [] ∨ bO sv ≠ bO ev) ∧ (ss = [] ∨ Off (bO sv) wv rs) ∧ (es = [] ∨ Off (bO ev) wv rs) := by
 have o := ApR.own elemL h.l.1
 refine ⟨h.s, ⟨h.e.own, h.eh⟩, ⟨o, ?_, fun p hp => ⟨h.l.2.1 p hp, h.ph p hp⟩, h.l.2.2.1⟩, h.se, h.sw.imp id (fun q => q.off h.l), h.ew.imp id (fun q => q.off h.l)⟩
 by_cases hr : rs = []
 ·exact .inl hr
 ·exact .inr (h.lh _ (touchL_of h.l hr))
theorem MIn.mend {m : Mn} (h : MIn lo hi sv ev wv rs m.sealed m.seen W) (e : rs.map Nst.m = m.wrote) : OwMend lo hi (.agg #[.int .i64 m.bye, .int .i64 m.epoch, sv, ev, .bool m.planned, wv]) m W := ⟨sv, ev, wv, rs, rfl, e, h.ow.1, h.ow.2.1, h.ow.2.2⟩
theorem MIn.of (h1 : OwnN W lo sv ss) (h2 : CpE W lo ev es) (h4 : LAp W B wv rs) (hl : lo ≤ B) (s1 : ss = [] ∨ es = [] ∨ bO sv ≠ bO ev) (s2 : ss = [] ∨ bO sv < B) (s3 : es = [] ∨ bO ev < B) : MIn lo W.heap.size sv ev wv rs ss es W := by
 have key : ∀ b, b < B → OffT b wv rs := fun b hb => ⟨fun e => by have := (h4.1.touched elemL e).1; omega, fun p hp => (h4.2.1 p hp).ge.imp id (fun q => by omega)⟩
 exact ⟨⟨h1, h1.bs.lt⟩, h2, h2.lt, h4.mono hl, fun b hb => (h4.1.touched elemL hb).2, fun p hp => (h4.2.1 p hp).bs.lt, s1, s2.imp id (key _), s3.imp id (key _)⟩
theorem MIn.sealedNew (h : MIn lo hi sv ev wv rs ss es W) (hB : hi ≤ B) (hl : lo ≤ B) (hW : B ≤ W.heap.size) (hp : OwnN W B sv' ss') : MIn lo W.heap.size sv' ev wv rs ss' es W := by
 have M := h.wide (Nat.le_refl _) (show hi ≤ W.heap.size by omega)
 refine ⟨⟨hp.mono hl, hp.bs.lt⟩, M.e, M.eh, M.l, M.lh, M.ph, ?_, ?_, M.ew⟩
 ·rcases hp.ge with q | q
  ·exact .inl q
  ·rcases h.eh with r | r
   ·exact .inr (.inl r)
   ·exact .inr (.inr (by omega))
 ·rcases hp.ge with q | q
  ·exact .inl q
  ·refine .inr ⟨fun e => by have := h.lh _ e; omega, fun p hp => ?_⟩
   rcases h.ph p hp with r | r
   ·exact .inl r
   ·exact .inr (by omega)
theorem MIn.seenNew (h : MIn lo hi sv ev wv rs ss es W) (hB : hi ≤ B) (hl : lo ≤ B) (hW : B ≤ W.heap.size) (hp : CpE W B ev' es') : MIn lo W.heap.size sv ev' wv rs ss es' W := by
 have M := h.wide (Nat.le_refl _) (show hi ≤ W.heap.size by omega)
 refine ⟨M.s, hp.mono hl, hp.lt, M.l, M.lh, M.ph, ?_, M.sw, ?_⟩
 ·rcases hp.ge with q | q
  ·exact .inr (.inl q)
  ·rcases h.s.2 with r | r
   ·exact .inl r
   ·exact .inr (.inr (by omega))
 ·rcases hp.ge with q | q
  ·exact .inl q
  ·refine .inr ⟨fun e => by have := h.lh _ e; omega, fun p hp => ?_⟩
   rcases h.ph p hp with r | r
   ·exact .inl r
   ·exact .inr (by omega)
def NoM (b : Nat) (sv ev wv : Value) (rs : List (Nst (List Int))) (ss : List Int) (es : List Ent) : Prop := (ss = [] ∨ bO sv ≠ b) ∧ (es = [] ∨ bO ev ≠ b) ∧ OffT b wv rs
theorem MIn.noM (h : MIn lo hi sv ev wv rs ss es W) (hb : hi ≤ b ∨ b < lo) : NoM b sv ev wv rs ss es := by
 refine ⟨?_, ?_, fun e => ?_, fun p hp => ?_⟩
 ·rcases h.s.2 with q | q
  ·exact .inl q
  ·rcases h.s.1.ge with q' | q'
   ·exact .inl q'
   ·exact .inr (by omega)
 ·rcases h.eh with q | q
  ·exact .inl q
  ·rcases h.e.ge with q' | q'
   ·exact .inl q'
   ·exact .inr (by omega)
 ·have h1 := h.lh _ e
  have h2 := (h.l.1.touched elemL e).1
  omega
 ·rcases h.ph p hp with q | q
  ·exact .inl q
  ·rcases (h.l.2.1 p hp).ge with q' | q'
   ·exact .inl q'
   ·exact .inr (by omega)
theorem MIn.setB (h : MIn lo hi sv ev wv rs ss es W) (hF : NoM b sv ev wv rs ss es) (u : Value) : MIn lo hi sv ev wv rs ss es (W.setCell ⟨b, o, none⟩ u) := by
 have hk : ∀ k, k ≠ b → (W.setCell ⟨b, o, none⟩ u).heap[k]? = W.heap[k]? := fun k hk => Below.heap_setCell _ _ _ _ hk
 obtain ⟨h1, h2, h3, h4, h5, h6, h7, h8, h9⟩ := h
 exact ⟨⟨h1.1.sameB (hF.1.imp id (hk _)), h1.2⟩, h2.put4 hF.2.1 u, h3, ⟨ApR.put elemL h4.1 hF.2.2.1 u, fun p hp => (h4.2.1 p hp).sameB ((hF.2.2.2 p hp).imp id (hk _)), h4.2.2⟩, h5, h6, h7, h8, h9⟩
end
theorem MIn.owm {lo hi : Nat} {sv ev wv : Value} {rs : List (Nst (List Int))} {ss : List Int} {es : List Ent} {W : World} (h : MIn lo hi sv ev wv rs ss es W) : OwM lo hi sv ev wv rs ss es W := h.ow
theorem MIn.belowW {lo hi : Nat} {sv ev wv : Value} {rs : List (Nst (List Int))} {ss : List Int} {es : List Ent} {W W' : World} (h : MIn lo hi sv ev wv rs ss es W) (hh : hi ≤ W.heap.size) (hb : Below W.heap.size W W') : MIn lo W'.heap.size sv ev wv rs ss es W' := (h.below hh hb).wide (Nat.le_refl _) (Nat.le_trans hh hb.size)
def ApM (lo hi : Nat) (u : Value) (m : Mn) (W : World) : Prop := ∃ sv ev wv rs, u = .agg #[.int .i64 m.bye, .int .i64 m.epoch, sv, ev, .bool m.planned, wv] ∧ rs.map Nst.m = m.wrote ∧ MIn lo hi sv ev wv rs m.sealed m.seen W
theorem ApM.ow {lo hi : Nat} {u : Value} {m : Mn} {W : World} (h : ApM lo hi u m W) : OwMend lo hi u m W := by
 obtain ⟨sv, ev, wv, rs, rfl, h1, h2⟩ := h
 exact h2.mend h1
theorem ApM.parts {lo hi : Nat} {u : Value} {m : Mn} {W : World} (h : ApM lo hi u m W) : ∃ sa sc ea ec wa wc rs, u = .agg #[.int .i64 m.bye, .int .i64 m.epoch, .slice sa m.sealed.length sc, .slice ea m.seen.length ec, .bool m.planned, .slice wa m.wrote.length wc] ∧ rs.map Nst.m = m.wrote ∧ MIn lo hi (.slice sa m.sealed.length sc) (.slice ea m.seen.length ec) (.slice wa m.wrote.length wc) rs m.sealed m.seen W := by
 obtain ⟨sv, ev, wv, rs, rfl, h2, h3⟩ := h
 obtain ⟨-, sa, sc, rfl, -, -⟩ := h3.s.rd
 obtain ⟨ea, ec, rfl⟩ := ApR.slice elemE h3.e.1
 obtain ⟨wa, wc, rfl⟩ := h3.l.slice
 have e : rs.length = m.wrote.length := by rw [← h2, List.length_map]
 rw [e] at h3 ⊢
 exact ⟨sa, sc, ea, ec, wa, wc, rs, rfl, h2, h3⟩
def AnsM (w : World) (A : Mn × Bool) (e : Ending) (w' : World) : Prop := (∃ u, e = .returned (.tuple #[u, .bool A.2]) ∧ OwMend w.heap.size w'.heap.size u A.1 w' ∧ (A.2 = true → ApM w.heap.size w'.heap.size u A.1 w')) ∧ Below w.heap.size w w'
theorem AnsM.no {w V : World} {u : Value} {m : Mn} (h : OwMend w.heap.size V.heap.size u m V) (hb : Below w.heap.size w V) : AnsM w (m, false) (.returned (.tuple #[u, .bool false])) V := ⟨⟨u, rfl, h, fun h => by cases h⟩, hb⟩
theorem AnsM.yes {w V : World} {u : Value} {m : Mn} (h : OwMend w.heap.size V.heap.size u m V ∧ ApM w.heap.size V.heap.size u m V) (hb : Below w.heap.size w V) : AnsM w (m, true) (.returned (.tuple #[u, .bool true])) V := ⟨⟨u, rfl, h.1, fun _ => h.2⟩, hb⟩
theorem AnsM.any {w w' : World} {A : Mn × Bool} {e : Ending} (h : AnsM w A e w') : (∃ u, e = .returned (.tuple #[u, .bool A.2]) ∧ OwMend w.heap.size w'.heap.size u A.1 w') ∧ Below w.heap.size w w' := by
 obtain ⟨⟨u, h1, h2, -⟩, h3⟩ := h
 exact ⟨⟨u, h1, h2⟩, h3⟩
theorem fcells_setL : ∀ (ms : List (Nst (List Int))) (k : Nat) (h : k < ms.length) (p : Nst (List Int)), (fcells lsCl ms).set k (.slice p.a p.m.length p.c) = fcells lsCl (ms.set k p)
 | [], k, h, _ => by simp at h
 | a :: l, 0, h, p => rfl
 | a :: l, k + 1, h, p => by
  have e : ∀ (x : Nst (List Int)) (y : List (Nst (List Int))), fcells lsCl (x :: y) = .slice x.a x.m.length x.c :: fcells lsCl y := fun _ _ => rfl
  have ih := fcells_setL l k (by simpa using h) p
  rw [List.set_cons_succ, e, e, List.set_cons_succ, ih]
theorem ApR.storeL {w : World} {base g n cap k : Nat} {rs : List (Nst (List Int))} (h : ApR 24 1 lsCl w base (.slice (some ⟨g, 0, none⟩) n cap) rs) (hk : k < rs.length) (p : Nst (List Int)) : ApR 24 1 lsCl (w.setCell ⟨g, k, none⟩ (.slice p.a p.m.length p.c)) base (.slice (some ⟨g, 0, none⟩) n cap) (rs.set k p) := by
 rcases h with ⟨rfl, -⟩ | h
 ·simp at hk
 ·have hn : n = rs.length := by
   obtain ⟨a, c, e⟩ := rowR_slice h
   simp only [Value.slice.injEq] at e
   exact e.2.1
  subst hn
  have s := (h.stored k (.slice p.a p.m.length p.c)).1
  rw [fcells_setL rs k hk p] at s
  refine .inr ?_
  rw [List.length_set]
  exact s
theorem MIn.head {lo hi : Nat} {sv ev : Value} {a : Option Addr} {n c : Nat} {rs : List (Nst (List Int))} {ss : List Int} {es : List Ent} {W : World} (h : MIn lo hi sv ev (.slice a n c) rs ss es W) (hr : rs ≠ []) : ∃ g, a = some ⟨g, 0, none⟩ ∧ touch (.slice a n c) = some g ∧ g < hi ∧ lo ≤ g := by
 have ht := touchL_of h.l hr
 have h1 := h.lh _ ht
 have h2 := (h.l.1.touched elemL ht).1
 rcases h.l.1 with ⟨q, -⟩ | q
 ·exact absurd q hr
 ·rcases q.2 with ⟨-, h0⟩ | ⟨g, cap, cur, e, -⟩
  ·exact absurd (List.length_eq_zero_iff.1 h0) hr
  ·cases e
   exact ⟨g, rfl, ht, h1, h2⟩
theorem MIn.told {lo hi B : Nat} {sv ev : Value} {rs : List (Nst (List Int))} {ss : List Int} {es : List Ent} {W : World} {g n cap k : Nat} {p : Nst (List Int)} (h : MIn lo hi sv ev (.slice (some ⟨g, 0, none⟩) n cap) rs ss es W) (hk : k < rs.length) (hB : hi ≤ B) (hBW : B ≤ W.heap.size) (hl : lo ≤ B) (hp : OwnN W B (Sv idL p) p.m) :
  MIn lo W.heap.size sv ev (.slice (some ⟨g, 0, none⟩) n cap) (rs.set k p) ss es (W.setCell ⟨g, k, none⟩ (.slice p.a p.m.length p.c)) := by
 have hr : rs ≠ [] := fun e => by rw [e] at hk; simp at hk
 have T := h.owm.toldNew hk hB hBW hl hp
 rw [Nat.zero_add] at T
 have ht := touchL_of h.l hr
 have hg : bO (.slice (some ⟨g, 0, none⟩) n cap) = g := rfl
 rw [hg] at ht
 have hgh := h.lh g ht
 have hs : ss = [] ∨ bO sv ≠ g := h.sw.imp id (fun q e => q.1 (by rw [ht, e]))
 have he : es = [] ∨ bO ev ≠ g := h.ew.imp id (fun q e => q.1 (by rw [ht, e]))
 have hpn : p.m = [] ∨ B ≤ bO (Sv idL p) := hp.ge
 refine ⟨T.1, h.e.put4 he _, h.eh.imp id (fun q => by omega), ⟨ApR.storeL h.l.1 hk p, fun q hq => ?_, T.2.2.1.2.2.2, fun q hq => ?_⟩, fun b hb => by have := h.lh b hb; omega, fun q hq => ?_, h.se, ?_, ?_⟩
 ·exact (T.2.2.1.2.2.1 q hq).1
 ·rcases List.mem_or_eq_of_mem_set hq with hx | rfl
  ·exact h.l.2.2.2 q hx
  ·rcases hpn with r | r
   ·exact .inl r
   ·refine .inr fun e => ?_
    rw [ht] at e
    cases e
    omega
 ·rcases List.mem_or_eq_of_mem_set hq with hx | rfl
  ·exact (h.ph q hx).imp id (fun r => by omega)
  ·exact hp.bs.lt
 ·rcases h.s.2 with r0 | r0
  ·exact .inl r0
  ·rcases h.sw with r | r
   ·exact .inl r
   ·refine .inr ⟨r.1, fun q hq => ?_⟩
    rcases List.mem_or_eq_of_mem_set hq with hx | rfl
    ·exact r.2 q hx
    ·rcases hpn with r2 | r2
     ·exact .inl r2
     ·exact .inr (by omega)
 ·rcases h.eh with r0 | r0
  ·exact .inl r0
  ·rcases h.ew with r | r
   ·exact .inl r
   ·refine .inr ⟨r.1, fun q hq => ?_⟩
    rcases List.mem_or_eq_of_mem_set hq with hx | rfl
    ·exact r.2 q hx
    ·rcases hpn with r2 | r2
     ·exact .inl r2
     ·exact .inr (by omega)
theorem keepL_ne (e : Ent) (l : List Ent) : keepL e l ≠ [] := by
 cases l with
 | nil => simp [keepL]
 | cons a l =>
  intro h
  have := (keepL_len e (a :: l)).2
  rw [h] at this
  simp at this
end Go.Proofs.YtjkjmapibcfcdaaGreat
