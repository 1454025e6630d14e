/- Several texts in one: MnSb, MnSc, MnSd, MnH. -/
import Derived.Test.YtjkjmapibcfcdaaGreatGaD
namespace Go.Proofs.YtjkjmapibcfcdaaGreat
open Go.ChangeShapes Go.WideShapes Go.ChangeAt Go.RowKit
set_option linter.unusedSimpArgs false
set_option linter.unusedVariables false
set_option maxRecDepth 100000
theorem makeL (n : Nat) (h : n ≤ 1073741824) (w : World) : (Instr.makeSlice 28 (.int .i64 (n : Int)) (.int .i64 (n : Int))).run Tryz.prog w = .ok (.slice (some ⟨w.heap.size, 0, none⟩) n n) (w.alloc (.cells (madeCells (Value.slice none 0 0).cells (n * 1)) 24)) := by
 obtain ⟨i0, hi, hz0, hz1, hz2⟩ := info_parts (elemL).info
 have := run_make (P := Tryz.prog) w 28 24 i0 _ Tryz.underlying28 hi hz0 .i64 .i64 (n : Int) (n : Int) (by omega) (by omega) (by rw [hz2]; omega) (by omega)
 rw [hz1] at this
 simpa using this
def zeroL : Nst (List Int) := ⟨none, 0, []⟩
theorem madeL (w : World) (n : Nat) (T : TypeId) : RowG 1 lsCl (w.alloc (.cells (madeCells #[.slice none 0 0] n) T)) w.heap.size 0 n (fun _ => zeroL) := by
 have h := RowG.made (sz := 1) (cl := lsCl) w #[.slice none 0 0] n T zeroL rfl (fun j u hu => by
  have : (lsCl zeroL) = [.slice none 0 0] := rfl
  rw [this] at hu
  simpa using hu)
 rw [Nat.mul_one] at h
 exact h
def CopL (wr : World) (b : Nat) (rs : List (Nst (List Int))) (k : Nat) (f : Nat → Nst (List Int)) : Prop :=
 RowG 1 lsCl wr b 0 rs.length f ∧ (∀ i (h : i < rs.length), i < k → (f i).m = rs[i].m ∧ OwnN wr (b + 1) (Sv idL (f i)) (f i).m) ∧ ∀ i j, i < k → j < k → i < j → (f i).m = [] ∨ (f j).m = [] ∨ bO (Sv idL (f i)) ≠ bO (Sv idL (f j))
theorem CopL.step {wr w2 : World} {b k : Nat} {rs : List (Nst (List Int))} {f : Nat → Nst (List Int)} (h : CopL wr b rs k f) (hk : k < rs.length) (hb2 : Below wr.heap.size wr w2) (hbw : b < wr.heap.size) {qa : Option Addr} {qc : Nat} (ho : OwnN w2 wr.heap.size (.slice qa rs[k].m.length qc) rs[k].m) :
  CopL (w2.setCell ⟨b, k, none⟩ (.slice qa rs[k].m.length qc)) b rs (k + 1) (putG f k ⟨qa, qc, rs[k].m⟩) := by
 obtain ⟨h1, h2, h3⟩ := h
 have far : ∀ {base : Nat} {v : Value} {xs : List Int}, OwnN w2 base v xs → b < base → OwnN (w2.setCell ⟨b, k, none⟩ (.slice qa rs[k].m.length qc)) base v xs := fun {base v xs} q hb => q.far hb _
 refine ⟨?_, fun i hi hik => ?_, fun i j hi hj hij => ?_⟩
 ·have r1 := (h1.below hb2).put lsCl_len hk 0 (by decide) (.slice qa rs[k].m.length qc) ⟨qa, qc, rs[k].m⟩ rfl
  simpa using r1
 ·by_cases e : i = k
  ·subst e
   rw [putG_same]
   exact ⟨rfl, far (ho.mono (by omega)) (by omega)⟩
  ·rw [putG_ne _ _ e]
   have q := h2 i hi (by omega)
   exact ⟨q.1, far (q.2.below hb2) (by omega)⟩
 ·by_cases e : j = k
  ·subst e
   rw [putG_same, putG_ne _ _ (by omega)]
   have q := h2 i (by omega) (by omega)
   rcases q.2.bs.lt with h | h
   ·exact .inl h
   ·rcases ho.ge with h' | h'
    ·exact .inr (.inl h')
    ·right; right
     have e1 : bO (Sv idL (⟨qa, qc, rs[j].m⟩ : Nst (List Int))) = bO (.slice qa rs[j].m.length qc) := rfl
     rw [e1]
     omega
  ·rw [putG_ne _ _ e, putG_ne _ _ (by omega)]
   exact h3 i j (by omega) (by omega) hij
theorem OwL.build {w : World} {lo hi b off n cap : Nat} {f : Nat → Nst (List Int)} (h : RowG 1 lsCl w b off n f) (hb : lo ≤ b) (hbl : n = 0 ∨ b < hi) (hn : n ≤ cap ∧ cap ≤ 9223372036854775807)
  (h4 : ∀ i, i < n → OwN lo hi (Sv idL (f i)) (f i).m w) (h5 : ∀ i j, i < n → j < n → i ≠ j → (f i).m = [] ∨ (f j).m = [] ∨ bO (Sv idL (f i)) ≠ bO (Sv idL (f j))) (h6 : ∀ i, i < n → (f i).m = [] ∨ bO (Sv idL (f i)) ≠ b) :
  OwL lo hi (.slice (some ⟨b, off, none⟩) n cap) ((List.range n).map f) w := by
 have hl : ((List.range n).map f).length = n := by simp
 have hg : ∀ i (hi : i < ((List.range n).map f).length), ((List.range n).map f)[i] = f i := fun i hi => by simp
 have o := RowG.own (es := (List.range n).map f) (base := lo) (cap := cap) h (by simp) (fun i hi => (hg i hi).symm) hb (by rw [hl]; omega) (by rw [hl]; exact hn)
 rw [hl] at o
 refine ⟨o, ?_, fun p hp => ?_, fun i j hi hj hij => ?_, fun i hi => ?_⟩
 ·rcases hbl with h | h
  ·subst h; exact .inl rfl
  ·exact .inr h
 ·obtain ⟨i, hi, rfl⟩ := List.mem_map.1 hp
  exact h4 i (List.mem_range.1 hi)
 ·rw [hg, hg]
  rw [hl] at hi hj
  exact h5 i j hi hj hij
 ·rw [hg]
  rw [hl] at hi
  exact h6 i hi
theorem CopL.own {w wr : World} {rs : List (Nst (List Int))} {f : Nat → Nst (List Int)} (h : CopL wr w.heap.size rs rs.length f) (hsz : w.heap.size < wr.heap.size) (hl : rs.length ≤ 9223372036854775807) : ∃ rs', rs'.map Nst.m = rs.map Nst.m ∧ OwL w.heap.size wr.heap.size (.slice (some ⟨w.heap.size, 0, none⟩) rs.length rs.length) rs' wr := by
 obtain ⟨h1, h2, h3⟩ := h
 refine ⟨(List.range rs.length).map f, ?_, OwL.build h1 (Nat.le_refl _) (.inr hsz) ⟨Nat.le_refl _, hl⟩ (fun i hi => ?_) (fun i j hi hj hij => ?_) fun i hi => ?_⟩
 ·rw [List.map_map]
  exact range_map_m (ms := rs.map Nst.m) (by simp) (fun i hi => by
   have hi' : i < rs.length := by simpa using hi
   rw [List.getElem_map]
   exact (h2 i hi' hi').1)
 ·have q := (h2 i hi hi).2
  exact ⟨q.mono (by omega), q.bs.lt⟩
 ·rcases Nat.lt_or_gt_of_ne hij with h | h
  ·exact h3 i j hi hj h
  ·rcases h3 j i hj hi h with h | h | h
   ·exact .inr (.inl h)
   ·exact .inl h
   ·exact .inr (.inr (Ne.symm h))
 ·rcases (h2 i hi hi).2.ge with h | h
  ·exact .inl h
  ·exact .inr (by omega)
theorem OwL.off {lo hi b : Nat} {v : Value} {rs : List (Nst (List Int))} {w : World} (h : OwL lo hi v rs w) (hb : b < lo) : Off b v rs := by
 refine ⟨?_, fun p hp => ?_⟩
 ·rcases h.1.geG with h | h
  ·exact .inl h
  ·exact .inr (by omega)
 ·rcases (h.2.2.1 p hp).1.ge with h | h
  ·exact .inl h
  ·exact .inr (by omega)
theorem OwMend.made {B b1 b2 : Nat} {V : World} {m : Mn} {sv ev wv : Value} {rs : List (Nst (List Int))} (hr : rs.map Nst.m = m.wrote) (P : OwnN V B sv m.sealed) (p1 : m.sealed = [] ∨ bO sv < b1) (Q : OwnRw 4 Ent.cl V b1 ev m.seen) (q1 : m.seen = [] ∨ bO ev < b2) (R : OwL b2 V.heap.size wv rs V) (h1 : B ≤ b1) (h2 : b1 ≤ b2) : OwMend B V.heap.size (.agg #[.int .i64 m.bye, .int .i64 m.epoch, sv, ev, .bool m.planned, wv]) m V := by
 refine ⟨sv, ev, wv, rs, rfl, hr, ⟨P, P.bs.lt⟩, ⟨Q.mono h1, Q.lt⟩, R.wide (by omega) (Nat.le_refl _), ?_, ?_, ?_⟩
 ·rcases p1 with h | h
  ·exact .inl h
  ·rcases Q.ge with h' | h'
   ·exact .inr (.inl h')
   ·exact .inr (.inr (by omega))
 ·rcases p1 with h | h
  ·exact .inl h
  ·exact .inr (R.off (by omega))
 ·rcases q1 with h | h
  ·exact .inl h
  ·exact .inr (R.off h)
def mkL (k0 : Nat) (rs : List (Nst (List Int))) (i : Nat) : Nst (List Int) := ⟨(rs.getD i zeroL).a, (rs.getD i zeroL).c, marksN (k0 + sumL ((rs.map Nst.m).take i)) (rs.getD i zeroL).m.length⟩
def mkLs (k0 : Nat) (rs : List (Nst (List Int))) : List (Nst (List Int)) := (List.range rs.length).map (mkL k0 rs)
theorem mkLs_len (k0 : Nat) (rs : List (Nst (List Int))) : (mkLs k0 rs).length = rs.length := by simp [mkLs]
theorem mkLs_at (k0 : Nat) (rs : List (Nst (List Int))) (i : Nat) (h : i < rs.length) (h' : i < (mkLs k0 rs).length) : (mkLs k0 rs)[i] = ⟨rs[i].a, rs[i].c, marksN (k0 + sumL ((rs.map Nst.m).take i)) rs[i].m.length⟩ := by
 simp [mkLs, mkL, h]
def MarkL (lo hi k0 : Nat) (w wr : World) (rs : List (Nst (List Int))) (k : Nat) : Prop :=
 (∀ i (h : i < rs.length), OwN lo hi (Sv idL rs[i]) (if i < k then marksN (k0 + sumL ((rs.map Nst.m).take i)) rs[i].m.length else rs[i].m) wr) ∧ Wr lo hi w wr ∧ (∀ j, j < w.heap.size → (∀ p ∈ rs, p.m = [] ∨ bO (Sv idL p) ≠ j) → wr.heap[j]? = w.heap[j]?) ∧ hi ≤ wr.heap.size
theorem MarkL.step {lo hi k0 : Nat} {w wr w2 : World} {k : Nat} {rs : List (Nst (List Int))} {v : Value} (h : MarkL lo hi k0 w wr rs k) (hk : k < rs.length) (hA : Apart idL v rs)
  (hO : OwN lo hi (Sv idL rs[k]) (marksN (k0 + sumL ((rs.map Nst.m).take k)) rs[k].m.length) w2) (b1 b2 : Nat) (hW : Wr b1 b2 wr w2) (hd : (rs[k].m = [] ∧ b1 = 0 ∧ b2 = 0) ∨ (rs[k].m ≠ [] ∧ b1 = bO (Sv idL rs[k]) ∧ b2 = bO (Sv idL rs[k]) + 1)) (hW' : Wr lo hi wr w2) :
  MarkL lo hi k0 w w2 rs (k + 1) := by
 obtain ⟨h1, h2, h3, h4⟩ := h
 refine ⟨fun i hil => ?_, h2.trans hW', fun j hj hp => ?_, Nat.le_trans h4 hW'.size⟩
 ·by_cases e : i = k
  ·subst e
   rw [if_pos (by omega)]
   exact hO
  ·have ei : (if i < k + 1 then marksN (k0 + sumL ((rs.map Nst.m).take i)) rs[i].m.length else rs[i].m) = (if i < k then marksN (k0 + sumL ((rs.map Nst.m).take i)) rs[i].m.length else rs[i].m) := by
    by_cases e' : i < k
    ·rw [if_pos (by omega), if_pos e']
    ·rw [if_neg (by omega), if_neg e']
   rw [ei]
   refine (h1 i hil).wr hW ?_
   rcases hd with ⟨-, rfl, rfl⟩ | ⟨hn, rfl, rfl⟩
   ·exact .inr (.inr (Nat.zero_le _))
   ·rcases hA.1 i k hil hk e with h | h | h
    ·left
     change rs[i].m = [] at h
     rw [h]
     split
     ·rfl
     ·rfl
    ·exact absurd h hn
    ·exact .inr (by omega)
 ·rw [← h3 j hj hp]
  refine hW.block j (Nat.lt_of_lt_of_le hj h2.size) ?_
  rcases hd with ⟨-, rfl, rfl⟩ | ⟨hn, rfl, rfl⟩
  ·exact .inr (Nat.zero_le _)
  ·have := (hp _ (List.getElem_mem hk)).resolve_left hn
   omega
theorem OwN.keepB {lo hi : Nat} {v : Value} {m : List Int} {w w' : World} (h : OwN lo hi v m w) (hb : m = [] ∨ w'.heap[bO v]? = w.heap[bO v]?) : OwN lo hi v m w' := by
 by_cases hm : m = []
 ·obtain ⟨⟨h0, a, cap, e, hcap, -⟩, hl⟩ := h
  exact ⟨⟨h0, a, cap, e, hcap, .inl hm⟩, hl⟩
 ·have hlt := h.1.bs.lt.resolve_left hm
  obtain ⟨n1, n2, n3⟩ := h.narrow hm
  have q := (n1.sits hlt).all w' (fun k h1 h2 => by
   have : k = bO v := by omega
   subst this
   exact hb.resolve_left hm)
  exact ⟨q.1.mono n2, .inr n3⟩
theorem OwEntryS.keepB {lo hi : Nat} {v : Value} {m : List Ent} {w w' : World} (h : OwEntryS lo hi v m w) (hb : m = [] ∨ w'.heap[bO v]? = w.heap[bO v]?) : OwEntryS lo hi v m w' := by
 by_cases hm : m = []
 ·obtain ⟨⟨h0, a, cap, e, hcap, -⟩, hl⟩ := h
  exact ⟨⟨h0, a, cap, e, hcap, .inl hm⟩, hl⟩
 ·have hlt := h.1.lt.resolve_left hm
  obtain ⟨n1, n2, n3⟩ := h.narrow hm
  have q := (n1.sits hlt).all w' (fun k h1 h2 => by
   have : k = bO v := by omega
   subst this
   exact hb.resolve_left hm)
  exact ⟨q.1.mono n2, .inr n3⟩
theorem OwL.marked {lo hi b1 b2 : Nat} {v u : Value} {rs : List (Nst (List Int))} {w w' : World} {p : Prop} (h : OwL lo hi v rs w) (hW : Wr b1 b2 w w') (hd : (p ∧ b1 = 0 ∧ b2 = 0) ∨ (¬ p ∧ b1 = bO u ∧ b2 = bO u + 1)) (ho : p ∨ Off (bO u) v rs) : OwL lo hi v rs w' :=
 h.keep fun k hk hn => hW.block k hk (by
  rcases hd with ⟨-, rfl, rfl⟩ | ⟨hp, rfl, rfl⟩
  ·exact .inr (Nat.zero_le _)
  ·have := ho.resolve_left hp
   by_cases e : k = bO u
   ·subst e; exact absurd this hn
   ·omega)
theorem Off.mk {k b : Nat} {v : Value} {rs : List (Nst (List Int))} (h : Off b v rs) : Off b v (mkLs k rs) := by
 refine ⟨?_, fun p hp => ?_⟩
 ·rcases h.1 with h | h
  ·left; subst h; rfl
  ·exact .inr h
 ·obtain ⟨i, hi, rfl⟩ := List.mem_iff_getElem.1 hp
  have hi' : i < rs.length := by rw [mkLs_len] at hi; exact hi
  rw [mkLs_at k rs i hi', sv_mk]
  rcases h.2 _ (List.getElem_mem hi') with h | h
  ·exact .inl ((nil_of_len (marksN_len _ _)).2 h)
  ·exact .inr h
def OwM (lo hi : Nat) (sv ev wv : Value) (rs : List (Nst (List Int))) (ss : List Int) (es : List Ent) (W : World) : Prop := OwN lo hi sv ss W ∧ OwEntryS lo hi ev es W ∧ OwL lo hi wv rs W ∧ (ss = [] ∨ es = [] ∨ bO sv ≠ bO ev) ∧ (ss = [] ∨ Off (bO sv) wv rs) ∧ (es = [] ∨ Off (bO ev) wv rs)
theorem OwMend.parts {lo hi : Nat} {v : Value} {m : Mn} {W : World} (h : OwMend lo hi v m W) : ∃ sa sc ea ec wa wc rs, v = .agg #[.int .i64 m.bye, .int .i64 m.epoch, .slice sa m.sealed.length sc, .slice ea m.seen.length ec, .bool m.planned, .slice wa m.wrote.length wc] ∧ rs.map Nst.m = m.wrote ∧ OwM lo hi (.slice sa m.sealed.length sc) (.slice ea m.seen.length ec) (.slice wa m.wrote.length wc) rs m.sealed m.seen W := by
 obtain ⟨sv, ev, wv, rs, h1, h2, h3, h4, h5, h6⟩ := h
 obtain ⟨-, sa, sc, rfl, -, -⟩ := h3.rd
 obtain ⟨ea, ec, rfl, -⟩ := formEntryS h4.rd
 obtain ⟨-, wa, wc, rfl, -, -⟩ := h5.1.rw
 have e : rs.length = m.wrote.length := by rw [← h2, List.length_map]
 rw [e] at h1 h5 h6
 exact ⟨sa, sc, ea, ec, wa, wc, rs, h1, h2, h3, h4, h5, h6⟩
theorem OwM.mend {lo hi : Nat} {sv ev wv : Value} {rs : List (Nst (List Int))} {m : Mn} {W : World} (h : OwM lo hi sv ev wv rs m.sealed m.seen W) (e : rs.map Nst.m = m.wrote) : OwMend lo hi (.agg #[.int .i64 m.bye, .int .i64 m.epoch, sv, ev, .bool m.planned, wv]) m W := ⟨sv, ev, wv, rs, rfl, e, h.1, h.2.1, h.2.2.1, h.2.2.2⟩
theorem OwM.wide {lo hi lo' hi' : Nat} {sv ev wv : Value} {rs : List (Nst (List Int))} {ss : List Int} {es : List Ent} {W : World} (h : OwM lo hi sv ev wv rs ss es W) (h1 : lo' ≤ lo) (h2 : hi ≤ hi') : OwM lo' hi' sv ev wv rs ss es W := ⟨h.1.wide h1 h2, h.2.1.wide h1 h2, h.2.2.1.wide h1 h2, h.2.2.2⟩
theorem OwM.below {lo hi : Nat} {sv ev wv : Value} {rs : List (Nst (List Int))} {ss : List Int} {es : List Ent} {W W' : World} (h : OwM lo hi sv ev wv rs ss es W) (hb : Below W.heap.size W W') : OwM lo hi sv ev wv rs ss es W' :=
 ⟨⟨h.1.1.below hb, h.1.2⟩, h.2.1.keepB (by
  rcases h.2.1.1.lt with q | q
  ·exact .inl q
  ·exact .inr (hb.block _ q)), h.2.2.1.keep (fun k hk _ => hb.block k hk), h.2.2.2⟩
theorem OwM.far {lo hi b o : Nat} {sv ev wv : Value} {rs : List (Nst (List Int))} {ss : List Int} {es : List Ent} {W : World} (h : OwM lo hi sv ev wv rs ss es W) (hb : b < lo ∨ hi ≤ b) (u : Value) : OwM lo hi sv ev wv rs ss es (W.setCell ⟨b, o, none⟩ u) := by
 have hW : ∀ k, lo ≤ k → k < hi → (W.setCell ⟨b, o, none⟩ u).heap[k]? = W.heap[k]? := fun k h1 h2 => Below.heap_setCell _ _ _ k (by simp only; omega)
 obtain ⟨h1, h2, h3, h4⟩ := h
 refine ⟨h1.keepB ?_, h2.keepB ?_, ⟨h3.1.sitsR h3.2.1 hW, h3.2.1, fun p hp => (h3.2.2.1 p hp).keepB ?_, h3.2.2.2⟩, h4⟩
 ·rcases h1.1.ge with q | q
  ·exact .inl q
  ·rcases h1.2 with q' | q'
   ·exact .inl q'
   ·exact .inr (hW _ q q')
 ·rcases h2.1.ge with q | q
  ·exact .inl q
  ·rcases h2.2 with q' | q'
   ·exact .inl q'
   ·exact .inr (hW _ q q')
 ·rcases (h3.2.2.1 p hp).1.ge with q | q
  ·exact .inl q
  ·rcases (h3.2.2.1 p hp).2 with q' | q'
   ·exact .inl q'
   ·exact .inr (hW _ q q')
theorem OwM.told {lo hi : Nat} {sv ev : Value} {rs : List (Nst (List Int))} {ss : List Int} {es : List Ent} {W : World} {g o n cap k : Nat} {p : Nst (List Int)} (h : OwM lo hi sv ev (.slice (some ⟨g, o, none⟩) n cap) rs ss es W) (hk : k < rs.length) (hg : lo ≤ g ∧ g < hi) (hp : OwN lo hi (Sv idL p) p.m W) (hnew : p.m = [] ∨ (bO (Sv idL p) ≠ g ∧ (ss = [] ∨ bO sv ≠ bO (Sv idL p)) ∧ (es = [] ∨ bO ev ≠ bO (Sv idL p)) ∧ ∀ i (hi : i < rs.length), i ≠ k → rs[i].m = [] ∨ bO (Sv idL rs[i]) ≠ bO (Sv idL p))) :
  OwM lo hi sv ev (.slice (some ⟨g, o, none⟩) n cap) (rs.set k p) ss es (W.setCell ⟨g, o + k, none⟩ (.slice p.a p.m.length p.c)) := by
 obtain ⟨h1, h2, ⟨h3, h4, h5, h6⟩, h7, h8, h9⟩ := h
 have hne : rs ≠ [] := fun e => by rw [e] at hk; simp at hk
 have hgb : bO (.slice (some ⟨g, o, none⟩) n cap) = g := rfl
 have oth : ∀ {x : Value} {l : List Int}, OwN lo hi x l W → (l = [] ∨ bO x ≠ g) → OwN lo hi x l (W.setCell ⟨g, o + k, none⟩ (.slice p.a p.m.length p.c)) := fun {x l} q hq => q.putW hq _
 refine ⟨oth h1 ?_, h2.keepB ?_, ⟨?_, .inr hg.2, fun q hq => ?_, ⟨fun i j hi hj hij => ?_, fun i hi => ?_⟩⟩, h7, ?_, ?_⟩
 ·rcases h8 with q | q
  ·exact .inl q
  ·exact .inr fun e => (q.1.resolve_left hne) (by rw [hgb, e])
 ·rcases h9 with q | q
  ·exact .inl q
  ·exact .inr (Below.heap_setCell _ _ _ _ (fun e => (q.1.resolve_left hne) (by rw [hgb]; simpa using e.symm)))
 ·obtain ⟨q0, a, c, e, qc, q⟩ := h3
  cases e
  refine ⟨by rw [List.length_set]; exact q0, _, _, by rw [List.length_set], by rw [List.length_set]; exact qc, .inr ?_⟩
  rcases q with q | ⟨b', off, e1, hb', hc⟩
  ·exact absurd q hne
  ·cases e1
   refine ⟨g, o, rfl, hg.1, fun i hi j u hu => ?_⟩
   rw [List.length_set] at hi
   have hj0 : j = 0 := by
    rcases Nat.eq_zero_or_pos j with q | q
    ·exact q
    ·rw [List.getElem?_eq_none (by rw [lsCl_len]; exact q)] at hu
     cases hu
   subst hj0
   simp only [Nat.mul_one, Nat.add_zero]
   have old := hc i hi 0 _ rfl
   simp only [Nat.mul_one, Nat.add_zero] at old
   by_cases e : i = k
   ·subst e
    rw [List.getElem_set_self] at hu
    have hu' : u = .slice p.a p.m.length p.c := by
     simp only [lsCl, List.getElem?_cons_zero, Option.some.injEq] at hu
     exact hu.symm
    subst hu'
    exact ⟨World.cell?_setCell_same _ _ _ old.1, (World.frozen?_setCell _ _ _ _).trans old.2⟩
   ·rw [List.getElem_set_ne (Ne.symm e)] at hu
    have hu' : u = .slice rs[i].a rs[i].m.length rs[i].c := by
     simp only [lsCl, List.getElem?_cons_zero, Option.some.injEq] at hu
     exact hu.symm
    subst hu'
    exact ⟨sO old.1 (.inr (by omega)), (World.frozen?_setCell _ _ _ _).trans old.2⟩
 ·obtain ⟨i, hi, rfl⟩ := List.mem_iff_getElem.1 hq
  rw [List.length_set] at hi
  by_cases e : i = k
  ·subst e
   rw [List.getElem_set_self]
   refine oth hp ?_
   rcases hnew with q | q
   ·exact .inl q
   ·exact .inr q.1
  ·rw [List.getElem_set_ne (Ne.symm e)]
   refine oth (h5 _ (List.getElem_mem hi)) ?_
   exact h6.2 i hi
 ·have hi' : i < rs.length := by simpa using hi
  have hj' : j < rs.length := by simpa using hj
  by_cases e : i = k
  ·subst e
   rw [List.getElem_set_self, List.getElem_set_ne hij]
   rcases hnew with q | q
   ·exact .inl q
   ·rcases q.2.2.2 j hj' (Ne.symm hij) with q' | q'
    ·exact .inr (.inl q')
    ·exact .inr (.inr (Ne.symm q'))
  ·by_cases e' : j = k
   ·subst e'
    rw [List.getElem_set_self, List.getElem_set_ne (Ne.symm hij)]
    rcases hnew with q | q
    ·exact .inr (.inl q)
    ·rcases q.2.2.2 i hi' hij with q' | q'
     ·exact .inl q'
     ·exact .inr (.inr q')
   ·rw [List.getElem_set_ne (Ne.symm e), List.getElem_set_ne (Ne.symm e')]
    exact h6.1 i j hi' hj' hij
 ·have hi' : i < rs.length := by simpa using hi
  by_cases e : i = k
  ·subst e
   rw [List.getElem_set_self]
   rcases hnew with q | q
   ·exact .inl q
   ·exact .inr q.1
  ·rw [List.getElem_set_ne (Ne.symm e)]
   exact h6.2 i hi'
 ·by_cases hs : ss = []
  ·exact .inl hs
  ·have q := h8.resolve_left hs
   refine .inr ⟨.inr (q.1.resolve_left hne), fun x hx => ?_⟩
   rcases List.mem_or_eq_of_mem_set hx with hx | rfl
   ·exact q.2 x hx
   ·rcases hnew with r | r
    ·exact .inl r
    ·exact .inr (Ne.symm (r.2.1.resolve_left hs))
 ·by_cases hs : es = []
  ·exact .inl hs
  ·have q := h9.resolve_left hs
   refine .inr ⟨.inr (q.1.resolve_left hne), fun x hx => ?_⟩
   rcases List.mem_or_eq_of_mem_set hx with hx | rfl
   ·exact q.2 x hx
   ·rcases hnew with r | r
    ·exact .inl r
    ·exact .inr (Ne.symm (r.2.2.1.resolve_left hs))
theorem OwM.toldNew {lo hi B : Nat} {sv ev : Value} {rs : List (Nst (List Int))} {ss : List Int} {es : List Ent} {W : World} {g o n cap k : Nat} {p : Nst (List Int)} (h : OwM lo hi sv ev (.slice (some ⟨g, o, none⟩) n cap) rs ss es W) (hk : k < rs.length) (hB : hi ≤ B) (hBW : B ≤ W.heap.size) (hl : lo ≤ B) (hp : OwnN W B (Sv idL p) p.m) :
  OwM lo W.heap.size sv ev (.slice (some ⟨g, o, none⟩) n cap) (rs.set k p) ss es (W.setCell ⟨g, o + k, none⟩ (.slice p.a p.m.length p.c)) := by
 have hne : rs ≠ [] := fun e => by rw [e] at hk; simp at hk
 have hg1 : lo ≤ g := (h.2.2.1.1.geG).resolve_left hne
 have hg2 : g < hi := (h.2.2.1.2.1).resolve_left hne
 refine (h.wide (Nat.le_refl _) (by omega)).told hk ⟨hg1, by omega⟩ ⟨hp.mono hl, hp.bs.lt⟩ ?_
 rcases hp.ge with q | q
 ·exact .inl q
 ·refine .inr ⟨by omega, ?_, ?_, fun i hi' _ => ?_⟩
  ·rcases h.1.2 with r | r
   ·exact .inl r
   ·exact .inr (by omega)
  ·rcases h.2.1.2 with r | r
   ·exact .inl r
   ·exact .inr (by omega)
  ·rcases (h.2.2.1.2.2.1 _ (List.getElem_mem hi')).2 with r | r
   ·exact .inl r
   ·exact .inr (by omega)
theorem OwM.cell {lo hi : Nat} {sv ev : Value} {a : Option Addr} {n cap k : Nat} {rs : List (Nst (List Int))} {ss : List Int} {es : List Ent} {W : World} (h : OwM lo hi sv ev (.slice a n cap) rs ss es W) (hk : k < rs.length) : ∃ g o, a = some ⟨g, o, none⟩ ∧ W.cell? ⟨g, o + k, none⟩ = some (.slice rs[k].a rs[k].m.length rs[k].c) ∧ W.frozen? ⟨g, o + k, none⟩ = false ∧ Ns W (.slice rs[k].a rs[k].m.length rs[k].c) rs[k].m := by
 obtain ⟨q0, a', c, e, qc, q⟩ := h.2.2.1.1
 cases e
 rcases q with q | ⟨b', off, rfl, hb', hc⟩
 ·rw [q] at hk; simp at hk
 ·have z := hc k hk 0 _ rfl
  simp only [Nat.mul_one, Nat.add_zero] at z
  exact ⟨b', off, rfl, z.1, z.2, (h.2.2.1.2.2.1 _ (List.getElem_mem hk)).rd⟩
end Go.Proofs.YtjkjmapibcfcdaaGreat
