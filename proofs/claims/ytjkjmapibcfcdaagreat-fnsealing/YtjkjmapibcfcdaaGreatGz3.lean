/- Several texts in one: MdI, UnA, KdP, SlF. -/
import Derived.Test.YtjkjmapibcfcdaaGreatMdE
import Derived.Test.YtjkjmapibcfcdaaGreatGz8
import Derived.Test.YtjkjmapibcfcdaaGreatGx1
import Derived.Deep.RegionLaw
import Derived.Deep.RegionHeld3
import Derived.Deep.DeepCutAuto
import Derived.Test.YtjkjmapibcfcdaaGreatGbE
namespace Go.Proofs.YtjkjmapibcfcdaaGreat
open Go.ChangeShapes Go.WideShapes Go.ChangeAt Go.RowKit
set_option linter.unusedSimpArgs false
set_option linter.unusedVariables false
set_option maxRecDepth 100000
theorem OwnN.blk_lt {w : World} {base : Nat} {v : Value} {xs : List Int} (h : OwnN w base v xs) : xs = [] ∨ bO v < w.heap.size := by
 obtain ⟨h0, a, cap, rfl, h1, h2⟩ := h
 rcases h2 with h2 | ⟨b, off, rfl, hb, hc⟩
 ·exact .inl h2
 ·by_cases e : xs = []
  ·exact .inl e
  ·exact .inr (dCell_lt (hc 0 (List.length_pos_iff.2 e)).1)
def bareM (m : Mn) : Mn := ⟨m.bye, m.epoch, m.sealed, m.seen, false, []⟩
theorem OwMend.bareP {lo hi : Nat} {sv ev wv b0 b1 : Value} {pl : Bool} {m : Mn} {W : World} (h : OwMend lo hi (.agg #[b0, b1, sv, ev, .bool pl, wv]) m W) : OwMend lo hi (.agg #[.int .i64 m.bye, .int .i64 m.epoch, sv, ev, .bool false, .slice none 0 0]) (bareM m) W := by
 obtain ⟨sv', ev', wv', rs, e, h1, h2, h3, h4, h5, h6, h7⟩ := h
 simp only [Value.agg.injEq] at e
 have e' := congrArg Array.toList e
 simp only [List.cons.injEq] at e'
 obtain ⟨-, -, rfl, rfl, -, -, -⟩ := e'
 exact ⟨sv, ev, .slice none 0 0, [], rfl, rfl, h2, h3, ⟨OwnRw.nil _ _ _ _ (by omega), .inl rfl, (fun p h => by cases h), ⟨(fun i j hi => by simp at hi), fun i hi => by simp at hi⟩⟩, h5, h6.imp id fun _ => ⟨.inl rfl, fun p h => by cases h⟩, h7.imp id fun _ => ⟨.inl rfl, fun p h => by cases h⟩⟩
theorem fitN.bare {m : Mn} (h : fitN m) : fitN (bareM m) := by
 obtain ⟨h1, h2, h3, h4, h5⟩ := h
 exact ⟨⟨h1.1, h1.2.1, h1.2.2.1, h1.2.2.2.1, fun l hl => by cases hl⟩, h2, h3, Nat.zero_le _, fun l hl => by cases hl⟩
structure PlS (w : World) (bk lo xb : Nat) (ca : Option Addr) (cc : Nat) (ds : List Int) (cop : Int) (m : Mn) (q : Pm) (W : World) : Prop where
 z : BxZ W w.heap.size w.heap.size [.slice none 0 0, .int .i64 0]
 y : BxZ W w.heap.size (w.heap.size + 1) [.int .i64 0, .int .i64 0, .slice none 0 0, .slice none 0 0, .bool false, .slice none 0 0]
 t : BxZ W 0 xb [.slice ca ds.length cc, .int .i64 cop]
 u : BxZ W 0 (xb + 1) [.int .i64 m.bye, .int .i64 m.epoch, .slice q.sa m.sealed.length q.sc, .slice q.ea m.seen.length q.ec, .bool m.planned, .slice q.wa m.wrote.length q.wc]
 o : OwMend lo xb (.agg #[.int .i64 m.bye, .int .i64 m.epoch, .slice q.sa m.sealed.length q.sc, .slice q.ea m.seen.length q.ec, .bool m.planned, .slice q.wa m.wrote.length q.wc]) m W
 c : OwnN W lo (.slice ca ds.length cc) ds
 k : Cur W bk
 b : Below w.heap.size w W
 s : xb + 2 ≤ W.heap.size
 f : fitN m
theorem keepL_lt {e x : Ent} {l : List Ent} (h : x.pl < e.pl) : keepL e (x :: l) = x :: keepL e l := by
 conv => lhs; unfold keepL
 rw [if_neg (by omega), if_neg (by omega)]
theorem keepL_gt {e x : Ent} {l : List Ent} (h : e.pl < x.pl) : keepL e (x :: l) = e :: x :: l := by
 conv => lhs; unfold keepL
 rw [if_neg (by omega), if_pos h]
theorem keepL_eq {e x : Ent} {l : List Ent} (h : x.pl = e.pl) : keepL e (x :: l) = better x e :: l := by
 conv => lhs; unfold keepL
 rw [if_pos h]
theorem keepL_dom {e x : Ent} : ∀ {acc : List Ent}, x ∈ acc ∨ x = e → ∃ o ∈ keepL e acc, o.pl = x.pl ∧ x.wave ≤ o.wave := by
 intro acc
 induction acc with
 | nil =>
  rintro (h | rfl)
  ·cases h
  ·exact ⟨x, by simp [keepL], rfl, by omega⟩
 | cons a l ih =>
  intro h
  rcases Int.lt_trichotomy a.pl e.pl with h1 | h1 | h1
  ·rw [keepL_lt h1]
   rcases h with h | rfl
   ·rcases List.mem_cons.1 h with rfl | h
    ·exact ⟨x, by simp, rfl, by omega⟩
    ·obtain ⟨o, ho, q⟩ := ih (.inl h)
     exact ⟨o, by simp [ho], q⟩
   ·obtain ⟨o, ho, q⟩ := ih (.inr rfl)
    exact ⟨o, by simp [ho], q⟩
  ·rw [keepL_eq h1]
   have hb : a.wave ≤ (better a e).wave ∧ e.wave ≤ (better a e).wave := by
    unfold better
    split <;> omega
   rcases h with h | rfl
   ·rcases List.mem_cons.1 h with rfl | h
    ·exact ⟨better x e, by simp, better_pl h1, hb.1⟩
    ·exact ⟨x, by simp [h], rfl, by omega⟩
   ·exact ⟨better a x, by simp, by rw [better_pl h1]; exact h1, hb.2⟩
  ·rw [keepL_gt h1]
   rcases h with h | rfl
   ·exact ⟨x, by simp [List.mem_cons.1 h], rfl, by omega⟩
   ·exact ⟨x, by simp, rfl, by omega⟩
theorem seeL_kept {ep : Int} : ∀ {list s : List Ent} {x : Ent}, x ∈ s → ∃ o ∈ seeL ep s list, o.pl = x.pl ∧ x.wave ≤ o.wave
 | [], s, x, h => ⟨x, h, rfl, Int.le_refl _⟩
 | e :: l, s, x, h => by
  unfold seeL
  rw [List.foldl_cons]
  by_cases hx : epL e.pl = ep
  ·rw [if_pos hx]
   obtain ⟨o, ho, h1, h2⟩ := keepL_dom (e := e) (acc := s) (x := x) (.inl h)
   obtain ⟨o', ho', h3, h4⟩ := seeL_kept (ep := ep) (list := l) ho
   exact ⟨o', ho', h3.trans h1, Int.le_trans h2 h4⟩
  ·rw [if_neg hx]
   exact seeL_kept (ep := ep) (list := l) h
theorem seeL_came {ep : Int} : ∀ {list s : List Ent} {x : Ent}, x ∈ list → epL x.pl = ep → ∃ o ∈ seeL ep s list, o.pl = x.pl ∧ x.wave ≤ o.wave
 | [], s, x, h, _ => by cases h
 | e :: l, s, x, h, hp => by
  unfold seeL
  rw [List.foldl_cons]
  rcases List.mem_cons.1 h with rfl | h
  ·rw [if_pos hp]
   obtain ⟨o, ho, h1, h2⟩ := keepL_dom (e := x) (acc := s) (x := x) (.inr rfl)
   obtain ⟨o', ho', h3, h4⟩ := seeL_kept (ep := ep) (list := l) ho
   exact ⟨o', ho', h3.trans h1, Int.le_trans h2 h4⟩
  ·exact seeL_came (ep := ep) (list := l) h hp
theorem seal9_true {ds : List Int} {cop node : Int} {m n : Mn} {list : List Ent} (h : seal9M ds cop m node list = (n, true)) :
  mnP ds cop m ∧ mnP ds cop n ∧ n.planned = false ∧ node ∈ n.sealed ∧ (∀ e ∈ list, epL e.pl = m.epoch → ∃ o ∈ n.seen, o.pl = e.pl ∧ e.wave ≤ o.wave) ∧ ∀ e ∈ m.seen, ∃ o ∈ n.seen, o.pl = e.pl ∧ e.wave ≤ o.wave := by
 by_cases hm : mnP ds cop m
 ·by_cases hp : seal9P ds cop m node list
  ·rw [seal9M_yes hm hp] at h
   cases h
   refine ⟨hm, hp.2, hp.1, ?_, fun e he hx => seeL_came he hx, fun e he => seeL_kept he⟩
   show node ∈ putL node m.sealed
   unfold putL
   split
   ·assumption
   ·exact mem_putA.2 (.inl rfl)
  ·rw [seal9M_no hm hp] at h; cases h
 ·rw [seal9M_bad hm] at h; cases h
theorem seal9_false {ds : List Int} {cop node : Int} {m n : Mn} {list : List Ent} (h : seal9M ds cop m node list = (n, false)) : n = m ∨ n = zeroMn := by
 by_cases hm : mnP ds cop m
 ·by_cases hp : seal9P ds cop m node list
  ·rw [seal9M_yes hm hp] at h; cases h
  ·rw [seal9M_no hm hp] at h; cases h; exact .inl rfl
 ·rw [seal9M_bad hm] at h; cases h; exact .inr rfl
end Go.Proofs.YtjkjmapibcfcdaaGreat
