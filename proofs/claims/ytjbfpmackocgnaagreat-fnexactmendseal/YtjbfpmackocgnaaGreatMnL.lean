/- impl's: a node is told of in a list. -/
import Derived.Test.YtjbfpmackocgnaaGreatWrT
import Derived.Test.YtjbfpmackocgnaaGreatSrP
import Derived.Test.YtjbfpmackocgnaaGreatMnK
import Derived.Deep.RegionHeld3
import Derived.Deep.DeepCutAuto
namespace Go.Proofs.YtjbfpmackocgnaaGreat
open Go.ChangeShapes Go.WideShapes Go.ChangeAt Go.RowKit
set_option linter.unusedVariables false
set_option linter.unusedSimpArgs false
set_option maxRecDepth 100000

theorem grB {w w' : World} {r : Option Nat} (h : Below w.heap.size w w') : w.grownBy w' r := ⟨h.os, h.tape, h.output, h.size, fun j hj _ => h.block j hj⟩
set_option maxHeartbeats 4000000 in
theorem withNode_any (W : World) (lo : Nat) (ya : Option Addr) (yc : Nat) (yn : List Int) (x : Int) (hR : RmN W lo (.slice ya yn.length yc) yn) (hlo : lo ≤ W.heap.size) (hs : yn.Pairwise (· < ·)) (hl : yn.length ≤ 1048576) :
    Calls Tryz.prog 103 #[.slice ya yn.length yc, .int .i64 x] W fun e w' => ∃ pa pc, e = .returned (.slice pa (putL x yn).length pc) ∧ RmN w' lo (.slice pa (putL x yn).length pc) (putL x yn) ∧ W.grownBy w' (touch (.slice ya yn.length yc)) ∧ ((yn ≠ [] ∧ blockOf (.slice pa (putL x yn).length pc) = blockOf (.slice ya yn.length yc)) ∨ W.heap.size ≤ blockOf (.slice pa (putL x yn).length pc)) := by
  have ba : ∀ (w : World) o, Below w.heap.size w (w.alloc o) := fun w o => (Below.refl _ _).alloc (Nat.le_refl _) o
  have hnn : putL x yn ≠ [] := fun e => by have : x ∈ putL x yn := mem_putL.2 (.inl rfl); rw [e] at this; simp at this
  have PN : Hid (x ∉ yn → yn.take (yn.countP (· < x)) ++ x :: yn.drop (yn.countP (· < x)) = putL x yn) := fun h => by unfold putL; rw [if_neg h]; exact putA_at hs h
  have PO : Hid (x ∈ yn → putL x yn = yn) := fun h => by unfold putL; rw [if_pos h]
  have hcp : yn.countP (· < x) ≤ yn.length := List.countP_le_length
  have hxc : Hid (yn.contains x = true ↔ x ∈ yn) := by simp [Hid]
  have CB := dHide (searchI_any ya yc yn x W hR.bs hs hl)
  have HR := dHide hR
  have UL : Hid (∀ j, touch (.slice ya yn.length yc) = some j → j < W.heap.size) := fun j hj => by
    obtain ⟨h1, h2⟩ := hR.touch hj
    rw [h2]
    exact hR.bs.lt.resolve_left h1
  have HNN := dHide hnn
  generalize hms : putL x yn = ns at *
  clear hR hs hnn hms
  go_enter Tryz.func103, Tryz.ntmps103
  go_wp2_with fail
  refine (dUnhide CB).mono ?_
  rintro e w1 ⟨rfl, b1⟩
  have sz1 := b1.size
  generalize hct : yn.countP (· < x) = ct at *
  generalize yn.contains x = fb at *
  clear CB hct
  cases fb with
  | true =>
    have e1 := dUnhide PO ((dUnhide hxc).1 rfl)
    clear PN PO
    subst e1
    go_wp2_with fail
    go_returns
    exact ⟨ya, yc, rfl, (dUnhide HR).below b1, grB b1, .inl ⟨dUnhide HNN, rfl⟩⟩
  | false =>
    have e1 := dUnhide PN (fun h => by have := (dUnhide hxc).2 h; cases this)
    have bB := ba w1 (.cells #[.int .i64 x] 3)
    have R2 := dHide ((dUnhide HR).below (belowThen b1 bB))
    have CI := dHide (insN_any (.slice ya yn.length yc) yn x (w1.alloc (.cells #[.int .i64 x] 3)) lo ct w1.heap.size 3 (dUnhide R2).1 (by simpa [iCl] using (MapKept.heap_alloc w1 (.cells #[.int .i64 x] 3)).1) (fun e => by have := dUnhide UL _ e; omega) hl hcp (by simp; omega))
    rw [e1] at CI
    have BB := dHide (belowThen b1 bB)
    have szB : Hid ((w1.alloc (.cells #[.int .i64 x] 3)).heap.size = w1.heap.size + 1) := by simp [Hid]
    clear PN PO e1 bB
    go_wp2_with fail
    refine (dUnhide CI).mono ?_
    rintro e w5 ⟨v', rfl, hA, hg, ht⟩
    obtain ⟨pa, pc, rfl⟩ := ApR.slice elemI hA
    have hto := touch_at hA (dUnhide HNN)
    have HH : Hid (∃ qa qc, (Ending.returned (.slice pa ns.length pc)) = .returned (.slice qa ns.length qc) ∧ RmN w5 lo (.slice qa ns.length qc) ns ∧ W.grownBy w5 (touch (.slice ya yn.length yc)) ∧ ((yn ≠ [] ∧ blockOf (.slice qa ns.length qc) = blockOf (.slice ya yn.length yc)) ∨ W.heap.size ≤ blockOf (.slice qa ns.length qc))) := by
      refine ⟨pa, pc, rfl, ⟨hA, fun e => absurd e (dUnhide HNN)⟩, grownR_trans (grB (dUnhide BB)) hg, ?_⟩
      rcases ht with h | h
      · exact .inl ((dUnhide HR).touch (h.symm.trans hto))
      · have := h _ hto
        have q := dUnhide szB
        exact .inr (by omega)
    clear hA hg ht hto R2 CI BB
    go_wp2_with fail
    go_returns
    exact dUnhide HH
/-- One list of theirs is another; what they hang on, by name. -/
theorem OwM.toldP {lo hi : Nat} {sv ev : Value} {rs : List (Nst (List Int))} {ss : List Int} {es : List Ent} {W : World} {g o n cap k : Nat} {p : Nst (List Int)} (h1 : OwN lo hi sv ss W) (h2 : OwEntryS lo hi ev es W) (h3 : OwnRw 1 lsCl W lo (.slice (some ⟨g, o, none⟩) n cap) rs) (h5 : ∀ i (hi' : i < rs.length), i ≠ k → OwN lo hi (Sv idL rs[i]) rs[i].m W) (h6 : Apart idL (.slice (some ⟨g, o, none⟩) n cap) rs) (h7 : ss = [] ∨ es = [] ∨ blockOf sv ≠ blockOf ev) (h8 : ss = [] ∨ Off (blockOf sv) (.slice (some ⟨g, o, none⟩) n cap) rs) (h9 : es = [] ∨ Off (blockOf ev) (.slice (some ⟨g, o, none⟩) n cap) rs) (hk : k < rs.length) (hg : lo ≤ g ∧ g < hi) (hp : OwN lo hi (Sv idL p) p.m W) (hnew : p.m = [] ∨ (blockOf (Sv idL p) ≠ g ∧ (ss = [] ∨ blockOf sv ≠ blockOf (Sv idL p)) ∧ (es = [] ∨ blockOf ev ≠ blockOf (Sv idL p)) ∧ ∀ i (hi : i < rs.length), i ≠ k → rs[i].m = [] ∨ blockOf (Sv idL rs[i]) ≠ blockOf (Sv idL p))) :
    OwM lo hi sv ev (.slice (some ⟨g, o, none⟩) n cap) (rs.set k p) ss es (W.setCell ⟨g, o + k, none⟩ (.slice p.a p.m.length p.c)) := by
  have hne : rs ≠ [] := fun e => by rw [e] at hk; simp at hk
  have hgb : blockOf (.slice (some ⟨g, o, none⟩) n cap) = g := rfl
  have oth : ∀ {x : Value} {l : List Int}, OwN lo hi x l W → (l = [] ∨ blockOf x ≠ g) → OwN lo hi x l (W.setCell ⟨g, o + k, none⟩ (.slice p.a p.m.length p.c)) := fun {x l} q hq => q.putW hq _
  refine ⟨oth h1 ?_, h2.keepB ?_, ⟨?_, .inr hg.2, fun q hq => ?_, ⟨fun i j hi hj hij => ?_, fun i hi => ?_⟩⟩, h7, ?_, ?_⟩
  · rcases h8 with q | q
    · exact .inl q
    · exact .inr fun e => (q.1.resolve_left hne) (by rw [hgb, e])
  · rcases h9 with q | q
    · exact .inl q
    · exact .inr (Below.heap_setCell _ _ _ _ (fun e => (q.1.resolve_left hne) (by rw [hgb]; simpa using e.symm)))
  · obtain ⟨q0, a, c, e, qc, q⟩ := h3
    cases e
    refine ⟨by rw [List.length_set]; exact q0, _, _, by rw [List.length_set], by rw [List.length_set]; exact qc, .inr ?_⟩
    rcases q with q | ⟨b', off, e1, hb', hc⟩
    · exact absurd q hne
    · cases e1
      refine ⟨g, o, rfl, hg.1, fun i hi j u hu => ?_⟩
      rw [List.length_set] at hi
      have hj0 : j = 0 := by
        rcases Nat.eq_zero_or_pos j with q | q
        · exact q
        · rw [List.getElem?_eq_none (by rw [lsCl_len]; exact q)] at hu
          cases hu
      subst hj0
      simp only [Nat.mul_one, Nat.add_zero]
      have old := hc i hi 0 _ rfl
      simp only [Nat.mul_one, Nat.add_zero] at old
      by_cases e : i = k
      · subst e
        rw [List.getElem_set_self] at hu
        have hu' : u = .slice p.a p.m.length p.c := by
          simp only [lsCl, List.getElem?_cons_zero, Option.some.injEq] at hu
          exact hu.symm
        subst hu'
        exact ⟨World.cell?_setCell_same _ _ _ old.1, (World.frozen?_setCell _ _ _ _).trans old.2⟩
      · rw [List.getElem_set_ne (Ne.symm e)] at hu
        have hu' : u = .slice rs[i].a rs[i].m.length rs[i].c := by
          simp only [lsCl, List.getElem?_cons_zero, Option.some.injEq] at hu
          exact hu.symm
        subst hu'
        exact ⟨set_other old.1 (.inr (by omega)), (World.frozen?_setCell _ _ _ _).trans old.2⟩
  · obtain ⟨i, hi, rfl⟩ := List.mem_iff_getElem.1 hq
    rw [List.length_set] at hi
    by_cases e : i = k
    · subst e
      rw [List.getElem_set_self]
      refine oth hp ?_
      rcases hnew with q | q
      · exact .inl q
      · exact .inr q.1
    · rw [List.getElem_set_ne (Ne.symm e)]
      refine oth (h5 i hi e) ?_
      exact h6.2 i hi
  · have hi' : i < rs.length := by simpa using hi
    have hj' : j < rs.length := by simpa using hj
    by_cases e : i = k
    · subst e
      rw [List.getElem_set_self, List.getElem_set_ne hij]
      rcases hnew with q | q
      · exact .inl q
      · rcases q.2.2.2 j hj' (Ne.symm hij) with q' | q'
        · exact .inr (.inl q')
        · exact .inr (.inr (Ne.symm q'))
    · by_cases e' : j = k
      · subst e'
        rw [List.getElem_set_self, List.getElem_set_ne (Ne.symm hij)]
        rcases hnew with q | q
        · exact .inr (.inl q)
        · rcases q.2.2.2 i hi' hij with q' | q'
          · exact .inl q'
          · exact .inr (.inr q')
      · rw [List.getElem_set_ne (Ne.symm e), List.getElem_set_ne (Ne.symm e')]
        exact h6.1 i j hi' hj' hij
  · have hi' : i < rs.length := by simpa using hi
    by_cases e : i = k
    · subst e
      rw [List.getElem_set_self]
      rcases hnew with q | q
      · exact .inl q
      · exact .inr q.1
    · rw [List.getElem_set_ne (Ne.symm e)]
      exact h6.2 i hi'
  · by_cases hs : ss = []
    · exact .inl hs
    · have q := h8.resolve_left hs
      refine .inr ⟨.inr (q.1.resolve_left hne), fun x hx => ?_⟩
      rcases List.mem_or_eq_of_mem_set hx with hx | rfl
      · exact q.2 x hx
      · rcases hnew with r | r
        · exact .inl r
        · exact .inr (Ne.symm (r.2.1.resolve_left hs))
  · by_cases hs : es = []
    · exact .inl hs
    · have q := h9.resolve_left hs
      refine .inr ⟨.inr (q.1.resolve_left hne), fun x hx => ?_⟩
      rcases List.mem_or_eq_of_mem_set hx with hx | rfl
      · exact q.2 x hx
      · rcases hnew with r | r
        · exact .inl r
        · exact .inr (Ne.symm (r.2.2.1.resolve_left hs))
theorem ImM.acked {W w5 : World} {lo g o n cap k : Nat} {sv ev : Value} {rs : List (Nst (List Int))} {ss ns : List Int} {es : List Ent} {pa : Option Addr} {pc : Nat} (h : ImM W lo sv ev (.slice (some ⟨g, o, none⟩) n cap) rs ss es) (hk : k < rs.length) (hG : W.grownBy w5 (touch (Sv idL rs[k]))) (hR : RmN w5 lo (.slice pa ns.length pc) ns) (hb : (rs[k].m ≠ [] ∧ blockOf (.slice pa ns.length pc) = blockOf (Sv idL rs[k])) ∨ W.heap.size ≤ blockOf (.slice pa ns.length pc)) :
    OwM lo w5.heap.size sv ev (.slice (some ⟨g, o, none⟩) n cap) (rs.set k ⟨pa, pc, ns⟩) ss es (w5.setCell ⟨g, o + k, none⟩ (.slice pa ns.length pc)) := by
  have hne : rs ≠ [] := fun e => by rw [e] at hk; simp at hk
  have hgb : blockOf (.slice (some ⟨g, o, none⟩) n cap) = g := rfl
  have M := h.owm
  obtain ⟨h1, h2, h3, h4, h5, h6, h7, h8⟩ := h
  obtain ⟨m1, m2, ⟨m3, m4, m5, m6⟩, m7, m8, m9⟩ := M
  have hgl : g < W.heap.size := m4.resolve_left hne
  have hs5 : W.heap.size ≤ w5.heap.size := hG.size
  have KP : ∀ j, j < W.heap.size → (rs[k].m = [] ∨ blockOf (Sv idL rs[k]) ≠ j) → w5.heap[j]? = W.heap[j]? := fun j hj hn => hG.block j hj (fun e => by
    obtain ⟨q1, q2⟩ := (h4 _ (List.getElem_mem hk)).touch e.symm
    rcases hn with q | q
    · exact q1 q
    · exact q q2.symm)
  have hkg : rs[k].m = [] ∨ blockOf (Sv idL rs[k]) ≠ g := m6.2 k hk
  have hlo : lo ≤ g := (m3.geG).resolve_left hne
  refine OwM.toldP (p := ⟨pa, pc, ns⟩) (m1.wide (Nat.le_refl _) hs5 |>.keepB ?_) (m2.wide (Nat.le_refl _) hs5 |>.keepB ?_) ?_ (fun i hi hik => ((m5 _ (List.getElem_mem hi)).wide (Nat.le_refl _) hs5).keepB ?_) m6 m7 m8 m9 hk ⟨hlo, by omega⟩ ⟨hR.own, hR.bs.lt⟩ (.inr ⟨?_, ?_, ?_, fun i hi hik => ?_⟩)
  · rcases m8 with q | q
    · exact .inl q
    · rcases m1.2 with q' | q'
      · exact .inl q'
      · exact .inr (KP _ q' (q.2 _ (List.getElem_mem hk)))
  · rcases m9 with q | q
    · exact .inl q
    · rcases m2.2 with q' | q'
      · exact .inl q'
      · exact .inr (KP _ q' (q.2 _ (List.getElem_mem hk)))
  · have hh := KP g hgl hkg
    obtain ⟨q0, a, c, e, qc, q⟩ := m3
    cases e
    refine ⟨q0, _, _, rfl, qc, q.imp id ?_⟩
    rintro ⟨b', off, e1, hb', hc⟩
    cases e1
    refine ⟨g, o, rfl, hb', fun i hi j u hu => ?_⟩
    have q := hc i hi j u hu
    simp only [World.cell?, World.frozen?] at q ⊢
    rw [hh]
    exact q
  · rcases m6.1 k i hk hi (Ne.symm hik) with q | q | q
    · rcases (m5 _ (List.getElem_mem hi)).2 with q' | q'
      · exact .inl q'
      · exact .inr (KP _ q' (.inl q))
    · exact .inl q
    · rcases (m5 _ (List.getElem_mem hi)).2 with q' | q'
      · exact .inl q'
      · exact .inr (KP _ q' (.inr q))
  · show blockOf (.slice pa ns.length pc) ≠ g
    rcases hb with q | q
    · rw [q.2]
      exact hkg.resolve_left q.1
    · omega
  · show ss = [] ∨ blockOf sv ≠ blockOf (.slice pa ns.length pc)
    rcases hb with q | q
    · rcases m8 with r | r
      · exact .inl r
      · refine .inr ?_
        rw [q.2]
        exact Ne.symm ((r.2 _ (List.getElem_mem hk)).resolve_left q.1)
    · rcases m1.2 with r | r
      · exact .inl r
      · exact .inr (by omega)
  · show es = [] ∨ blockOf ev ≠ blockOf (.slice pa ns.length pc)
    rcases hb with q | q
    · rcases m9 with r | r
      · exact .inl r
      · refine .inr ?_
        rw [q.2]
        exact Ne.symm ((r.2 _ (List.getElem_mem hk)).resolve_left q.1)
    · rcases m2.2 with r | r
      · exact .inl r
      · exact .inr (by omega)
  · show rs[i].m = [] ∨ blockOf (Sv idL rs[i]) ≠ blockOf (.slice pa ns.length pc)
    rcases hb with q | q
    · rcases m6.1 i k hi hk hik with r | r | r
      · exact .inl r
      · exact absurd r q.1
      · exact .inr (by rw [q.2]; exact r)
    · rcases (m5 _ (List.getElem_mem hi)).2 with r | r
      · exact .inl r
      · exact .inr (by omega)
end Go.Proofs.YtjbfpmackocgnaaGreat
