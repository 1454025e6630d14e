/- impl's MendForget: a node is forgotten in each list. -/
import Derived.Test.YtoeamgcoeoaijaaGreatGz8
import Derived.Test.YtoeamgcoeoaijaaGreatGz10
import Derived.Test.YtoeamgcoeoaijaaGreatShelf
import Derived.Deep.RegionHeld3
import Derived.Deep.DeepCutAuto
import Derived.Deep.LoopGhost
namespace Go.Proofs.YtoeamgcoeoaijaaGreat
open Go.ChangeShapes Go.WideShapes Go.ChangeAt Go.RowKit
set_option linter.unusedVariables false
set_option linter.unusedSimpArgs false
set_option maxRecDepth 100000

theorem grown_putRow (w : World) (q b off : Nat) (d : Array Int) : w.grownBy (Go.Sort.putRow (Value.int .i64) (Go.Sort.ahead w q) b off d) (some b) :=
 ⟨rfl, rfl, rfl, by simp [Go.Sort.putRow, Go.Sort.mapBlock, Go.Sort.ahead], fun j hj hne => by
  have h : b ≠ j := fun e => hne (by rw [e])
  simp [Go.Sort.putRow, Go.Sort.mapBlock, Go.Sort.ahead, Array.getElem?_modify, h]⟩
theorem delN_any (b off cap k : Nat) (xs : List Int) (base : Nat) (w : World) (ho : OwnN w base (.slice (some ⟨b, off, none⟩) xs.length cap) xs) (hk : k < xs.length) :
  Calls Tryz.prog 122 #[.slice (some ⟨b, off, none⟩) xs.length cap, .int .i64 (k : Int), .int .i64 ((k : Int) + 1)] w fun e w' => e = .returned (.slice (some ⟨b, off, none⟩) (xs.take k ++ xs.drop (k + 1)).length cap) ∧ OwnN w' base (.slice (some ⟨b, off, none⟩) (xs.take k ++ xs.drop (k + 1)).length cap) (xs.take k ++ xs.drop (k + 1)) ∧ w.grownBy w' (some b) := by
 have hcap : xs.length ≤ cap ∧ cap ≤ 9223372036854775807 := by
  obtain ⟨-, a', c', e, h, -⟩ := ho
  simp only [Value.slice.injEq] at e
  obtain ⟨-, -, rfl⟩ := e
  exact h
 obtain ⟨h0, a, c, e, -, h⟩ := ho
 simp only [Value.slice.injEq] at e
 obtain ⟨rfl, -, rfl⟩ := e
 have hne : xs ≠ [] := fun e => by rw [e] at hk; simp at hk
 obtain ⟨b', off', e, hb, hc⟩ := h.resolve_left hne
 cases e
 have hH : Go.Sort.Holds (Value.int .i64) w b off xs.toArray := fun j hj => by
  have hj' : j < xs.length := by simpa using hj
  rw [getElem!_pos xs.toArray j hj]
  exact hc j hj'
 have C := Tryz.slices_Delete_int b off cap k (k + 1) xs w hH hcap.1 hcap.2 (by omega) (by omega)
 refine C.mono ?_
 rintro e w' ⟨rfl, q, rfl⟩
 have hl : (xs.take k ++ xs.drop (k + 1)).length = xs.length - (k + 1 - k) := by
  rw [List.length_append, List.length_take, List.length_drop]; omega
 refine ⟨by rw [hl], ?_, grown_putRow _ _ _ _ _⟩
 have H2 := Go.Sort.holds_putRow (Value.int .i64) (Go.Sort.ahead w q) b off xs.toArray (xs.take k ++ xs.drop (k + 1) ++ List.replicate (k + 1 - k) 0).toArray (Go.Sort.holds_ahead (Value.int .i64) w q b off _ hH) (by
  simp only [List.size_toArray, List.length_append, List.length_take, List.length_drop, List.length_replicate]; omega)
 refine ⟨by rw [hl]; omega, _, _, rfl, ⟨by rw [hl]; omega, hcap.2⟩, .inr ⟨b, off, rfl, hb, fun i hi => ?_⟩⟩
 have hs : i < (xs.take k ++ xs.drop (k + 1) ++ List.replicate (k + 1 - k) 0).toArray.size := by
  simp only [List.size_toArray, List.length_append, List.length_replicate]
  simp only [List.length_append] at hi
  omega
 have q2 := H2 i hs
 rw [getElem!_pos _ i hs] at q2
 simp only [List.getElem_toArray] at q2
 rw [List.getElem_append_left hi] at q2
 exact q2
theorem lessL_split {ls bs : List Int} {x : Int} (h : (ls ++ x :: bs).Pairwise (· < ·)) : lessL (ls ++ x :: bs) [x] = ls ++ bs := by
 rw [List.pairwise_append, List.pairwise_cons] at h
 obtain ⟨-, ⟨h3, -⟩, h4⟩ := h
 have f1 : ls.filter (fun y => !([x].contains y)) = ls := by
  rw [List.filter_eq_self]
  intro a ha
  have := h4 a ha x (by simp)
  have hne : a ≠ x := by omega
  simp [hne]
 have f2 : bs.filter (fun y => !([x].contains y)) = bs := by
  rw [List.filter_eq_self]
  intro a ha
  have := h3 a ha
  have hne : a ≠ x := by omega
  simp [hne]
 have f3 : (!([x].contains x)) = false := by simp
 unfold lessL
 rw [List.filter_append, List.filter_cons, f1, f2, f3]
 simp
theorem lessL_at {xs : List Int} {k : Nat} (hs : xs.Pairwise (· < ·)) (hk : k < xs.length) : lessL xs [xs[k]] = xs.take k ++ xs.drop (k + 1) := by
 have e : xs.take k ++ xs[k] :: xs.drop (k + 1) = xs := by
  rw [List.getElem_cons_drop]
  exact List.take_append_drop k xs
 have q := lessL_split (ls := xs.take k) (bs := xs.drop (k + 1)) (x := xs[k]) (by rw [e]; exact hs)
 rw [e] at q
 exact q
theorem lessL_none {xs : List Int} {x : Int} (h : x ∉ xs) : lessL xs [x] = xs := by
 unfold lessL
 rw [List.filter_eq_self]
 intro a ha
 have : a ≠ x := fun e => h (e ▸ ha)
 simp [this]
theorem not_mem_gt {xs : List Int} {x : Int} {k : Nat} (hs : xs.Pairwise (· < ·)) (hk : k < xs.length) (hlt : ∀ i (h : i < xs.length), i < k → xs[i] < x) (hgt : x < xs[k]) : x ∉ xs := fun hm => by
 obtain ⟨i, hi, e⟩ := List.mem_iff_getElem.1 hm
 rcases Nat.lt_or_ge i k with h | h
 ·have := hlt i hi h
  omega
 ·rcases Nat.lt_or_ge k i with h' | h'
  ·have := List.pairwise_iff_getElem.1 hs k i hk hi h'
   omega
  ·have : i = k := by omega
   subst this
   omega
theorem not_mem_end {xs : List Int} {x : Int} (hlt : ∀ i (h : i < xs.length), i < xs.length → xs[i] < x) : x ∉ xs := fun hm => by
 obtain ⟨i, hi, e⟩ := List.mem_iff_getElem.1 hm
 have := hlt i hi hi
 omega
theorem OwM.cutIn {W w5 : World} {lo g o n cap k : Nat} {sv ev : Value} {rs : List (Nst (List Int))} {ss ns : List Int} {es : List Ent} {pa : Option Addr} {pc : Nat} (h : OwM lo W.heap.size sv ev (.slice (some ⟨g, o, none⟩) n cap) rs ss es W) (hk : k < rs.length) (hne' : rs[k].m ≠ []) (hG : W.grownBy w5 (some (bO (Sv idL rs[k])))) (hR : OwnN w5 lo (.slice pa ns.length pc) ns) (hb : bO (.slice pa ns.length pc) = bO (Sv idL rs[k])) :
  OwM lo w5.heap.size sv ev (.slice (some ⟨g, o, none⟩) n cap) (rs.set k ⟨pa, pc, ns⟩) ss es (w5.setCell ⟨g, o + k, none⟩ (.slice pa ns.length pc)) := by
 have hne : rs ≠ [] := fun e => by rw [e] at hk; simp at hk
 obtain ⟨m1, m2, ⟨m3, m4, m5, m6⟩, m7, m8, m9⟩ := h
 have hgl : g < W.heap.size := m4.resolve_left hne
 have hs5 : W.heap.size ≤ w5.heap.size := hG.size
 have KP : ∀ j, j < W.heap.size → bO (Sv idL rs[k]) ≠ j → w5.heap[j]? = W.heap[j]? := fun j hj hn => hG.block j hj (fun e => hn (by cases e; rfl))
 have hkg : bO (Sv idL rs[k]) ≠ g := (m6.2 k hk).resolve_left hne'
 have hlo : lo ≤ g := (m3.geG).resolve_left hne
 refine OwM.toldP (p := ⟨pa, pc, ns⟩) (m1.wide (Nat.le_refl _) hs5 |>.keepB ?_) (m2.wide (Nat.le_refl _) hs5 |>.keepB ?_) ?_ (fun i hi hik => ((m5 _ (List.getElem_mem hi)).wide (Nat.le_refl _) hs5).keepB ?_) m6 m7 m8 m9 hk ⟨hlo, by omega⟩ ⟨hR, hR.bs.lt⟩ (.inr ⟨?_, ?_, ?_, fun i hi hik => ?_⟩)
 ·rcases m8 with q | q
  ·exact .inl q
  ·rcases m1.2 with q' | q'
   ·exact .inl q'
   ·exact .inr (KP _ q' ((q.2 _ (List.getElem_mem hk)).resolve_left hne'))
 ·rcases m9 with q | q
  ·exact .inl q
  ·rcases m2.2 with q' | q'
   ·exact .inl q'
   ·exact .inr (KP _ q' ((q.2 _ (List.getElem_mem hk)).resolve_left hne'))
 ·have hh := KP g hgl hkg
  obtain ⟨q0, a, c, e, qc, q⟩ := m3
  cases e
  refine ⟨q0, _, _, rfl, qc, q.imp id ?_⟩
  rintro ⟨b', off, e1, hb', hc⟩
  cases e1
  refine ⟨g, o, rfl, hb', fun i hi j u hu => ?_⟩
  have q := hc i hi j u hu
  simp only [World.cell?, World.frozen?] at q ⊢
  rw [hh]
  exact q
 ·rcases m6.1 k i hk hi (Ne.symm hik) with q | q | q
  ·exact absurd q hne'
  ·exact .inl q
  ·rcases (m5 _ (List.getElem_mem hi)).2 with q' | q'
   ·exact .inl q'
   ·exact .inr (KP _ q' q)
 ·show bO (.slice pa ns.length pc) ≠ g
  rw [hb]
  exact hkg
 ·show ss = [] ∨ bO sv ≠ bO (.slice pa ns.length pc)
  rcases m8 with r | r
  ·exact .inl r
  ·refine .inr ?_
   rw [hb]
   exact Ne.symm ((r.2 _ (List.getElem_mem hk)).resolve_left hne')
 ·show es = [] ∨ bO ev ≠ bO (.slice pa ns.length pc)
  rcases m9 with r | r
  ·exact .inl r
  ·refine .inr ?_
   rw [hb]
   exact Ne.symm ((r.2 _ (List.getElem_mem hk)).resolve_left hne')
 ·show rs[i].m = [] ∨ bO (Sv idL rs[i]) ≠ bO (.slice pa ns.length pc)
  rcases m6.1 i k hi hk hik with r | r | r
  ·exact .inl r
  ·exact absurd r hne'
  ·exact .inr (by rw [hb]; exact r)
set_option maxHeartbeats 8000000 in
theorem mforget9_any (W : World) (lo b : Nat) (sv ev wv : Value) (qs : List (Nst (List Int))) (node : Int) (m : Mn) (hX : BxZ W lo b [.int .i64 m.bye, .int .i64 m.epoch, sv, ev, .bool m.planned, wv]) (hq : qs.map Nst.m = m.wrote) (hI : ImM W lo sv ev wv qs m.sealed m.seen) (hF : FrM b sv ev wv qs m.sealed) (hlo : lo ≤ W.heap.size) (hsrt : ∀ l ∈ m.wrote, l.Pairwise (· < ·)) (hs : sizMend m ≤ 1048576) :
  Calls Tryz.prog 71 #[.pointer (some ⟨b, 0, none⟩), .int .i64 node] W fun e w' => e = .returned (.tuple #[]) ∧ Below lo W w' ∧ ∃ rs', BxZ w' lo b [.int .i64 m.bye, .int .i64 m.epoch, sv, ev, .bool m.planned, wv] ∧ rs'.map Nst.m = (forg9W m node).wrote ∧ OwM lo w'.heap.size sv ev wv rs' m.sealed m.seen w' := by
 have hrl : qs.length = m.wrote.length := by rw [← hq, List.length_map]
 obtain ⟨wa, wz, rfl⟩ : ∃ wa wz, wv = .slice wa m.wrote.length wz := by
  obtain ⟨-, a3, c3, rfl, -, -⟩ := hI.2.2.1.rw
  exact ⟨a3, c3, by rw [hrl]⟩
 have SR := dH hsrt
 have hwn : m.wrote.length ≤ 1048576 := by unfold sizMend sizIntSS at hs; omega
 have HWL : Hid (∀ k (h : k < m.wrote.length), m.wrote[k].length ≤ 1048576) := fun k hk => by
  have q := sumL_mem (ms := m.wrote) (k := k) hk
  unfold sizMend sizIntSS at hs
  omega
 have M0 := dH hI.owm
 have F0 := dH (Forg9.start (x := node) hq)
 have N0 := dH hF.2.2
 have X0 := dH hX
 have EW : Hid ((forg9W m node).wrote = m.wrote.map fun l => lessL l [node]) := rfl
 have p5 := (hX.2 5 _ rfl).1
 clear hI hF hX hq hsrt hs hrl
 generalize (forg9W m node).wrote = WW at *
 generalize m.bye = f0 at *
 generalize m.epoch = f1 at *
 generalize m.planned = f4 at *
 generalize m.sealed = ss at *
 generalize m.seen = es at *
 generalize m.wrote = ws at *
 go_enter Tryz.func71, Tryz.ntmps71
 go_wp2
 go_step3
 go_wp2
 go_step3
 go_wp2
 go_loopg [13] ws.length (fun g s wr => ∃ (k : Nat) (rs : List (Nst (List Int))), k + g = ws.length ∧ s = .int .i64 (k : Int) ∧ Hid (OwM lo wr.heap.size sv ev (.slice wa ws.length wz) rs ss es wr) ∧ Hid (Forg9 node ws k rs) ∧ Hid (Off b (.slice wa ws.length wz) rs) ∧ Hid (BxZ wr lo b [.int .i64 f0, .int .i64 f1, sv, ev, .bool f4, .slice wa ws.length wz]) ∧ lo ≤ wr.heap.size ∧ Below lo W wr)
 case atStart => exact ⟨0, qs, by omega, rfl, M0, F0, N0, X0, hlo, Below.refl _ _⟩
 case round =>
  obtain ⟨k, rs, hkg, rfl, hM, hF, hN, hO, hlz, hb⟩ := hrel
  clear M0 F0 N0 X0 p5
  cases gk with
  | zero =>
   have hk0 : k = ws.length := by omega
   have G9 : Hid (rs.map Nst.m = WW) := by
    show _ = _
    rw [dU EW]
    rw [hk0] at hF
    exact (dU hF).fin
   have hnl : ¬ (k : Int) < (ws.length : Int) := by omega
   clear HWL SR hF hN EW
   go_wp2
   try rw [Exit.noGoto_ret]
   go_returns
   exact ⟨rfl, hb, rs, dU hO, dU G9, dU hM⟩
  | succ g =>
   have hlt : (k : Int) < (ws.length : Int) := by omega
   have hkw : k < ws.length := by omega
   have hkl : k < rs.length := by have := (dU hF).1; omega
   obtain ⟨gb, o, rfl, c1, fz1, n1⟩ := (dU hM).cell hkl
   have ek := ((dU hF).2 k hkl hkw).2 (Nat.le_refl _)
   have srt : Hid (rs[k].m.Pairwise (· < ·)) := by
    show List.Pairwise _ _
    rw [ek]
    exact dU SR _ (List.getElem_mem hkw)
   have hlk : rs[k].m.length ≤ 1048576 := by
    rw [ek]
    exact dU HWL k hkw
   have hne : rs ≠ [] := fun e => by rw [e] at hkl; simp at hkl
   have hgo : gb ≠ b := ((dU hN).1).resolve_left hne
   have hg0 : lo ≤ gb := ((dU hM).2.2.1.1.geG).resolve_left hne
   have SK : Hid (node ∉ rs[k].m → Forg9 node ws (k + 1) rs) := fun h => (dU hF).skip hkl (lessL_none h)
   have UB : Hid (rs[k].m ≠ [] → lo ≤ bO (.slice rs[k].a rs[k].m.length rs[k].c) ∧ bO (.slice rs[k].a rs[k].m.length rs[k].c) ≠ b ∧ bO (.slice rs[k].a rs[k].m.length rs[k].c) ≠ gb) := fun h => ⟨((dU hM).2.2.1.2.2.1 _ (List.getElem_mem hkl)).1.ge.resolve_left h, ((dU hN).2 _ (List.getElem_mem hkl)).resolve_left h, ((dU hM).2.2.1.2.2.2.2 k hkl).resolve_left h⟩
   have OW : Hid (∀ wd, Below wr.heap.size wr wd → OwnN wd lo (.slice rs[k].a rs[k].m.length rs[k].c) rs[k].m) := fun wd hd => (((dU hM).below hd).2.2.1.2.2.1 _ (List.getElem_mem hkl)).1
   have CU : Hid (∀ (wd w5 : World) (pa : Option Addr) (pc : Nat), Below wr.heap.size wr wd → rs[k].m ≠ [] → wd.grownBy w5 (some (bO (.slice rs[k].a rs[k].m.length rs[k].c))) → OwnN w5 lo (.slice pa (lessL rs[k].m [node]).length pc) (lessL rs[k].m [node]) → bO (.slice pa (lessL rs[k].m [node]).length pc) = bO (.slice rs[k].a rs[k].m.length rs[k].c) → ∃ rs', OwM lo w5.heap.size sv ev (.slice (some ⟨gb, o, none⟩) ws.length wz) rs' ss es (w5.setCell ⟨gb, o + k, none⟩ (.slice pa (lessL rs[k].m [node]).length pc)) ∧ Forg9 node ws (k + 1) rs' ∧ Off b (.slice (some ⟨gb, o, none⟩) ws.length wz) rs') := fun wd w5 pa pc hd hnn hG hR hbk => by
    refine ⟨_, OwM.cutIn (((dU hM).below hd).wide (Nat.le_refl _) hd.size) hkl hnn hG hR hbk, (dU hF).step hkl _ rfl, .inr hgo, fun p hp => ?_⟩
    rcases List.mem_or_eq_of_mem_set hp with hx | rfl
    ·exact (dU hN).2 p hx
    ·right
     show bO (.slice pa (lessL rs[k].m [node]).length pc) ≠ b
     rw [hbk]
     exact (dU UB hnn).2.1
   clear hF hne ek
   generalize hy : rs[k] = y at *
   obtain ⟨ya, yc, yn⟩ := y
   simp only at *
   go_wp2
   go_loopg [20] yn.length (fun g2 s wy => ∃ j : Nat, j + g2 = yn.length ∧ s = .int .i64 (j : Int) ∧ Hid (∀ i (h : i < yn.length), i < j → yn[i] < node) ∧ wr = wy)
   case atStart => exact ⟨0, by omega, rfl, (fun i h h' => by omega), rfl⟩
   case round =>
    obtain ⟨j, hjg, rfl, hJ, rfl⟩ := hrel
    cases gk with
    | zero =>
     have hj0 : j = yn.length := by omega
     have F2 := dH (dU SK (not_mem_end (fun i h h' => dU hJ i h (by omega))))
     have hnl : ¬ (j : Int) < (yn.length : Int) := by omega
     clear hJ SK CU OW UB srt n1 c1 fz1
     go_wp2
     go_roundg g
     case measure => omega
     case rel => exact ⟨k + 1, rs, by omega, by go_num, hM, F2, hN, hO, hlz, hb⟩
    | succ g2 =>
     have hjt : (j : Int) < (yn.length : Int) := by omega
     have hjl : j < yn.length := by omega
     obtain ⟨yb, yo, rfl, hcy⟩ : ∃ yb yo, ya = some ⟨yb, yo, none⟩ ∧ ∀ i (h : i < yn.length), wr.cell? ⟨yb, yo + i, none⟩ = some (.int .i64 yn[i]) := by
      obtain ⟨-, a', c', e, -, h⟩ := n1
      simp only [Value.slice.injEq] at e
      obtain ⟨rfl, -, rfl⟩ := e
      rcases h with h | ⟨b', off, e', h⟩
      ·rw [h] at hjl; simp at hjl
      ·exact ⟨b', off, e', h⟩
     have cj := hcy j hjl
     rcases Int.lt_trichotomy yn[j] node with hx | hx | hx
     ·have J2 : Hid (∀ i (h : i < yn.length), i < j + 1 → yn[i] < node) := fun i h hi => by
       by_cases e : i = j
       ·subst e; exact hx
       ·exact dU hJ i h (by omega)
      have n1' := hx
      have ng : ¬ yn[j] > node := by omega
      have nq : (yn[j] == node) = false := by rw [beq_eq_false_iff_ne]; omega
      generalize yn[j] = z at *
      clear hJ SK CU OW UB srt n1 c1 fz1 hcy hx
      go_wp2
      go_roundg g2
      case measure => omega
      case rel => exact ⟨j + 1, by omega, by go_num, J2, rfl⟩
     ·have hnn : yn ≠ [] := fun e => by rw [e] at hjl; simp at hjl
      have EL := dH (lessL_at (dU srt) hjl)
      rw [hx] at EL cj
      have DL : Hid (∀ wd, Below wr.heap.size wr wd → Calls Tryz.prog 122 #[.slice (some ⟨yb, yo, none⟩) yn.length yc, .int .i64 (j : Int), .int .i64 ((j : Int) + 1)] wd fun e w' => e = .returned (.slice (some ⟨yb, yo, none⟩) (lessL yn [node]).length yc) ∧ OwnN w' lo (.slice (some ⟨yb, yo, none⟩) (lessL yn [node]).length yc) (lessL yn [node]) ∧ wd.grownBy w' (some yb)) := fun wd hd => by
       rw [dU EL]
       exact delN_any yb yo yc j yn lo wd (dU OW wd hd) hjl
      obtain ⟨ub1, ub2, ub3⟩ := dU UB hnn
      have eyb : bO (.slice (some ⟨yb, yo, none⟩) yn.length yc) = yb := rfl
      rw [eyb] at ub1 ub2 ub3
      have ng : ¬ node > node := by omega
      have nq : (node == node) = true := by simp
      have t1 : IntKind.i64.wrap ((j : Int) + 1) = (j : Int) + 1 := by rw [IntKind.wrap_i64]; omega
      have t4 : (k : Int) < (ws.length : Int) := by omega
      have HNN := dH hnn
      have p0 := ((dU hO).2 5 _ rfl).1
      have bd : Below wr.heap.size wr wr.drew := (Below.refl _ _).drew
      clear hJ SK UB srt n1 hcy hx EL hnn eyb
      generalize lessL yn [node] = ln at *
      go_wp2_with fail
      refine wp_region_noPanic ?_
      refine wp_region_held_drew (S := fun W => W.cell? ⟨b, 5, none⟩ = some (.slice (some ⟨gb, o, none⟩) ws.length wz)) (by kernel_rfl) (by first | exact pd | exact p0 | go_keep) (fun hHeld => ?_)
      have hwd : Below wr.heap.size wr wr.drew := bd
      have cd := (bd.cell (p := ⟨gb, o + k, none⟩) (dCell_lt c1)).trans c1
      have fd := (bd.frozen (p := ⟨gb, o + k, none⟩) (dCell_lt c1)).trans fz1
      have pd := ((dU hO).below bd).2 5 _ rfl |>.1
      clear c1 fz1
      generalize wr.drew = wd at *
      refine tY 0 (v := ?_) rfl (by kernel_rfl) (.inl ⟨by rfl, ?_⟩) ‹_› ?_
      rotate_left 1
      ·intro w hSw
       (try dsimp only at hSw)
       first | (go_simp; done) | (go_simp; with_reducible rfl)
      try simp only [Act.put, sA, sB, sC]
      refine tY 1 (v := ?_) rfl (by kernel_rfl) (.inl ⟨by rfl, ?_⟩) ‹_› ?_
      rotate_left 1
      ·intro w hSw
       (try dsimp only at hSw)
       first | (go_simp; done) | (go_simp; with_reducible rfl)
      try simp only [Act.put, sA, sB, sC]
      refine tY 2 (v := ?_) rfl (by kernel_rfl) (.inl ⟨by rfl, ?_⟩) ‹_› ?_
      rotate_left 1
      ·intro w hSw
       (try dsimp only at hSw)
       first | (go_simp; done) | (go_simp; with_reducible rfl)
      try simp only [Act.put, sA, sB, sC]
      refine tY 3 (v := ?_) rfl (by kernel_rfl) (.inl ⟨by rfl, ?_⟩) ‹_› ?_
      rotate_left 1
      ·intro w hSw
       (try dsimp only at hSw)
       first | (go_simp; done) | (go_simp; with_reducible rfl)
      try simp only [Act.put, sA, sB, sC]
      refine tY 4 (v := ?_) rfl (by kernel_rfl) (.inl ⟨by rfl, ?_⟩) ‹_› ?_
      rotate_left 1
      ·intro w hSw
       (try dsimp only at hSw)
       first | (go_simp; done) | (go_simp; with_reducible rfl)
      try simp only [Act.put, sA, sB, sC]
      refine tY 5 (v := ?_) rfl (by kernel_rfl) (.inl ⟨by rfl, ?_⟩) ‹_› ?_
      rotate_left 1
      ·intro w hSw
       (try dsimp only at hSw)
       first | (go_simp; done) | (go_simp; with_reducible rfl)
      try simp only [Act.put, sA, sB, sC]
      refine tY 6 (v := ?_) rfl (by kernel_rfl) (.inl ⟨by rfl, ?_⟩) ‹_› ?_
      rotate_left 1
      ·intro w hSw
       (try dsimp only at hSw)
       first | (go_simp; done) | (go_simp; with_reducible rfl)
      try simp only [Act.put, sA, sB, sC]
      refine tY 7 (v := ?_) rfl (by kernel_rfl) (.inl ⟨by rfl, ?_⟩) ‹_› ?_
      rotate_left 1
      ·intro w hSw
       (try dsimp only at hSw)
       first | (go_simp; done) | (go_simp; with_reducible rfl)
      try simp only [Act.put, sA, sB, sC]
      refine tY 8 (v := ?_) rfl (by kernel_rfl) (.inl ⟨by rfl, ?_⟩) ‹_› ?_
      rotate_left 1
      ·intro w hSw
       (try dsimp only at hSw)
       first | (go_simp; done) | (go_simp; with_reducible rfl)
      try simp only [Act.put, sA, sB, sC]
      refine wpAnyH_ready (rs := [9]) (by kernel_rfl) (by simp) ?_
      refine rC rfl (fun K hK => ?_) AllReadyH.nil
      go_simp
      refine (dU DL _ hwd).mono ?_
      rintro e w5 ⟨rfl, O5, g5⟩
      obtain ⟨rs', T5, F5, N5⟩ := dU CU wd w5 (some ⟨yb, yo, none⟩) yc hwd (dU HNN) g5 O5 rfl
      replace T5 := dH T5
      replace F5 := dH F5
      replace N5 := dH N5
      have Od := ((dU hO).below hwd).grown g5 (fun e => ub2 (by cases e; rfl))
      have hgl : gb < wd.heap.size := dCell_lt cd
      have hkg := g5.block gb hgl (fun e => ub3 (by cases e; rfl))
      have cd' := (World.cell?_of_block (a := ⟨gb, o + k, none⟩) hkg).trans cd
      have fd' := (World.frozen?_of_block (a := ⟨gb, o + k, none⟩) hkg).trans fd
      have B5 := (hb.trans (hwd.mono hlz)).grown g5 (by have := hwd.size; omega) (fun q e => by cases e; exact ub1)
      have hs5 := g5.size
      have hsd := hwd.size
      have pd := (Od.2 5 _ rfl).1
      clear cd fd O5 g5 hkg DL CU OW
      (try go_wp2_with fail)
      refine hK.out _ _ (by first | exact pd | exact p0 | go_keep) (fun hHeld => ?_)
      clear hK K
      try simp only [Act.put, sA, sB, sC]
      refine tY 10 (v := ?_) rfl (by kernel_rfl) (.inl ⟨by rfl, ?_⟩) ‹_› ?_
      rotate_left 1
      ·intro w hSw
       (try dsimp only at hSw)
       first | (go_simp; done) | (go_simp; with_reducible rfl)
      try simp only [Act.put, sA, sB, sC]
      refine wpAnyH_ready (rs := [11]) (by kernel_rfl) (by simp) ?_
      refine rC rfl (fun K hK => ?_) AllReadyH.nil
      go_simp
      have O6 := dH (Od.far (b' := gb) (o := o + k) (Ne.symm hgo) (.slice (some ⟨yb, yo, none⟩) ln.length yc))
      have hb6 := B5.setCell (p := ⟨gb, o + k, none⟩) hg0 (.slice (some ⟨yb, yo, none⟩) ln.length yc)
      have hz6 : w5.heap.size = (w5.setCell ⟨gb, o + k, none⟩ (.slice (some ⟨yb, yo, none⟩) ln.length yc)).heap.size := by simp
      have pd := ((dU O6).2 5 _ rfl).1
      clear cd' fd' Od B5
      generalize w5.setCell ⟨gb, o + k, none⟩ (.slice (some ⟨yb, yo, none⟩) ln.length yc) = w6 at *
      (try go_wp2_with fail)
      refine hK.out _ _ (by first | exact pd | exact p0 | go_keep) (fun hHeld => ?_)
      clear hK K
      try simp only [Act.put, sA, sB, sC]
      refine wpAnyH_done (by kernel_rfl) ?_ _
      refine NoPanic.normal ?_
      rw [hz6] at T5
      go_wp2_with fail
      go_roundg g
      case measure => omega
      case rel => exact ⟨k + 1, rs', by omega, by go_num, T5, F5, N5, O6, by omega, hb6⟩
     ·have F2 := dH (dU SK (not_mem_gt (dU srt) hjl (dU hJ) hx))
      have n1' := hx
      generalize yn[j] = z at *
      have ng : z > node := by omega
      clear hJ SK CU OW UB srt n1 c1 fz1 hcy hx
      go_wp2
      go_roundg g
      case measure => omega
      case rel => exact ⟨k + 1, rs, by omega, by go_num, hM, F2, hN, hO, hlz, hb⟩
set_option maxHeartbeats 4000000 in
theorem forgetF9_any (W : World) (lo b bn : Nat) (sv ev wv : Value) (qs : List (Nst (List Int))) (node : Int) (m : Mn) (hX : BxZ W lo b [.int .i64 m.bye, .int .i64 m.epoch, sv, ev, .bool m.planned, wv]) (hq : qs.map Nst.m = m.wrote) (hI : ImM W lo sv ev wv qs m.sealed m.seen) (hF : FrM b sv ev wv qs m.sealed) (hlo : lo ≤ W.heap.size) (hsrt : ∀ l ∈ m.wrote, l.Pairwise (· < ·)) (hs : sizMend m ≤ 1048576)
  (k3 : W.cell? ⟨bn, 0, none⟩ = some (.int .i64 node)) :
  Calls Tryz.prog 70 #[.pointer (some ⟨b, 0, none⟩), .pointer (some ⟨bn, 0, none⟩)] W fun e w' => e = .returned (.bool true) ∧ Below lo W w' ∧ ∃ rs', BxZ w' lo b [.int .i64 m.bye, .int .i64 m.epoch, sv, ev, .bool m.planned, wv] ∧ rs'.map Nst.m = (forg9W m node).wrote ∧ OwM lo w'.heap.size sv ev wv rs' m.sealed m.seen w' := by
 have CA := dH (mforget9_any W lo b sv ev wv qs node m hX hq hI hF hlo hsrt hs)
 clear hX hq hI hF hsrt hs
 go_enter Tryz.func70, Tryz.ntmps70
 go_wp2_with fail
 refine (dU CA).mono ?_
 rintro e w5 ⟨rfl, h5⟩
 have H5 := dH h5
 clear CA k3 h5
 go_wp2_with fail
 go_ret
 exact ⟨rfl, dU H5⟩
set_option maxHeartbeats 8000000 in
theorem implForget9_any (cv v : Value) (c : List Int × Int) (m : Mn) (node : Int) (w : World) (hc : RdConfig cv c w) (hv : RdMend v m w) (okc : okConfig c) (okm : okMend m) (hsc : sizConfig c ≤ 1048576) (hs : sizMend m ≤ 1048576) :
  Calls Tryz.prog 25 #[cv, v, .int .i64 node] w fun e w' => (∃ u, e = .returned (.tuple #[u, .bool (forg9M c.1 c.2 m node).2]) ∧ OwMend w.heap.size w'.heap.size u (forg9M c.1 c.2 m node).1 w') ∧ Below w.heap.size w w' := by
 have ba : ∀ (w : World) o, Below w.heap.size w (w.alloc o) := fun w o => (Below.refl _ _).alloc (Nat.le_refl _) o
 obtain ⟨ds, cop⟩ := c
 obtain ⟨cs, rfl, hcn⟩ := id hc
 obtain ⟨-, ca, cc, rfl, -, -⟩ := id hcn
 have hdl : ds.length ≤ 1048576 := hsc
 have CC : Hid (∀ W b0, Below w.heap.size w W → Bx W b0 [.int .i64 node] → Calls Tryz.prog 42 #[v, .agg #[.slice ca ds.length cc, .int .i64 cop], .func (.func 70) #[] #[.pointer (some ⟨b0, 0, none⟩)]] W fun e w' => (∃ u, e = .returned (.tuple #[u, .bool (forg9M ds cop m node).2]) ∧ OwMend W.heap.size w'.heap.size u (forg9M ds cop m node).1 w') ∧ Below W.heap.size W w') := fun W b0 hb k0 =>
  changed9_any _ v (ds, cop) m 70 #[.pointer (some ⟨b0, 0, none⟩)] (forg9M ds cop m node).1 (forg9M ds cop m node).2 W (hc.below hb) (hv.below hb) okc okm hsc hs Tryz.call70 (fun hn => by rw [forg9M_bad hn]; exact ⟨rfl, rfl⟩) (fun hp hok => by rw [forg9M_yes hp] at hok; cases hok) (fun hp W' lo b sv ev wv qs hB hl1 hl2 hX hq hI hF => by
   refine (forgetF9_any W' lo b b0 sv ev wv qs node m hX hq hI hF hl2 (fun l hl => ((ascP_iff _ _ _).1 (hp.wrote l hl).2).1) hs ((k0.below hB) 0 _ rfl)).mono ?_
   rintro e w5 ⟨rfl, h2, rs', q1, q2, q3⟩
   rw [forg9M_yes hp]
   exact ⟨rfl, h2, fun _ => ⟨sv, ev, wv, rs', q1, q2, q3⟩⟩)
 simp only
 generalize forg9M ds cop m node = AM at *
 obtain ⟨R, ok⟩ := AM
 simp only at *
 obtain ⟨sa, sc, ea, ec, wa, wz, rfl, hl1, hl2, hl3⟩ := formMend hv
 have HPt := dH fun (lo hi : Nat) (u : Value) (W : World) (h : OwMend lo hi u R W) => h.parts
 have HMe := dH fun (lo hi : Nat) (sv ev wv : Value) rs (W : World) (h : OwM lo hi sv ev wv rs R.sealed R.seen W) (e : rs.map Nst.m = R.wrote) => h.mend e
 clear hv hc hcn okc okm hs hsc
 generalize m.bye = f0 at *
 generalize m.epoch = f1 at *
 generalize m.planned = f4 at *
 generalize m.sealed = ss at *
 generalize m.seen = es at *
 generalize m.wrote = ws at *
 have B0 := (bT (bT (bT (ba w (.cells #[.slice ca ds.length cc, .int .i64 cop] 26)) (ba _ (.cells #[.int .i64 f0, .int .i64 f1, .slice sa ss.length sc, .slice ea es.length ec, .bool f4, .slice wa ws.length wz] 30))) (ba _ (.cells #[.int .i64 node] 3))) (ba _ (.cells #[.int .i64 0, .int .i64 0, .slice none 0 0, .slice none 0 0, .bool false, .slice none 0 0] 30)))
 have X0 := (Bx.new ((w.alloc (.cells #[.slice ca ds.length cc, .int .i64 cop] 26)).alloc (.cells #[.int .i64 f0, .int .i64 f1, .slice sa ss.length sc, .slice ea es.length ec, .bool f4, .slice wa ws.length wz] 30)) [.int .i64 node] 3).below (ba _ (.cells #[.int .i64 0, .int .i64 0, .slice none 0 0, .slice none 0 0, .bool false, .slice none 0 0] 30))
 rw [show ((w.alloc (.cells #[.slice ca ds.length cc, .int .i64 cop] 26)).alloc (.cells #[.int .i64 f0, .int .i64 f1, .slice sa ss.length sc, .slice ea es.length ec, .bool f4, .slice wa ws.length wz] 30)).heap.size = w.heap.size + 1 + 1 from by simp] at X0
 replace X0 := dH X0
 have Z0 := BxZ.new (B := w.heap.size) (((w.alloc (.cells #[.slice ca ds.length cc, .int .i64 cop] 26)).alloc (.cells #[.int .i64 f0, .int .i64 f1, .slice sa ss.length sc, .slice ea es.length ec, .bool f4, .slice wa ws.length wz] 30)).alloc (.cells #[.int .i64 node] 3)) [.int .i64 0, .int .i64 0, .slice none 0 0, .slice none 0 0, .bool false, .slice none 0 0] 30 (by simp <;> omega)
 rw [show (((w.alloc (.cells #[.slice ca ds.length cc, .int .i64 cop] 26)).alloc (.cells #[.int .i64 f0, .int .i64 f1, .slice sa ss.length sc, .slice ea es.length ec, .bool f4, .slice wa ws.length wz] 30)).alloc (.cells #[.int .i64 node] 3)).heap.size = w.heap.size + 1 + 1 + 1 from by simp] at Z0
 replace Z0 := dH Z0
 have hsz0 : Hid (w.heap.size + 1 + 1 + 1 + 1 = ((((w.alloc (.cells #[.slice ca ds.length cc, .int .i64 cop] 26)).alloc (.cells #[.int .i64 f0, .int .i64 f1, .slice sa ss.length sc, .slice ea es.length ec, .bool f4, .slice wa ws.length wz] 30)).alloc (.cells #[.int .i64 node] 3)).alloc (.cells #[.int .i64 0, .int .i64 0, .slice none 0 0, .slice none 0 0, .bool false, .slice none 0 0] 30)).heap.size) := by simp [Hid]
 go_enter Tryz.func25, Tryz.ntmps25
 go_wp2_with fail
 generalize ((((w.alloc (.cells #[.slice ca ds.length cc, .int .i64 cop] 26)).alloc (.cells #[.int .i64 f0, .int .i64 f1, .slice sa ss.length sc, .slice ea es.length ec, .bool f4, .slice wa ws.length wz] 30)).alloc (.cells #[.int .i64 node] 3)).alloc (.cells #[.int .i64 0, .int .i64 0, .slice none 0 0, .slice none 0 0, .bool false, .slice none 0 0] 30)) = w0 at *
 have hs0 := dU hsz0
 refine (dU CC w0 (w.heap.size + 1 + 1) B0 (dU X0)).mono ?_
 rintro e w1 ⟨⟨u1, rfl, N1⟩, b1⟩
 obtain ⟨ua, uc, va, vc, oa, oc, rs, rfl, hrs, M1⟩ := dU HPt _ _ _ _ N1
 have BB := bT B0 b1
 have RB := (dU Z0).below b1
 have s1 := b1.size
 clear CC X0 Z0 B0 b1 N1 HPt
 have hVz : w1.heap.size = ((((((w1.setCell ⟨w.heap.size + 1 + 1 + 1, 0, none⟩ (.int .i64 R.bye)).setCell ⟨w.heap.size + 1 + 1 + 1, 1, none⟩ (.int .i64 R.epoch)).setCell ⟨w.heap.size + 1 + 1 + 1, 2, none⟩ (.slice ua R.sealed.length uc)).setCell ⟨w.heap.size + 1 + 1 + 1, 3, none⟩ (.slice va R.seen.length vc)).setCell ⟨w.heap.size + 1 + 1 + 1, 4, none⟩ (.bool R.planned)).setCell ⟨w.heap.size + 1 + 1 + 1, 5, none⟩ (.slice oa R.wrote.length oc)).heap.size := by simp
 obtain ⟨z0, g0⟩ := RB.2 0 _ rfl
 obtain ⟨z1, g1⟩ := RB.2 1 _ rfl
 obtain ⟨z2, g2⟩ := RB.2 2 _ rfl
 obtain ⟨z3, g3⟩ := RB.2 3 _ rfl
 obtain ⟨z4, g4⟩ := RB.2 4 _ rfl
 obtain ⟨z5, g5⟩ := RB.2 5 _ rfl
 have YY := dH ((((((RB.put 0 (.int .i64 R.bye)).put 1 (.int .i64 R.epoch)).put 2 (.slice ua R.sealed.length uc)).put 3 (.slice va R.seen.length vc)).put 4 (.bool R.planned)).put 5 (.slice oa R.wrote.length oc))
 have BF := dH ((((((BB.setCell (p := ⟨w.heap.size + 1 + 1 + 1, 0, none⟩) (by simp only; omega) (.int .i64 R.bye)).setCell (p := ⟨w.heap.size + 1 + 1 + 1, 1, none⟩) (by simp only; omega) (.int .i64 R.epoch)).setCell (p := ⟨w.heap.size + 1 + 1 + 1, 2, none⟩) (by simp only; omega) (.slice ua R.sealed.length uc)).setCell (p := ⟨w.heap.size + 1 + 1 + 1, 3, none⟩) (by simp only; omega) (.slice va R.seen.length vc)).setCell (p := ⟨w.heap.size + 1 + 1 + 1, 4, none⟩) (by simp only; omega) (.bool R.planned)).setCell (p := ⟨w.heap.size + 1 + 1 + 1, 5, none⟩) (by simp only; omega) (.slice oa R.wrote.length oc))
 have MF := dH ((((((M1.far (b := w.heap.size + 1 + 1 + 1) (o := 0) (.inl (by omega)) (.int .i64 R.bye)).far (b := w.heap.size + 1 + 1 + 1) (o := 1) (.inl (by omega)) (.int .i64 R.epoch)).far (b := w.heap.size + 1 + 1 + 1) (o := 2) (.inl (by omega)) (.slice ua R.sealed.length uc)).far (b := w.heap.size + 1 + 1 + 1) (o := 3) (.inl (by omega)) (.slice va R.seen.length vc)).far (b := w.heap.size + 1 + 1 + 1) (o := 4) (.inl (by omega)) (.bool R.planned)).far (b := w.heap.size + 1 + 1 + 1) (o := 5) (.inl (by omega)) (.slice oa R.wrote.length oc))
 clear RB BB M1
 go_wp2_with fail
 generalize ((((((w1.setCell ⟨w.heap.size + 1 + 1 + 1, 0, none⟩ (.int .i64 R.bye)).setCell ⟨w.heap.size + 1 + 1 + 1, 1, none⟩ (.int .i64 R.epoch)).setCell ⟨w.heap.size + 1 + 1 + 1, 2, none⟩ (.slice ua R.sealed.length uc)).setCell ⟨w.heap.size + 1 + 1 + 1, 3, none⟩ (.slice va R.seen.length vc)).setCell ⟨w.heap.size + 1 + 1 + 1, 4, none⟩ (.bool R.planned)).setCell ⟨w.heap.size + 1 + 1 + 1, 5, none⟩ (.slice oa R.wrote.length oc)) = V at *
 have q0 := ((dU YY).2 0 _ rfl).1
 have q1 := ((dU YY).2 1 _ rfl).1
 have q2 := ((dU YY).2 2 _ rfl).1
 have q3 := ((dU YY).2 3 _ rfl).1
 have q4 := ((dU YY).2 4 _ rfl).1
 have q5 := ((dU YY).2 5 _ rfl).1
 refine bodyPost_ret (v := .tuple #[.agg #[.int .i64 R.bye, .int .i64 R.epoch, .slice ua R.sealed.length uc, .slice va R.seen.length vc, .bool R.planned, .slice oa R.wrote.length oc], .bool ok]) (by simp [results, Tryz.results25, go_sem, q0, q1, q2, q3, q4, q5]) rfl ⟨⟨_, rfl, dU HMe _ _ _ _ _ rs V ((dU MF).wide (by omega) (by omega)) hrs⟩, dU BF⟩
end Go.Proofs.YtoeamgcoeoaijaaGreat
