/- Several texts in one: MnW, BthP, MnO, MdB. -/
import Derived.Test.YtjkjmapibcfcdaaGreatMnI
import Derived.Test.YtjkjmapibcfcdaaGreatGx2
import Derived.Test.YtjkjmapibcfcdaaGreatGaD
import Derived.Test.YtjkjmapibcfcdaaGreatGaC
import Derived.Deep.RegionHeld3
import Derived.Deep.DeepCutAuto
namespace Go.Proofs.YtjkjmapibcfcdaaGreat
open Go.ChangeShapes Go.WideShapes Go.ChangeAt Go.RowKit
set_option linter.unusedSimpArgs false
set_option linter.unusedVariables false
set_option maxRecDepth 100000
def epL (x : Int) : Int := if 0 < x ∧ 1 ≤ x / 4294967296 ∧ x / 4294967296 ≤ 30 ∧ 1 ≤ x % 4294967296 ∧ x % 4294967296 ≤ 60 then x / 4294967296 else 0
theorem epL_yes {x : Int} (h : isPl x) : epL x = x / 4294967296 := if_pos h
theorem epL_no {x : Int} (h : ¬ isPl x) : epL x = 0 := if_neg h
theorem epL_is {x ep : Int} (h : epL x = ep) (h1 : 1 ≤ ep) : isPl x ∧ x / 4294967296 = ep := by
 by_cases hp : isPl x
 ·exact ⟨hp, by rw [epL_yes hp] at h; exact h⟩
 ·rw [epL_no hp] at h
  omega
theorem specEp_any (x : Int) (u : x ≤ 9223372036854775807) (w : World) : Calls Tryz.prog 35 #[.int .i64 x] w fun e w' => e = .returned (.int .i64 (epL x)) ∧ w = w' := by
 by_cases h : isPl x
 ·rw [epL_yes h]
  exact specEpoch_yes x h w
 ·rw [epL_no h]
  exact specEpoch_no x u h w
theorem implEp_any (x : Int) (l : -9223372036854775808 ≤ x) (u : x ≤ 9223372036854775807) (w : World) : Calls Tryz.prog 10 #[.int .i64 x] w fun e w' => e = .returned (.int .i64 (epL x)) ∧ Below w.heap.size w w' := by
 by_cases h : isPl x
 ·rw [epL_yes h]
  exact implEpoch_yes x h w
 ·rw [epL_no h]
  exact implEpoch_no x l u h w
def seeL (ep : Int) (es list : List Ent) : List Ent := list.foldl (fun s e => if epL e.pl = ep then keepL e s else s) es
theorem seeL_yes {ep : Int} {es list : List Ent} {k : Nat} (h : k < list.length) (hx : epL list[k].pl = ep) : seeL ep es (list.take (k + 1)) = keepL list[k] (seeL ep es (list.take k)) := by
 unfold seeL
 rw [List.take_succ_eq_append_getElem h, List.foldl_append, List.foldl_cons, List.foldl_nil, if_pos hx]
theorem seeL_no {ep : Int} {es list : List Ent} {k : Nat} (h : k < list.length) (hx : epL list[k].pl ≠ ep) : seeL ep es (list.take (k + 1)) = seeL ep es (list.take k) := by
 unfold seeL
 rw [List.take_succ_eq_append_getElem h, List.foldl_append, List.foldl_cons, List.foldl_nil, if_neg hx]
def goodE (ep : Int) (s : List Ent) : Prop := s.Pairwise (fun a b => a.pl < b.pl) ∧ ∀ e ∈ s, isPl e.pl ∧ e.pl / 4294967296 = ep
theorem ascE_pair {es : List Ent} (h : ascE es) : es.Pairwise (fun a b => a.pl < b.pl) := List.pairwise_iff_getElem.2 fun i j hi hj hij => ascE_le h i j hj hij
theorem pair_ascE {es : List Ent} (h : es.Pairwise (fun a b => a.pl < b.pl)) : ascE es := fun i hi => List.pairwise_iff_getElem.1 h i (i + 1) (by omega) hi (by omega)
theorem goodE.keep {ep : Int} {s : List Ent} {e : Ent} (h : goodE ep s) (he : isPl e.pl ∧ e.pl / 4294967296 = ep) : goodE ep (keepL e s) := ⟨keepL_asc h.1, fun x hx => by
 rcases mem_keepL hx with rfl | hx
 ·exact he
 ·exact h.2 x hx⟩
theorem goodE.see {ep : Int} (h1 : 1 ≤ ep) : ∀ (list s : List Ent), goodE ep s → goodE ep (seeL ep s list)
 | [], s, h => h
 | e :: l, s, h => by
  unfold seeL
  rw [List.foldl_cons]
  by_cases hx : epL e.pl = ep
  ·rw [if_pos hx]
   exact goodE.see h1 l _ (h.keep (epL_is hx h1))
  ·rw [if_neg hx]
   exact goodE.see h1 l _ h
theorem goodE.len {ep : Int} {s : List Ent} (h : goodE ep s) : s.length ≤ 60 := by
 have key : ∀ i (hi : i < s.length), ep * 4294967296 + 1 + (i : Int) ≤ s[i].pl := by
  intro i
  induction i with
  | zero =>
   intro hi
   obtain ⟨q1, q2⟩ := h.2 _ (List.getElem_mem hi)
   unfold isPl at q1
   omega
  | succ i ih =>
   intro hi
   have q := List.pairwise_iff_getElem.1 h.1 i (i + 1) (by omega) hi (by omega)
   have q2 := ih (by omega)
   push_cast
   omega
 rcases Nat.eq_zero_or_pos s.length with h0 | h0
 ·omega
 ·have q := key (s.length - 1) (by omega)
  obtain ⟨q1, q2⟩ := h.2 _ (List.getElem_mem (show s.length - 1 < s.length by omega))
  unfold isPl at q1
  omega
theorem mem_see {ep : Int} {x : Ent} : ∀ (list s : List Ent), x ∈ seeL ep s list → x ∈ s ∨ x ∈ list
 | [], s, h => .inl h
 | e :: l, s, h => by
  unfold seeL at h
  rw [List.foldl_cons] at h
  by_cases hx : epL e.pl = ep
  ·rw [if_pos hx] at h
   rcases mem_see l _ h with q | q
   ·rcases mem_keepL q with rfl | q
    ·exact .inr (by simp)
    ·exact .inl q
   ·exact .inr (by simp [q])
  ·rw [if_neg hx] at h
   rcases mem_see l _ h with q | q
   ·exact .inl q
   ·exact .inr (by simp [q])
theorem mnP.good {ds : List Int} {cop : Int} {m : Mn} (h : mnP ds cop m) : goodE m.epoch m.seen := ⟨ascE_pair h.1.2.2.2.2, fun e he => ⟨(h.seen e he).1.1, (h.seen e he).2.1⟩⟩
def seal9W (m : Mn) (node : Int) (list : List Ent) : Mn := ⟨m.bye, m.epoch, putL node m.sealed, seeL m.epoch m.seen list, m.planned, m.wrote⟩
def seal9P (ds : List Int) (cop : Int) (m : Mn) (node : Int) (list : List Ent) : Prop := m.planned = false ∧ mnP ds cop (seal9W m node list)
open Classical in
noncomputable def seal9M (ds : List Int) (cop : Int) (m : Mn) (node : Int) (list : List Ent) : Mn × Bool := if mnP ds cop m then (if seal9P ds cop m node list then (seal9W m node list, true) else (m, false)) else (zeroMn, false)
theorem seal9M_bad {ds : List Int} {cop : Int} {m : Mn} {node : Int} {list : List Ent} (h : ¬ mnP ds cop m) : seal9M ds cop m node list = (zeroMn, false) := if_neg h
theorem seal9M_no {ds : List Int} {cop : Int} {m : Mn} {node : Int} {list : List Ent} (h : mnP ds cop m) (hp : ¬ seal9P ds cop m node list) : seal9M ds cop m node list = (m, false) := (if_pos h).trans (if_neg hp)
theorem seal9M_yes {ds : List Int} {cop : Int} {m : Mn} {node : Int} {list : List Ent} (h : mnP ds cop m) (hp : seal9P ds cop m node list) : seal9M ds cop m node list = (seal9W m node list, true) := (if_pos h).trans (if_pos hp)
theorem OwM.belowW {lo hi : Nat} {sv ev wv : Value} {rs : List (Nst (List Int))} {ss : List Int} {es : List Ent} {W W' : World} (h : OwM lo hi sv ev wv rs ss es W) (hb : Below W.heap.size W W') (hh : hi ≤ W'.heap.size) : OwM lo W'.heap.size sv ev wv rs ss es W' := (h.below hb).wide (Nat.le_refl _) hh
def bothL (xs set : List Int) : List Int := lessL xs (lessL xs set)
theorem bothL_len (xs set : List Int) : (bothL xs set).length ≤ xs.length := lessL_len _ _
set_option maxHeartbeats 1000000 in
theorem l9Both_any (u v : Value) (xs set : List Int) (w : World) (hu : Ns w u xs) (hv : Ns w v set) (hl : xs.length ≤ 1000000000) :
  Calls Tryz.prog 56 #[u, v] w fun e w' => (∃ o, e = .returned o ∧ OwnN w' w.heap.size o (bothL xs set)) ∧ Below w.heap.size w w' := by
 have C1 := dH (l4Less_any u v xs set w hu hv hl)
 have C2 := dH fun W (hb : Below w.heap.size w W) o (ho : Ns W o (lessL xs set)) => l4Less_any u o xs (lessL xs set) W (hu.below hb) ho hl
 clear hu hv
 go_enter Tryz.func56, Tryz.ntmps56
 go_wp2_with fail
 refine (dU C1).mono ?_
 rintro e w1 ⟨⟨o1, rfl, R1⟩, b1⟩
 have C3 := dH (dU C2 w1 b1 o1 (ownN_of_row R1).bs)
 clear C1 C2 R1
 go_wp2_with fail
 refine (dU C3).mono ?_
 rintro e w2 ⟨⟨o2, rfl, R2⟩, b2⟩
 have O2 := dH ((ownN_of_row R2).mono b1.size)
 have B2 := bT b1 b2
 clear C3 R2
 go_wp2_with fail
 go_ret
 exact ⟨⟨_, rfl, dU O2⟩, B2⟩
def Forg9 (x : Int) (ms : List (List Int)) (k : Nat) (rs : List (Nst (List Int))) : Prop := rs.length = ms.length ∧ ∀ i (h : i < rs.length) (h' : i < ms.length), (i < k → rs[i].m = lessL ms[i] [x]) ∧ (k ≤ i → rs[i].m = ms[i])
theorem Forg9.fin {x : Int} {ms : List (List Int)} {rs : List (Nst (List Int))} (h : Forg9 x ms ms.length rs) : rs.map Nst.m = ms.map fun l => lessL l [x] := by
 apply List.ext_getElem
 ·simp [h.1]
 ·intro i h1 h2
  simp only [List.getElem_map]
  have hi : i < rs.length := by simpa using h1
  exact (h.2 i hi (by have := h.1; omega)).1 (by have := h.1; omega)
theorem Forg9.skip {x : Int} {ms : List (List Int)} {k : Nat} {rs : List (Nst (List Int))} (h : Forg9 x ms k rs) (hk : k < rs.length) (hd : lessL rs[k].m [x] = rs[k].m) : Forg9 x ms (k + 1) rs := by
 refine ⟨h.1, fun i hi hi' => ⟨fun hik => ?_, fun hik => (h.2 i hi hi').2 (by omega)⟩⟩
 by_cases e : i = k
 ·subst e
  have q := (h.2 i hi hi').2 (Nat.le_refl _)
  rw [← q, hd]
 ·exact (h.2 i hi hi').1 (by omega)
theorem Forg9.step {x : Int} {ms : List (List Int)} {k : Nat} {rs : List (Nst (List Int))} (h : Forg9 x ms k rs) (hk : k < rs.length) (p : Nst (List Int)) (hp : p.m = lessL rs[k].m [x]) : Forg9 x ms (k + 1) (rs.set k p) := by
 refine ⟨by rw [List.length_set]; exact h.1, fun i hi hi' => ?_⟩
 have hi2 : i < rs.length := by rw [List.length_set] at hi; exact hi
 by_cases e : i = k
 ·subst e
  rw [List.getElem_set_self]
  refine ⟨fun _ => ?_, fun h => by omega⟩
  have q := (h.2 i hi2 hi').2 (Nat.le_refl _)
  rw [hp, q]
 ·rw [List.getElem_set_ne (Ne.symm e)]
  exact ⟨fun hik => (h.2 i hi2 hi').1 (by omega), fun hik => (h.2 i hi2 hi').2 (by omega)⟩
set_option maxHeartbeats 4000000 in
theorem l9Cover_any (v : Value) (ca : Option Addr) (cc : Nat) (ds : List Int) (cop : Int) (m : Mn) (w : World) (hd : Ns w (.slice ca ds.length cc) ds) (hv : RdMend v m w) (hl : ds.length ≤ 9) (hs : m.sealed.length ≤ 30) (hi : allInt m.sealed) :
  Calls Tryz.prog 144 #[.agg #[.slice ca ds.length cc, .int .i64 cop], v] w fun e w' => (∃ u zs, e = .returned u ∧ OwnN w' w.heap.size u zs ∧ zs.length ≤ 39 ∧ allInt zs) ∧ Below w.heap.size w w' := by
 have ba : ∀ (w : World) o, Below w.heap.size w (w.alloc o) := fun w o => (Below.refl _ _).alloc (Nat.le_refl _) o
 obtain ⟨sv0, ev0, wv0, rfl, hsn, -, -⟩ := id hv
 obtain ⟨sa, sc, ea, ec, wa, wz, he, hl1, hl2, hl3⟩ := formMend hv
 simp only [Value.agg.injEq, Array.mk.injEq, List.cons.injEq, and_true, true_and] at he
 obtain ⟨rfl, rfl, rfl⟩ := he
 have HD := dH fun W (hb : Below w.heap.size w W) => hd.below hb
 have HI := dH hi
 generalize m.bye = f0 at *
 generalize m.epoch = f1 at *
 generalize m.planned = f4 at *
 generalize m.sealed = ss at *
 generalize m.seen = es at *
 generalize m.wrote = ws at *
 have b1 := ba w (.cells #[.slice ca ds.length cc, .int .i64 cop] 26)
 have b2 := ba (w.alloc (.cells #[.slice ca ds.length cc, .int .i64 cop] 26)) (.cells #[.int .i64 f0, .int .i64 f1, .slice sa ss.length sc, .slice ea es.length ec, .bool f4, .slice wa ws.length wz] 30)
 have b3 := ba ((w.alloc (.cells #[.slice ca ds.length cc, .int .i64 cop] 26)).alloc (.cells #[.int .i64 f0, .int .i64 f1, .slice sa ss.length sc, .slice ea es.length ec, .bool f4, .slice wa ws.length wz] 30)) (.cells #[] 3)
 have B0 := bT (bT b1 b2) b3
 have X0 := dH ((Bx.new w [.slice ca ds.length cc, .int .i64 cop] 26).below (bT b2 b3))
 have M0 := (Bx.new (w.alloc (.cells #[.slice ca ds.length cc, .int .i64 cop] 26)) [.int .i64 f0, .int .i64 f1, .slice sa ss.length sc, .slice ea es.length ec, .bool f4, .slice wa ws.length wz] 30).below b3
 rw [show (w.alloc (.cells #[.slice ca ds.length cc, .int .i64 cop] 26)).heap.size = w.heap.size + 1 from by simp] at M0
 have m2 := M0 2 _ rfl
 have SN := hsn.below B0
 have XB := X0
 clear hd hv hsn hi b1 b2 b3 M0 X0
 go_enter Tryz.func144, Tryz.ntmps144
 go_wp2_with (at_builtin; refine wp_cpR elemN rfl _ _ rfl _ rfl _ ss rfl SN.rw1 (by omega) ?_; intro u1 w1 A1 bl1)
 have O1 := (ApR.own elemN A1).n1
 have OS := dH (O1.mono B0.size)
 have B1 := bT B0 bl1
 have X1 := dH fun W (hb : Below w1.heap.size w1 W) => ((dU XB).below bl1).below hb
 have HS : Hid (ss.length ≤ 30 ∧ allInt ss) := ⟨hs, dU HI⟩
 clear A1 O1 SN m2 B0 XB bl1 HI
 go_loopw [5, 6] (fun u y wr => ∃ (k : Nat) (zs : List Int), y = .int .i64 (k : Int) ∧ k ≤ ds.length ∧ Hid (OwnN wr w.heap.size u zs) ∧ Hid (zs.length ≤ 30 + k ∧ allInt zs) ∧ Below w1.heap.size w1 wr) (fun _ y _ => ds.length - (intOf y).toNat)
 case atStart => exact ⟨0, ss, rfl, Nat.zero_le _, OS, dU HS, Below.refl _ _⟩
 case round =>
  obtain ⟨k, zs, rfl, hk, hO, hZ, hb⟩ := hrel
  clear OS HS
  obtain ⟨-, za, zc, rfl, -, -⟩ := (dU hO).bs
  have x0 := dU X1 _ hb 0 _ rfl
  have x1 := dU X1 _ hb 1 _ rfl
  by_cases hlt : (k : Int) < (ds.length : Int)
  ·have CH := dH (specHolds_any (.slice ca ds.length cc) (.slice za zs.length zc) ds zs cop wr (dU HD _ (bT B1 hb)) (dU hO).bs (by have := (dU hZ).1; omega))
   go_wp2_with fail
   refine (dU CH).mono ?_
   rintro e w2 ⟨⟨b2, rfl, -⟩, bl2⟩
   have hb2 := bT hb bl2
   have O2 := dH ((dU hO).below bl2)
   clear CH x0 x1 hO
   cases b2 with
   | true =>
    have hz := dU hZ
    have HZ := dH (show zs.length ≤ 39 ∧ allInt zs from ⟨by omega, hz.2⟩)
    clear hZ hz
    go_wp2
    go_ret
    first | exact ⟨⟨_, rfl, zs, dU O2, (dU HZ).1, (dU HZ).2⟩, bT B1 hb2⟩ | exact ⟨⟨_, zs, rfl, dU O2, (dU HZ).1, (dU HZ).2⟩, bT B1 hb2⟩
   | false =>
    have CP := dH (l4Put_all (.slice za zs.length zc) zs (k : Int) w2 (dU O2).bs (by have := (dU hZ).1; omega))
    go_wp2_with fail
    refine (dU CP).mono ?_
    rintro e w3 ⟨⟨u3, rfl, O3⟩, bl3⟩
    have O4 := dH (O3.mono (by have := (bT B1 hb2).size; omega))
    have hb3 := bT hb2 bl3
    have Z3 : Hid ((putL (k : Int) zs).length ≤ 30 + (k + 1) ∧ allInt (putL (k : Int) zs)) := ⟨by have := (dU hZ).1; have := putL_len (k : Int) zs; omega, fun z hz => by
     rcases mem_putL.1 hz with rfl | hz
     ·exact ⟨by omega, by omega⟩
     ·exact (dU hZ).2 z hz⟩
    clear CP O3 hZ O2 bl3
    go_wp2_with fail
    go_roundw
    case rel => exact ⟨k + 1, _, by go_num, by omega, O4, Z3, hb3⟩
    case measure => simp [intOf]; omega
  ·have hz := dU hZ
   have HZ := dH (show zs.length ≤ 39 ∧ allInt zs from ⟨by omega, hz.2⟩)
   clear hZ hz
   go_wp2
   go_ret
   first | exact ⟨⟨_, rfl, zs, dU hO, (dU HZ).1, (dU HZ).2⟩, bT B1 hb⟩ | exact ⟨⟨_, zs, rfl, dU hO, (dU HZ).1, (dU HZ).2⟩, bT B1 hb⟩
end Go.Proofs.YtjkjmapibcfcdaaGreat
