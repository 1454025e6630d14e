/- impl's MendPlan. -/
import Derived.Test.YtajoncomhdimnaaGreatMnR
import Derived.Test.YtajoncomhdimnaaGreatGz10
import Derived.Test.YtajoncomhdimnaaGreatDelG
import Derived.Test.YtajoncomhdimnaaGreatImplD
import Derived.Test.YtajoncomhdimnaaGreatDedP
import Derived.Deep.RegionHeld3
import Derived.Deep.DeepCutAuto
namespace Go.Proofs.YtajoncomhdimnaaGreat
open Go.ChangeShapes Go.WideShapes Go.ChangeAt Go.RowKit
set_option linter.unusedVariables false
set_option linter.unusedSimpArgs false
set_option maxRecDepth 100000

theorem bothL_fl {q : Int → Bool} {xs set : List Int} (hq : ∀ x ∈ xs, q x = true ↔ x ∉ set) : flQ q xs = bothL xs set := by
 unfold flQ bothL lessL
 apply List.filter_congr
 intro x hx
 have h1 := hq x hx
 by_cases hs : x ∈ set
 ·have h2 : q x = false := by
   cases h : q x
   ·rfl
   ·exact absurd hs (h1.1 h)
  have h3 : ¬ x ∈ xs.filter (fun y => !set.contains y) := by
   simp [hx, hs]
  rw [h2]
  simp [hs]
 ·have h2 : q x = true := h1.2 hs
  rw [h2]
  simp [hx, hs]
set_option maxHeartbeats 1000000 in
theorem planFn (z : Int) (bn sb : Nat) (xs : List Int) (W : World) (hc : W.cell? ⟨bn, 0, none⟩ = some (.map (some sb))) (hS : SetN W sb xs) (hz : -9223372036854775808 ≤ z ∧ z ≤ 9223372036854775807) :
  Calls Tryz.prog 105 (#[.int .i64 z] ++ #[.pointer (some ⟨bn, 0, none⟩)]) W fun e w' => e = .returned (.bool (decide (z ∉ xs))) ∧ Below W.heap.size W w' := by
 show Calls Tryz.prog 105 #[.int .i64 z, .pointer (some ⟨bn, 0, none⟩)] W _
 have CH := dH (setHas_any sb xs z W hS hz)
 clear hS
 go_enter Tryz.func105, Tryz.ntmps105
 go_wp2_with fail
 refine (dU CH).mono ?_
 rintro e w1 ⟨⟨b1, rfl, h1⟩, b2⟩
 have E : Hid ((!b1) = decide (z ∉ xs)) := by
  show _ = _
  cases b1
  ·have : z ∉ xs := fun h => by have := h1.2 h; cases this
   simp [this]
  ·have := h1.1 rfl
   simp [this]
 clear CH h1
 go_wp2
 go_ret
 exact ⟨by rw [dU E]; rfl, b2⟩
def PlanQ (W : World) (lo b : Nat) (sv ev : Value) (ds : List Int) (cop : Int) (set : List Int) (m : Mn) (e : Ending) (w' : World) : Prop := ∃ ok, (ok = true ↔ plan9P ds cop m set) ∧ e = .returned (.bool ok) ∧ Below lo W w' ∧ (ok = true → ∃ wv' rs', BxZ w' lo b [.int .i64 m.bye, .int .i64 m.epoch, sv, ev, .bool true, wv'] ∧ rs'.map Nst.m = (plan9W m).wrote ∧ OwM lo w'.heap.size sv ev wv' rs' m.sealed m.seen w')
theorem belowThenL {lo : Nat} {w w1 w2 : World} (h : Below lo w w1) (h' : Below w1.heap.size w1 w2) (hl : lo ≤ w1.heap.size) : Below lo w w2 := h.trans (h'.mono hl)
theorem OwM.setOff {lo hi b o : Nat} {sv ev wv : Value} {rs : List (Nst (List Int))} {ss : List Int} {es : List Ent} {W : World} {u : Value} (h : OwM lo hi sv ev wv rs ss es W) (hF : FrM b sv ev wv rs ss) (he : es = [] ∨ bO ev ≠ b) : OwM lo hi sv ev wv rs ss es (W.setCell ⟨b, o, none⟩ u) := by
 have hk : ∀ k, k ≠ b → (W.setCell ⟨b, o, none⟩ u).heap[k]? = W.heap[k]? := fun k hk => Below.heap_setCell _ _ _ _ hk
 refine ⟨h.1.keepB ?_, h.2.1.keepB ?_, h.2.2.1.keep (fun k _ hn => hk k fun e => hn (by rw [e]; exact hF.2.2)), h.2.2.2⟩
 ·rcases hF.1 with q | q
  ·exact .inl q
  ·exact .inr (hk _ q)
 ·rcases he with q | q
  ·exact .inl q
  ·exact .inr (hk _ q)
theorem OwM.wroteNew {lo hi : Nat} {sv ev wv : Value} {rs : List (Nst (List Int))} {ss : List Int} {es : List Ent} {W : World} (h : OwM lo hi sv ev wv rs ss es W) (hh : hi ≤ W.heap.size) (hl : lo ≤ W.heap.size) (n : Nat) (hn : n ≤ 1048576) (T : TypeId) :
  OwM lo (W.heap.size + 1) sv ev (.slice (some ⟨W.heap.size, 0, none⟩) n n) (List.replicate n zeroL) ss es (W.alloc (.cells (madeCells #[.slice none 0 0] n) T)) := by
 have RG := madeL W n T
 have bG : Below W.heap.size W (W.alloc (.cells (madeCells #[.slice none 0 0] n) T)) := (Below.refl _ _).alloc (Nat.le_refl _) _
 have M := (h.below bG).wide (Nat.le_refl _) (show hi ≤ W.heap.size + 1 by omega)
 have hz : ∀ p ∈ List.replicate n zeroL, p.m = [] := fun p hp => by rw [(List.mem_replicate.1 hp).2]; rfl
 have o := RowG.own (es := List.replicate n zeroL) (base := lo) (cap := n) RG (by simp) (fun i hi => by simp) hl (by simp; omega) (by simp; omega)
 rw [List.length_replicate] at o
 have eb : bO (.slice (some ⟨W.heap.size, 0, none⟩) n n) = W.heap.size := rfl
 refine ⟨M.1, M.2.1, ⟨o, .inr (by rw [eb]; omega), fun p hp => ?_, (fun i j hi hj hij => .inl (hz _ (List.getElem_mem hi))), fun i hi => .inl (hz _ (List.getElem_mem hi))⟩, M.2.2.2.1, ?_, ?_⟩
 ·rw [(List.mem_replicate.1 hp).2]
  exact ⟨⟨by simp [zeroL], none, 0, rfl, by simp [zeroL], .inl rfl⟩, .inl rfl⟩
 ·rcases h.1.2 with q | q
  ·exact .inl q
  ·exact .inr ⟨.inr (by rw [eb]; omega), fun p hp => .inl (hz p hp)⟩
 ·rcases h.2.1.2 with q | q
  ·exact .inl q
  ·exact .inr ⟨.inr (by rw [eb]; omega), fun p hp => .inl (hz p hp)⟩
set_option maxHeartbeats 8000000 in
theorem mplan9_any (W : World) (lo b : Nat) (sv ev wv tv : Value) (qs : List (Nst (List Int))) (ds : List Int) (cop : Int) (ca : Option Addr) (cc : Nat) (set : List Int) (m : Mn) (hP : mnP ds cop m) (hX : BxZ W lo b [.int .i64 m.bye, .int .i64 m.epoch, sv, ev, .bool m.planned, wv]) (hq : qs.map Nst.m = m.wrote) (hI : ImM W lo sv ev wv qs m.sealed m.seen) (hF : FrM b sv ev wv qs m.sealed) (hlo : lo ≤ W.heap.size) (hN : Ns W (.slice ca ds.length cc) ds) (hT : Ns W tv set) (had : allInt ds) (hat : allInt set) (okm : okMend m) (hld : ds.length ≤ 1048576) (hlt : set.length ≤ 1048576) (hs : sizMend m ≤ 1048576) (c0 : -9223372036854775808 ≤ cop) (c1 : cop ≤ 9223372036854775807) :
  Calls Tryz.prog 49 #[.pointer (some ⟨b, 0, none⟩), .agg #[.slice ca ds.length cc, .int .i64 cop], tv] W (PlanQ W lo b sv ev ds cop set m) := by
 have ba : ∀ (w : World) o, Below w.heap.size w (w.alloc o) := fun w o => (Below.refl _ _).alloc (Nat.le_refl _) o
 have hsl : m.sealed.length ≤ 1048576 := by unfold sizMend at hs; omega
 have CS := dH fun W' (hb : Below W.heap.size W W') => setOf_any tv set W' (hT.below hb) hat hlt
 have CK := dH fun W' (hb : Below W.heap.size W W') => cloneI_any sv m.sealed W' (hI.1.bs.below hb) hsl
 have CE := dH fun (W' : World) (hb : Below W.heap.size W W') (v : Value) (hv : Ns W' v (bothL m.sealed set)) => implEnough_any _ tv v ds set (bothL m.sealed set) cop W' (hN.below hb) (hT.below hb) hv had hat (fun z hz => okm.2.2.1 z (List.mem_filter.1 hz).1) hld hlt (by have := bothL_len m.sealed set; omega) c0 c1
 have hbl : b < W.heap.size := hX.lt
 have hblo : lo ≤ b := hX.1
 have RM : Hid (∀ W', Below W.heap.size W W' → RdMend (.agg #[.int .i64 m.bye, .int .i64 m.epoch, sv, ev, .bool m.planned, wv]) m W') := fun W' hb => (OwM.mend ((hI.owm).below hb) hq).rd
 have CST := dH fun W' (hb : Below W.heap.size W W') => implStep_any _ m W' (dU RM W' hb)
 have OM : Hid (∀ W', Below W.heap.size W W' → OwM lo W.heap.size sv ev wv qs m.sealed m.seen (W'.setCell ⟨b, 4, none⟩ (.bool true))) := fun W' hb => OwM.setOff ((hI.owm).below hb) hF (by
  by_cases he : m.seen = []
  ·exact .inl he
  ·exact .inr fun e => hF.2.1 (by rw [touch_of hI.2.1 he, e]))
 have CLS : Hid (∀ W', Below W.heap.size W W' → Calls Tryz.prog 98 #[.agg #[.int .i64 m.bye, .int .i64 m.epoch, sv, ev, .bool true, wv]] (W'.setCell ⟨b, 4, none⟩ (.bool true)) fun e w' => e = .returned (.int .i64 (lastO m.seen)) ∧ Below (W'.setCell ⟨b, 4, none⟩ (.bool true)).heap.size (W'.setCell ⟨b, 4, none⟩ (.bool true)) w') := fun W' hb => (implLast_any _ ⟨m.bye, m.epoch, m.sealed, m.seen, true, m.wrote⟩ _ ((OwM.mend (m := ⟨m.bye, m.epoch, m.sealed, m.seen, true, m.wrote⟩) (dU OM W' hb) hq).rd) okm.2.2.2.1).mono fun e w' h => by
  obtain ⟨⟨x, h1, h2⟩, h3⟩ := h
  refine ⟨?_, h3⟩
  rw [h1, h2 (fun i hi => (hP.2.1 i hi).1.1)]
 have LO := dH (lastO_le hP)
 have PA : Hid (plan9P ds cop m set ↔ m.planned = false ∧ enoughP ds cop set (bothL m.sealed set)) := Iff.rfl
 have QE : Hid (flQ (fun z => decide (z ∉ dedL set)) m.sealed = bothL m.sealed set) := bothL_fl fun x _ => by simp [mem_dedL]
 have HZ : Hid (∀ z ∈ m.sealed, -9223372036854775808 ≤ z ∧ z ≤ 9223372036854775807) := okm.2.2.1
 have Q0 : Hid (∀ w', ¬ plan9P ds cop m set → Below lo W w' → PlanQ W lo b sv ev ds cop set m (.returned (.bool false)) w') := fun w' h hb => ⟨false, ⟨(fun h => by cases h), fun h' => absurd h' h⟩, rfl, hb, fun h => by cases h⟩
 have Q1 : Hid (∀ w' wv' rs', plan9P ds cop m set → Below lo W w' → BxZ w' lo b [.int .i64 m.bye, .int .i64 m.epoch, sv, ev, .bool true, wv'] → rs'.map Nst.m = List.replicate (lastO m.seen).toNat [] → OwM lo w'.heap.size sv ev wv' rs' m.sealed m.seen w' → PlanQ W lo b sv ev ds cop set m (.returned (.bool true)) w') := fun w' wv' rs' h hb h1 h2 h3 => ⟨true, ⟨fun _ => h, fun _ => rfl⟩, rfl, hb, fun _ => ⟨wv', rs', h1, h2, h3⟩⟩
 have HX := dH fun W' (hb : Below W.heap.size W W') => hX.below hb
 have FR : Hid (∀ g n, b < g → FrM b sv ev (.slice (some ⟨g, 0, none⟩) n n) (List.replicate n zeroL) m.sealed ∧ (m.seen = [] ∨ bO ev ≠ b)) := fun g n hg => ⟨⟨hF.1, hF.2.1, .inr (fun e => by have : bO (.slice (some ⟨g, 0, none⟩) n n) = g := rfl; omega), fun p hp => .inl (by rw [(List.mem_replicate.1 hp).2]; rfl)⟩, by
  by_cases he : m.seen = []
  ·exact .inl he
  ·exact .inr fun e => hF.2.1 (by rw [touch_of hI.2.1 he, e])⟩
 generalize PlanQ W lo b sv ev ds cop set m = QQ at *
 generalize plan9P ds cop m set = PQ at *
 generalize lastO m.seen = lastN at *
 have B0 := ba W (.cells #[.slice ca ds.length cc, .int .i64 cop] 26)
 have X0 := Bx.new W [.slice ca ds.length cc, .int .i64 cop] 26
 have szA : Hid ((W.alloc (.cells #[.slice ca ds.length cc, .int .i64 cop] 26)).heap.size = W.heap.size + 1) := by simp [Hid]
 generalize enoughP ds cop set (bothL m.sealed set) = PE at *
 generalize bothL m.sealed set = bl at *
 generalize m.bye = f0 at *
 generalize m.epoch = f1 at *
 generalize m.planned = f4 at *
 generalize m.sealed = ss at *
 generalize m.seen = es at *
 clear hP hX hI hN hT had hat okm hs hF
 go_enter Tryz.func49, Tryz.ntmps49
 go_wp2_with fail
 generalize W.alloc (.cells #[.slice ca ds.length cc, .int .i64 cop] 26) = w0 at *
 have HC := dH fun W' (hb : Below w0.heap.size w0 W') => X0.below hb
 clear X0
 refine (dU CS _ B0).mono ?_
 rintro e w1 ⟨rfl, S1, b1⟩
 clear CS
 have ez := dU szA
 rw [ez] at S1
 have s1 := b1.size
 have bM := ba w1 (.cells #[.map (some (W.heap.size + 1))] 115)
 have B2 := bT B0 (bT b1 bM)
 have h02 := bT b1 bM
 have S2 := dH (S1.below bM)
 have K2 := dH (Bx.new w1 [.map (some (W.heap.size + 1))] 115)
 have p2 := ((dU HX _ B2).2 2 _ rfl).1
 have s2 : (w1.alloc (.cells #[.map (some (W.heap.size + 1))] 115)).heap.size = w1.heap.size + 1 := by simp
 have hsb : W.heap.size + 1 < w1.heap.size := S1.lt
 clear S1 bM
 go_wp2_with fail
 generalize hbn : w1.heap.size = bn at *
 generalize w1.alloc (.cells #[.map (some (W.heap.size + 1))] 115) = w2 at *
 refine (dU CK _ B2).mono ?_
 rintro e w3 ⟨⟨u3, rfl, R3⟩, b3⟩
 obtain ⟨-, ua, uc, rfl, -, -⟩ := R3.bs
 have s3 := b3.size
 have HG : ∀ row, (row = none ∨ (ss ≠ [] ∧ row = some (bO (.slice ua ss.length uc)))) → ∀ j, row = some j → w2.heap.size ≤ j := fun row h j hj => by
  rcases h with h | ⟨h1, h2⟩
  ·rw [h] at hj; cases hj
  ·rw [h2] at hj
   cases hj
   exact R3.ge.resolve_left h1
 have DL := dH (deleteG_any ua uc ss 105 #[.pointer (some ⟨bn, 0, none⟩)] (fun z => decide (z ∉ dedL set)) (fun V => bn < V.heap.size ∧ V.cell? ⟨bn, 0, none⟩ = some (.map (some (W.heap.size + 1))) ∧ SetN V (W.heap.size + 1) (dedL set)) w2.heap.size w3 Tryz.call105 R3.own ⟨by omega, ((dU K2).below b3) 0 _ rfl, (dU S2).below b3⟩ (fun V V' row hV hG hr => by
  have ne : ∀ j, j < w2.heap.size → some j ≠ row := fun j hj e => by
   have := HG row hr j e.symm
   omega
  have hk := hG.block bn hV.1 (ne bn (by omega))
  have := hG.size
  exact ⟨by omega, (World.cell?_of_block (a := ⟨bn, 0, none⟩) hk).trans hV.2.1, hV.2.2.kept hG (ne _ (by omega))⟩) (fun V hV z hz => planFn z bn (W.heap.size + 1) (dedL set) V hV.2.1 hV.2.2 (dU HZ z hz)))
 rw [dU QE] at DL
 have HG' := dH HG
 clear p2 CK R3 S2 K2 HZ QE HG
 go_wp2_with fail
 refine (dU DL).mono ?_
 rintro e w4 ⟨rfl, O4, row, hG, hr⟩
 have s4 := hG.size
 have h04 : Below w0.heap.size w0 w4 := (bT h02 b3).grown hG (by omega) (fun j hj => by have := dU HG' row hr j hj; omega)
 have B4 := bT B0 h04
 have L4 := dH fun W' (hb : Below w4.heap.size w4 W') => O4.bs.below hb
 clear DL O4 hG hr HG' b3 h02 B2
 have CT := dH (dU CST _ B4)
 obtain ⟨y0, y1, y2, y3, y4, y5⟩ : _ ∧ _ ∧ _ ∧ _ ∧ _ ∧ _ := ⟨((dU HX _ B4).2 0 _ rfl).1, ((dU HX _ B4).2 1 _ rfl).1, ((dU HX _ B4).2 2 _ rfl).1, ((dU HX _ B4).2 3 _ rfl).1, ((dU HX _ B4).2 4 _ rfl).1, ((dU HX _ B4).2 5 _ rfl).1⟩
 clear CST
 cases f4 with
 | true =>
  have hno := dH (show ¬ PQ from fun h => by have := ((dU PA).1 h).1; cases this)
  clear PA
  go_wp2_with fail
  refine (dU CT).mono ?_
  rintro e w5 ⟨rfl, b5⟩
  have hnz : ((1 : Int) != 0) = true := by decide
  clear CT y0 y1 y2 y3 y4 y5
  simp only [if_true]
  go_wp2_with fail
  exact dU Q0 _ (dU hno) ((bT B4 b5).mono hlo)
 | false =>
  go_wp2_with fail
  refine (dU CT).mono ?_
  rintro e w5 ⟨rfl, b5⟩
  have B5 := bT B4 b5
  have h05 := bT h04 b5
  have x0 := dU HC _ h05 0 _ rfl
  have x1 := dU HC _ h05 1 _ rfl
  have hnz : ((0 : Int) != 0) = false := by decide
  have CQ := dH (dU CE _ B5 _ (dU L4 _ b5))
  clear CT y0 y1 y2 y3 y4 y5 CE L4 HC
  simp only [Bool.false_eq_true, if_false]
  go_wp2_with fail
  refine (dU CQ).mono ?_
  rintro e w6 ⟨⟨b6, rfl, h6⟩, bl6⟩
  have B6 := bT B5 bl6
  clear CQ x0 x1
  cases b6 with
  | false =>
   have hno := dH (show ¬ PQ from fun h => by have := h6.2 ((dU PA).1 h).2; cases this)
   clear h6 PA
   go_wp2_with fail
   exact dU Q0 _ (dU hno) (B6.mono hlo)
  | true =>
   have hyes := dH ((dU PA).2 ⟨by first | rfl | trivial, h6.1 rfl⟩)
   obtain ⟨LN, hLN⟩ : ∃ LN : Nat, lastN = (LN : Int) := ⟨lastN.toNat, by have := dU LO; omega⟩
   have hL60 : LN ≤ 60 := by have := dU LO; omega
   subst hLN
   have O6 := dU HX _ B6
   obtain ⟨z4, g4⟩ := O6.2 4 _ rfl
   have O7 := O6.put 4 (.bool true)
   have M7 := dH (dU OM w6 B6)
   have CL := dH (dU CLS w6 B6)
   have B7 := (B6.mono hlo).setCell (p := ⟨b, 4, none⟩) hblo (.bool true)
   have s7 : (w6.setCell ⟨b, 4, none⟩ (.bool true)).heap.size = w6.heap.size := by simp
   have s6 := B6.size
   obtain ⟨y0, y1, y2, y3, y4, y5⟩ : _ ∧ _ ∧ _ ∧ _ ∧ _ ∧ _ := ⟨(O7.2 0 _ rfl).1, (O7.2 1 _ rfl).1, (O7.2 2 _ rfl).1, (O7.2 3 _ rfl).1, (O7.2 4 _ rfl).1, (O7.2 5 _ rfl).1⟩
   clear h6 PA HX OM CLS B6 B5 B4 O6 Q0
   go_wp2_with fail
   generalize w6.setCell ⟨b, 4, none⟩ (.bool true) = w7 at *
   refine (dU CL).mono ?_
   rintro e w8 ⟨rfl, b8⟩
   have s8 := b8.size
   have O8 := O7.below b8
   have M8 := (dU M7).below b8
   have B8 := belowThenL B7 b8 (by omega)
   have hmk := makeL LN (by omega) w8
   rw [Nat.mul_one, show (Value.slice none 0 0).cells = #[.slice none 0 0] from by kernel_rfl] at hmk
   have RG := madeL w8 LN 24
   have bG := ba w8 (.cells (madeCells #[.slice none 0 0] LN) 24)
   have sG : (w8.alloc (.cells (madeCells #[.slice none 0 0] LN) 24)).heap.size = w8.heap.size + 1 := by simp
   have O9 := O8.below bG
   have M9 := dH (OwM.wroteNew M8 (by omega) (by omega) LN (by omega) 24)
   have hfr : Hid (FrM b sv ev (.slice (some ⟨w8.heap.size, 0, none⟩) LN LN) (List.replicate LN zeroL) ss ∧ (es = [] ∨ bO ev ≠ b)) := dU FR w8.heap.size LN (by omega)
   have MA := dH ((dU M9).setOff (o := 5) (u := .slice (some ⟨w8.heap.size, 0, none⟩) LN LN) (dU hfr).1 (dU hfr).2)
   have sA : w8.heap.size + 1 = ((w8.alloc (.cells (madeCells #[.slice none 0 0] LN) 24)).setCell ⟨b, 5, none⟩ (.slice (some ⟨w8.heap.size, 0, none⟩) LN LN)).heap.size := by simp
   obtain ⟨z5, g5⟩ := O9.2 5 _ rfl
   have OA := O9.put 5 (.slice (some ⟨w8.heap.size, 0, none⟩) LN LN)
   have BA := (belowThenL B8 bG (by omega)).setCell (p := ⟨b, 5, none⟩) hblo (.slice (some ⟨w8.heap.size, 0, none⟩) LN LN)
   clear y0 y1 y2 y3 y4 y5 CL M7 O7 O8 M8 B8 O9 M9 hfr FR
   have G9 : Hid ((List.replicate LN zeroL).map Nst.m = List.replicate ((LN : Nat) : Int).toNat []) := by
    show _ = _
    rw [Int.toNat_natCast, List.map_replicate]
    rfl
   go_wp2_with fail
   rw [sA] at MA
   exact dU Q1 _ _ _ (dU hyes) BA OA (dU G9) (dU MA)
set_option maxHeartbeats 4000000 in
theorem planF9_any (W : World) (lo b bc bt : Nat) (sv ev wv : Value) (ta : Option Addr) (tc : Nat) (qs : List (Nst (List Int))) (ds : List Int) (cop : Int) (ca : Option Addr) (cc : Nat) (set : List Int) (m : Mn) (hP : mnP ds cop m) (hX : BxZ W lo b [.int .i64 m.bye, .int .i64 m.epoch, sv, ev, .bool m.planned, wv]) (hq : qs.map Nst.m = m.wrote) (hI : ImM W lo sv ev wv qs m.sealed m.seen) (hF : FrM b sv ev wv qs m.sealed) (hlo : lo ≤ W.heap.size) (hN : Ns W (.slice ca ds.length cc) ds) (hT : Ns W (.slice ta set.length tc) set) (had : allInt ds) (hat : allInt set) (okm : okMend m) (hld : ds.length ≤ 1048576) (hlt : set.length ≤ 1048576) (hs : sizMend m ≤ 1048576) (c0 : -9223372036854775808 ≤ cop) (c1 : cop ≤ 9223372036854775807)
  (k0 : W.cell? ⟨bc, 0, none⟩ = some (.slice ca ds.length cc)) (k1 : W.cell? ⟨bc, 1, none⟩ = some (.int .i64 cop)) (k2 : W.cell? ⟨bt, 0, none⟩ = some (.slice ta set.length tc)) :
  Calls Tryz.prog 48 #[.pointer (some ⟨b, 0, none⟩), .pointer (some ⟨bc, 0, none⟩), .pointer (some ⟨bt, 0, none⟩)] W (PlanQ W lo b sv ev ds cop set m) := by
 have CA := dH (mplan9_any W lo b sv ev wv _ qs ds cop ca cc set m hP hX hq hI hF hlo hN hT had hat okm hld hlt hs c0 c1)
 have HE : Hid (∀ e w', PlanQ W lo b sv ev ds cop set m e w' → ∃ ok, e = .returned (.bool ok)) := fun e w' ⟨ok, _, h, _⟩ => ⟨ok, h⟩
 generalize PlanQ W lo b sv ev ds cop set m = QQ at *
 clear hP hX hq hI hF hN hT had hat okm hs
 go_enter Tryz.func48, Tryz.ntmps48
 go_wp2_with fail
 refine (dU CA).mono ?_
 intro e w5 h5
 obtain ⟨ok, rfl⟩ := dU HE _ _ h5
 clear CA HE k0 k1 k2
 go_wp2_with fail
 exact h5
set_option maxHeartbeats 8000000 in
theorem implPlan9_any (cv v : Value) (c : List Int × Int) (m : Mn) (tv : Value) (set : List Int) (w : World) (hc : RdConfig cv c w) (hv : RdMend v m w) (ht : Ns w tv set) (oks : allInt set) (hst : set.length ≤ 1048576) (okc : okConfig c) (okm : okMend m) (hsc : sizConfig c ≤ 1048576) (hs : sizMend m ≤ 1048576) :
  Calls Tryz.prog 15 #[cv, v, tv] w fun e w' => (∃ u, e = .returned (.tuple #[u, .bool (plan9M c.1 c.2 m set).2]) ∧ OwMend w.heap.size w'.heap.size u (plan9M c.1 c.2 m set).1 w') ∧ Below w.heap.size w w' := by
 have ba : ∀ (w : World) o, Below w.heap.size w (w.alloc o) := fun w o => (Below.refl _ _).alloc (Nat.le_refl _) o
 obtain ⟨ds, cop⟩ := c
 obtain ⟨cs, rfl, hcn⟩ := id hc
 obtain ⟨-, ca, cc, rfl, -, -⟩ := id hcn
 have hdl : ds.length ≤ 1048576 := hsc
 obtain ⟨-, ta, tc, rfl, -, -⟩ := id ht
 have CC : Hid (∀ W b0 b1, Below w.heap.size w W → Bx W b0 [.slice ca ds.length cc, .int .i64 cop] → Bx W b1 [.slice ta set.length tc] → Calls Tryz.prog 35 #[v, .agg #[.slice ca ds.length cc, .int .i64 cop], .func (.func 48) #[] #[.pointer (some ⟨b0, 0, none⟩), .pointer (some ⟨b1, 0, none⟩)]] W fun e w' => (∃ u, e = .returned (.tuple #[u, .bool (plan9M ds cop m set).2]) ∧ OwMend W.heap.size w'.heap.size u (plan9M ds cop m set).1 w') ∧ Below W.heap.size W w') := fun W b0 b1 hb k0 k1 =>
  changed9_any _ v (ds, cop) m 48 #[.pointer (some ⟨b0, 0, none⟩), .pointer (some ⟨b1, 0, none⟩)] (plan9M ds cop m set).1 (plan9M ds cop m set).2 W (hc.below hb) (hv.below hb) okc okm hsc hs Tryz.call48 (fun hn => by rw [plan9M_bad hn]; exact ⟨rfl, rfl⟩) (fun hp hok => by
   by_cases ha : plan9P ds cop m set
   ·rw [plan9M_yes hp ha] at hok
    cases hok
   ·rw [plan9M_no hp ha]) (fun hp W' lo b sv ev wv qs hB hl1 hl2 hX hq hI hF => by
   refine (planF9_any W' lo b b0 b1 sv ev wv ta tc qs ds cop ca cc set m hp hX hq hI hF hl2 ((hcn.below hb).below hB) ((ht.below hb).below hB) okc.1 oks okm hdl hst hs okc.2.1 okc.2.2 ((k0.below hB) 0 _ rfl) ((k0.below hB) 1 _ rfl) ((k1.below hB) 0 _ rfl)).mono ?_
   rintro e w5 ⟨ok, h1, rfl, h2, h3⟩
   by_cases ha : plan9P ds cop m set
   ·have e1 := h1.2 ha
    subst e1
    rw [plan9M_yes hp ha]
    obtain ⟨wv', rs', q1, q2, q3⟩ := h3 rfl
    exact ⟨rfl, h2, fun _ => ⟨sv, ev, wv', rs', q1, q2, q3⟩⟩
   ·have e1 : ok = false := by
     cases ok
     ·rfl
     ·exact absurd (h1.1 rfl) ha
    subst e1
    rw [plan9M_no hp ha]
    exact ⟨rfl, h2, fun h => by cases h⟩)
 simp only
 generalize plan9M ds cop m set = AM at *
 obtain ⟨R, ok⟩ := AM
 simp only at *
 obtain ⟨sa, sc, ea, ec, wa, wz, rfl, hl1, hl2, hl3⟩ := formMend hv
 have HPt := dH fun (lo hi : Nat) (u : Value) (W : World) (h : OwMend lo hi u R W) => h.parts
 have HMe := dH fun (lo hi : Nat) (sv ev wv : Value) rs (W : World) (h : OwM lo hi sv ev wv rs R.sealed R.seen W) (e : rs.map Nst.m = R.wrote) => h.mend e
 clear hv hc hcn okc okm hs hsc ht oks
 generalize m.bye = f0 at *
 generalize m.epoch = f1 at *
 generalize m.planned = f4 at *
 generalize m.sealed = ss at *
 generalize m.seen = es at *
 generalize m.wrote = ws at *
 have B0 := (bT (bT (bT (ba w (.cells #[.slice ca ds.length cc, .int .i64 cop] 26)) (ba _ (.cells #[.int .i64 f0, .int .i64 f1, .slice sa ss.length sc, .slice ea es.length ec, .bool f4, .slice wa ws.length wz] 30))) (ba _ (.cells #[.slice ta set.length tc] 24))) (ba _ (.cells #[.int .i64 0, .int .i64 0, .slice none 0 0, .slice none 0 0, .bool false, .slice none 0 0] 30)))
 have X0 := dH ((Bx.new w [.slice ca ds.length cc, .int .i64 cop] 26).below (bT (bT (ba _ (.cells #[.int .i64 f0, .int .i64 f1, .slice sa ss.length sc, .slice ea es.length ec, .bool f4, .slice wa ws.length wz] 30)) (ba _ (.cells #[.slice ta set.length tc] 24))) (ba _ (.cells #[.int .i64 0, .int .i64 0, .slice none 0 0, .slice none 0 0, .bool false, .slice none 0 0] 30))))
 have X1 := (Bx.new ((w.alloc (.cells #[.slice ca ds.length cc, .int .i64 cop] 26)).alloc (.cells #[.int .i64 f0, .int .i64 f1, .slice sa ss.length sc, .slice ea es.length ec, .bool f4, .slice wa ws.length wz] 30)) [.slice ta set.length tc] 24).below (ba _ (.cells #[.int .i64 0, .int .i64 0, .slice none 0 0, .slice none 0 0, .bool false, .slice none 0 0] 30))
 rw [show ((w.alloc (.cells #[.slice ca ds.length cc, .int .i64 cop] 26)).alloc (.cells #[.int .i64 f0, .int .i64 f1, .slice sa ss.length sc, .slice ea es.length ec, .bool f4, .slice wa ws.length wz] 30)).heap.size = w.heap.size + 1 + 1 from by simp] at X1
 replace X1 := dH X1
 have Z0 := BxZ.new (B := w.heap.size) (((w.alloc (.cells #[.slice ca ds.length cc, .int .i64 cop] 26)).alloc (.cells #[.int .i64 f0, .int .i64 f1, .slice sa ss.length sc, .slice ea es.length ec, .bool f4, .slice wa ws.length wz] 30)).alloc (.cells #[.slice ta set.length tc] 24)) [.int .i64 0, .int .i64 0, .slice none 0 0, .slice none 0 0, .bool false, .slice none 0 0] 30 (by simp <;> omega)
 rw [show (((w.alloc (.cells #[.slice ca ds.length cc, .int .i64 cop] 26)).alloc (.cells #[.int .i64 f0, .int .i64 f1, .slice sa ss.length sc, .slice ea es.length ec, .bool f4, .slice wa ws.length wz] 30)).alloc (.cells #[.slice ta set.length tc] 24)).heap.size = w.heap.size + 1 + 1 + 1 from by simp] at Z0
 replace Z0 := dH Z0
 have hsz0 : Hid (w.heap.size + 1 + 1 + 1 + 1 = ((((w.alloc (.cells #[.slice ca ds.length cc, .int .i64 cop] 26)).alloc (.cells #[.int .i64 f0, .int .i64 f1, .slice sa ss.length sc, .slice ea es.length ec, .bool f4, .slice wa ws.length wz] 30)).alloc (.cells #[.slice ta set.length tc] 24)).alloc (.cells #[.int .i64 0, .int .i64 0, .slice none 0 0, .slice none 0 0, .bool false, .slice none 0 0] 30)).heap.size) := by simp [Hid]
 go_enter Tryz.func15, Tryz.ntmps15
 go_wp2_with fail
 generalize ((((w.alloc (.cells #[.slice ca ds.length cc, .int .i64 cop] 26)).alloc (.cells #[.int .i64 f0, .int .i64 f1, .slice sa ss.length sc, .slice ea es.length ec, .bool f4, .slice wa ws.length wz] 30)).alloc (.cells #[.slice ta set.length tc] 24)).alloc (.cells #[.int .i64 0, .int .i64 0, .slice none 0 0, .slice none 0 0, .bool false, .slice none 0 0] 30)) = w0 at *
 have hs0 := dU hsz0
 refine (dU CC w0 (w.heap.size) (w.heap.size + 1 + 1) B0 (dU X0) (dU X1)).mono ?_
 rintro e w1 ⟨⟨u1, rfl, N1⟩, b1⟩
 obtain ⟨ua, uc, va, vc, oa, oc, rs, rfl, hrs, M1⟩ := dU HPt _ _ _ _ N1
 have BB := bT B0 b1
 have RB := (dU Z0).below b1
 have s1 := b1.size
 clear CC X0 X1 Z0 B0 b1 N1 HPt
 have hVz : w1.heap.size = ((((((w1.setCell ⟨w.heap.size + 1 + 1 + 1, 0, none⟩ (.int .i64 R.bye)).setCell ⟨w.heap.size + 1 + 1 + 1, 1, none⟩ (.int .i64 R.epoch)).setCell ⟨w.heap.size + 1 + 1 + 1, 2, none⟩ (.slice ua R.sealed.length uc)).setCell ⟨w.heap.size + 1 + 1 + 1, 3, none⟩ (.slice va R.seen.length vc)).setCell ⟨w.heap.size + 1 + 1 + 1, 4, none⟩ (.bool R.planned)).setCell ⟨w.heap.size + 1 + 1 + 1, 5, none⟩ (.slice oa R.wrote.length oc)).heap.size := by simp
 obtain ⟨z0, g0⟩ := RB.2 0 _ rfl
 obtain ⟨z1, g1⟩ := RB.2 1 _ rfl
 obtain ⟨z2, g2⟩ := RB.2 2 _ rfl
 obtain ⟨z3, g3⟩ := RB.2 3 _ rfl
 obtain ⟨z4, g4⟩ := RB.2 4 _ rfl
 obtain ⟨z5, g5⟩ := RB.2 5 _ rfl
 have YY := dH ((((((RB.put 0 (.int .i64 R.bye)).put 1 (.int .i64 R.epoch)).put 2 (.slice ua R.sealed.length uc)).put 3 (.slice va R.seen.length vc)).put 4 (.bool R.planned)).put 5 (.slice oa R.wrote.length oc))
 have BF := dH ((((((BB.setCell (p := ⟨w.heap.size + 1 + 1 + 1, 0, none⟩) (by simp only; omega) (.int .i64 R.bye)).setCell (p := ⟨w.heap.size + 1 + 1 + 1, 1, none⟩) (by simp only; omega) (.int .i64 R.epoch)).setCell (p := ⟨w.heap.size + 1 + 1 + 1, 2, none⟩) (by simp only; omega) (.slice ua R.sealed.length uc)).setCell (p := ⟨w.heap.size + 1 + 1 + 1, 3, none⟩) (by simp only; omega) (.slice va R.seen.length vc)).setCell (p := ⟨w.heap.size + 1 + 1 + 1, 4, none⟩) (by simp only; omega) (.bool R.planned)).setCell (p := ⟨w.heap.size + 1 + 1 + 1, 5, none⟩) (by simp only; omega) (.slice oa R.wrote.length oc))
 have MF := dH ((((((M1.far (b := w.heap.size + 1 + 1 + 1) (o := 0) (.inl (by omega)) (.int .i64 R.bye)).far (b := w.heap.size + 1 + 1 + 1) (o := 1) (.inl (by omega)) (.int .i64 R.epoch)).far (b := w.heap.size + 1 + 1 + 1) (o := 2) (.inl (by omega)) (.slice ua R.sealed.length uc)).far (b := w.heap.size + 1 + 1 + 1) (o := 3) (.inl (by omega)) (.slice va R.seen.length vc)).far (b := w.heap.size + 1 + 1 + 1) (o := 4) (.inl (by omega)) (.bool R.planned)).far (b := w.heap.size + 1 + 1 + 1) (o := 5) (.inl (by omega)) (.slice oa R.wrote.length oc))
 clear RB BB M1
 go_wp2_with fail
 generalize ((((((w1.setCell ⟨w.heap.size + 1 + 1 + 1, 0, none⟩ (.int .i64 R.bye)).setCell ⟨w.heap.size + 1 + 1 + 1, 1, none⟩ (.int .i64 R.epoch)).setCell ⟨w.heap.size + 1 + 1 + 1, 2, none⟩ (.slice ua R.sealed.length uc)).setCell ⟨w.heap.size + 1 + 1 + 1, 3, none⟩ (.slice va R.seen.length vc)).setCell ⟨w.heap.size + 1 + 1 + 1, 4, none⟩ (.bool R.planned)).setCell ⟨w.heap.size + 1 + 1 + 1, 5, none⟩ (.slice oa R.wrote.length oc)) = V at *
 have q0 := ((dU YY).2 0 _ rfl).1
 have q1 := ((dU YY).2 1 _ rfl).1
 have q2 := ((dU YY).2 2 _ rfl).1
 have q3 := ((dU YY).2 3 _ rfl).1
 have q4 := ((dU YY).2 4 _ rfl).1
 have q5 := ((dU YY).2 5 _ rfl).1
 refine bodyPost_ret (v := .tuple #[.agg #[.int .i64 R.bye, .int .i64 R.epoch, .slice ua R.sealed.length uc, .slice va R.seen.length vc, .bool R.planned, .slice oa R.wrote.length oc], .bool ok]) (by simp [results, Tryz.results15, go_sem, q0, q1, q2, q3, q4, q5]) rfl ⟨⟨_, rfl, dU HMe _ _ _ _ _ rs V ((dU MF).wide (by omega) (by omega)) hrs⟩, dU BF⟩
end Go.Proofs.YtajoncomhdimnaaGreat
