/- impl's MendAck (printed by tools/mkmnm.py). -/
import Derived.Test.YtoeamgcoeoaijaaGreatGz10
import Derived.Deep.RegionHeld3
import Derived.Deep.DeepCutAuto
namespace Go.Proofs.YtoeamgcoeoaijaaGreat
open Go.ChangeShapes Go.WideShapes Go.ChangeAt Go.RowKit
set_option linter.unusedVariables false
set_option linter.unusedSimpArgs false
set_option maxRecDepth 100000

theorem mnP.cfg {ds : List Int} {cop : Int} {m : Mn} (h : mnP ds cop m) : cfgP ds cop := h.1.1
theorem one_nodes {ds : List Int} {cop x : Int} (h : cfgP ds cop) : nodesP ds cop [x] ↔ 0 ≤ x ∧ x ≤ (ds.length : Int) - 1 := by
  unfold nodesP
  rw [ascP_iff]
  simp [h]
def AckQ (W : World) (lo b : Nat) (sv ev wv : Value) (ds : List Int) (off node : Int) (m : Mn) (e : Ending) (w' : World) : Prop := ∃ ok, (ok = true ↔ ack9P ds m off node) ∧ e = .returned (.bool ok) ∧ Below lo W w' ∧ (ok = true → ∃ rs', BxZ w' lo b [.int .i64 m.bye, .int .i64 m.epoch, sv, ev, .bool m.planned, wv] ∧ rs'.map Nst.m = (ack9W m off node).wrote ∧ OwM lo w'.heap.size sv ev wv rs' m.sealed m.seen w')
set_option maxHeartbeats 8000000 in
theorem mack9_any (W : World) (lo b : Nat) (sv ev wv : Value) (qs : List (Nst (List Int))) (ds : List Int) (cop : Int) (ca : Option Addr) (cc : Nat) (off node : Int) (m : Mn) (hP : mnP ds cop m) (hX : BxZ W lo b [.int .i64 m.bye, .int .i64 m.epoch, sv, ev, .bool m.planned, wv]) (hq : qs.map Nst.m = m.wrote) (hI : ImM W lo sv ev wv qs m.sealed m.seen) (hF : FrM b sv ev wv qs m.sealed) (hlo : lo ≤ W.heap.size) (hN : Ns W (.slice ca ds.length cc) ds) (had : allInt ds) (hax : okInt node) (hld : ds.length ≤ 1048576) (hs : sizMend m ≤ 1048576) (c0 : -9223372036854775808 ≤ cop) (c1 : cop ≤ 9223372036854775807) :
    Calls Tryz.prog 69 #[.pointer (some ⟨b, 0, none⟩), .agg #[.slice ca ds.length cc, .int .i64 cop], .int .i64 off, .int .i64 node] W (AckQ W lo b sv ev wv ds off node m) := by
  have ba : ∀ (w : World) o, Below w.heap.size w (w.alloc o) := fun w o => (Below.refl _ _).alloc (Nat.le_refl _) o
  have CN := dH fun (W' : World) (hb : Below W.heap.size W W') (v : Value) (hv : Ns W' v [node]) => implNodes_any _ v ds [node] cop W' (hN.below hb) hv had (fun z hz => by simp at hz; subst hz; exact hax) hld (by simp) c0 c1
  have hwl : ∀ l ∈ m.wrote, l.length ≤ 1048576 := fun l hl => by
    obtain ⟨k, hk, rfl⟩ := List.getElem_of_mem hl
    have q := sumL_mem (ms := m.wrote) (k := k) hk
    unfold sizMend sizIntSS at hs
    omega
  have hwn : m.wrote.length ≤ 1048576 := by unfold sizMend sizIntSS at hs; omega
  have Hs : Hid (∀ l ∈ m.wrote, l.Pairwise (· < ·)) := fun l hl => ((ascP_iff _ _ _).1 (hP.wrote l hl).2).1
  have PA : Hid (ack9P ds m off node ↔ (1 ≤ off ∧ off ≤ (m.wrote.length : Int)) ∧ nodesP ds cop [node]) := by
    show _ ↔ _
    rw [one_nodes hP.cfg]
    rfl
  have EW : Hid ((ack9W m off node).wrote = m.wrote.set (off.toNat - 1) (putL node (m.wrote.getD (off.toNat - 1) []))) := rfl
  have hrl : qs.length = m.wrote.length := by rw [← hq, List.length_map]
  obtain ⟨wa, wz, rfl⟩ : ∃ wa wz, wv = .slice wa m.wrote.length wz := by
    obtain ⟨-, a3, c3, rfl, -, -⟩ := hI.2.2.1.rw
    exact ⟨a3, c3, by rw [hrl]⟩
  have Q0 : Hid (∀ w', ¬ ack9P ds m off node → Below lo W w' → AckQ W lo b sv ev (.slice wa m.wrote.length wz) ds off node m (.returned (.bool false)) w') := fun w' h hb => ⟨false, ⟨(fun h => by cases h), fun h' => absurd h' h⟩, rfl, hb, fun h => by cases h⟩
  have Q1 : Hid (∀ w' rs', ack9P ds m off node → Below lo W w' → BxZ w' lo b [.int .i64 m.bye, .int .i64 m.epoch, sv, ev, .bool m.planned, .slice wa m.wrote.length wz] → rs'.map Nst.m = (ack9W m off node).wrote → OwM lo w'.heap.size sv ev (.slice wa m.wrote.length wz) rs' m.sealed m.seen w' → AckQ W lo b sv ev (.slice wa m.wrote.length wz) ds off node m (.returned (.bool true)) w') := fun w' rs' h hb h1 h2 h3 => ⟨true, ⟨fun _ => h, fun _ => rfl⟩, rfl, hb, fun _ => ⟨rs', h1, h2, h3⟩⟩
  generalize AckQ W lo b sv ev (.slice wa m.wrote.length wz) ds off node m = QQ at *
  generalize ack9P ds m off node = PQ at *
  generalize (ack9W m off node).wrote = WW at *
  generalize hnp : nodesP ds cop [node] = PN at *
  clear hnp hP hs had hax hN
  generalize m.bye = f0 at *
  generalize m.epoch = f1 at *
  generalize m.planned = f4 at *
  generalize m.sealed = ss at *
  generalize m.seen = es at *
  generalize m.wrote = ws at *
  have bA := ba W (.cells #[.slice ca ds.length cc, .int .i64 cop] 26)
  have X0 := Bx.new W [.slice ca ds.length cc, .int .i64 cop] 26
  have xa := X0 0 _ rfl
  have xb := X0 1 _ rfl
  have hbl : b < W.heap.size := hX.lt
  have O1 := hX.below bA
  have p5 := (O1.2 5 _ rfl).1
  have I1 := dH (hI.below bA)
  have szA : (W.alloc (.cells #[.slice ca ds.length cc, .int .i64 cop] 26)).heap.size = W.heap.size + 1 := by simp
  have bB := ba (W.alloc (.cells #[.slice ca ds.length cc, .int .i64 cop] 26)) (.cells #[.int .i64 node] 3)
  have BAB := dH (bT bA bB)
  have NB : Hid (Ns ((W.alloc (.cells #[.slice ca ds.length cc, .int .i64 cop] 26)).alloc (.cells #[.int .i64 node] 3)) (.slice (some ⟨W.heap.size + 1, 0, none⟩) 1 1) [node]) := by
    have q := Bx.new (W.alloc (.cells #[.slice ca ds.length cc, .int .i64 cop] 26)) [.int .i64 node] 3
    rw [szA] at q
    refine ⟨by simp, _, _, rfl, by simp, .inr ⟨_, _, rfl, fun j hj => ?_⟩⟩
    have : j = 0 := by simpa using hj
    subst this
    exact q 0 _ rfl
  have CC := dH (dU CN _ (dU BAB) _ (dU NB))
  have OX := dH O1
  clear CN X0 hX hI NB
  by_cases h1 : off < 1
  · go_enter Tryz.func69, Tryz.ntmps69
    go_wp2_with fail
    exact dU Q0 _ (fun h => by have := ((dU PA).1 h).1; omega) (bA.mono hlo)
  by_cases h2 : off > (ws.length : Int)
  · have h1' : 1 ≤ off := by omega
    go_enter Tryz.func69, Tryz.ntmps69
    go_wp2_with fail
    exact dU Q0 _ (fun h => by have := ((dU PA).1 h).1; omega) (bA.mono hlo)
  have h1' : 1 ≤ off := by omega
  have h2' : off ≤ (ws.length : Int) := by omega
  have h2'' : ¬ (ws.length : Int) < off := by omega
  go_enter Tryz.func69, Tryz.ntmps69
  go_wp2_with fail
  refine (dU CC).mono ?_
  rintro e w1 ⟨⟨b1, rfl, hb1⟩, bl1⟩
  have B1 := bT (dU BAB) bl1
  have O1 := (dU OX).below (bT bB bl1)
  have I2 := (dU I1).below (bT bB bl1)
  have sz1 := B1.size
  clear CC BAB OX I1 bA bB bl1 xa xb p5 szA
  cases b1
  · have hno := dH (show ¬ PQ from fun h => by have := hb1.2 ((dU PA).1 h).2; cases this)
    clear I2 O1 hb1
    go_wp2_with fail
    exact dU Q0 _ (dU hno) (B1.mono hlo)
  have hPQ := dH ((dU PA).2 ⟨⟨h1', h2'⟩, hb1.1 rfl⟩)
  obtain ⟨j, hj'⟩ : ∃ j : Nat, off = (j : Int) + 1 := ⟨off.toNat - 1, by omega⟩
  have hjl : j < qs.length := by omega
  have ej : off.toNat - 1 = j := by omega
  have eg : ws.getD j [] = qs[j].m := by
    have h1 : ws[j]'(by omega) = (qs.map Nst.m)[j]'(by simpa using hjl) := by simp only [hq]
    rw [List.getElem_map] at h1
    rw [List.getD_eq_getElem?_getD, List.getElem?_eq_getElem (by omega), Option.getD_some, h1]
  have EWj : Hid (∀ p : Nst (List Int), p.m = putL node qs[j].m → (qs.set j p).map Nst.m = WW) := fun p hp => by
    rw [dU EW, ej, eg, List.map_set, hq, hp]
  have hjm : qs[j].m ∈ ws := by rw [← hq]; exact List.mem_map.2 ⟨_, List.getElem_mem hjl, rfl⟩
  have hnl : qs[j].m.length ≤ 1048576 := hwl _ hjm
  have hst := dH (dU Hs _ hjm)
  obtain ⟨g, o, rfl, c5, f5, n5⟩ := I2.owm.cell hjl
  have hne : qs ≠ [] := fun e => by rw [e] at hjl; simp at hjl
  have hgo : g ≠ b := (hF.2.2.1).resolve_left hne
  have hg0 : lo ≤ g := (I2.2.2.1.geG).resolve_left hne
  have hg1 : g < w1.heap.size := dCell_lt c5
  have UT : Hid (∀ t, touch (.slice qs[j].a qs[j].m.length qs[j].c) = some t → lo ≤ t ∧ t ≠ b ∧ t ≠ g) := fun t ht => by
    have R := I2.2.2.2.1 _ (List.getElem_mem hjl)
    obtain ⟨q1, q2⟩ := R.touch ht
    subst q2
    exact ⟨R.ge.resolve_left q1, (hF.2.2.2 _ (List.getElem_mem hjl)).resolve_left q1, (I2.2.2.2.2.1.2 j hjl).resolve_left q1⟩
  have HR : Hid (∀ wd, Below w1.heap.size w1 wd → RmN wd lo (.slice qs[j].a qs[j].m.length qs[j].c) qs[j].m) := fun wd hb => (I2.below hb).2.2.2.1 _ (List.getElem_mem hjl)
  have HA : Hid (∀ wd w5 pa pc, Below w1.heap.size w1 wd → wd.grownBy w5 (touch (.slice qs[j].a qs[j].m.length qs[j].c)) → RmN w5 lo (.slice pa (putL node qs[j].m).length pc) (putL node qs[j].m) → ((qs[j].m ≠ [] ∧ bO (.slice pa (putL node qs[j].m).length pc) = bO (.slice qs[j].a qs[j].m.length qs[j].c)) ∨ wd.heap.size ≤ bO (.slice pa (putL node qs[j].m).length pc)) →
      OwM lo w5.heap.size sv ev (.slice (some ⟨g, o, none⟩) ws.length wz) (qs.set j ⟨pa, pc, putL node qs[j].m⟩) ss es (w5.setCell ⟨g, o + j, none⟩ (.slice pa (putL node qs[j].m).length pc))) := fun wd w5 pa pc hb hG hR hh => (I2.below hb).acked hjl hG hR hh
  have t3 : IntKind.i64.wrap ((j : Int) + 1 - 1) = (j : Int) := by rw [IntKind.wrap_i64]; omega
  have t6 : IntKind.i64.wrap (j : Int) = (j : Int) := by rw [IntKind.wrap_i64]; omega
  have t4 : (j : Int) < (ws.length : Int) := by omega
  have t5 : (0 : Int) ≤ (j : Int) := by omega
  subst hj'
  generalize hy : qs[j] = y at *
  obtain ⟨ya, yc, yn⟩ := y
  simp only at *
  have p0 := (O1.2 5 _ rfl).1
  have bd : Below w1.heap.size w1 w1.drew := (Below.refl _ _).drew
  clear hb1 PA EW eg ej I2 Hs hwl hF hjm n5 h1 h2 h1' h2' h2''
  go_wp2_with fail
  refine wp_region_noPanic ?_
  refine wp_region_held_drew (S := fun W => W.cell? ⟨b, 5, none⟩ = some (.slice (some ⟨g, o, none⟩) ws.length wz)) (by kernel_rfl) (by first | exact pd | exact p0 | go_keep) (fun hHeld => ?_)
  have hwd : Below w1.heap.size w1 w1.drew := bd
  have cd := (bd.cell (p := ⟨g, o + j, none⟩) (dCell_lt c5)).trans c5
  have fd := (bd.frozen (p := ⟨g, o + j, none⟩) (dCell_lt c5)).trans f5
  have pd := (O1.below bd).2 5 _ rfl |>.1
  clear c5 f5
  generalize w1.drew = wd at *
  refine tY 0 (v := ?_) rfl (by kernel_rfl) (.inl ⟨by rfl, ?_⟩) ‹_› ?_
  rotate_left 1
  · intro w hSw
    (try dsimp only at hSw)
    first | (go_simp; done) | (go_simp; with_reducible rfl)
  try simp only [Act.put, sA, sB, sC]
  refine tY 1 (v := ?_) rfl (by kernel_rfl) (.inl ⟨by rfl, ?_⟩) ‹_› ?_
  rotate_left 1
  · intro w hSw
    (try dsimp only at hSw)
    first | (go_simp; done) | (go_simp; with_reducible rfl)
  try simp only [Act.put, sA, sB, sC]
  refine tY 2 (v := ?_) rfl (by kernel_rfl) (.inl ⟨by rfl, ?_⟩) ‹_› ?_
  rotate_left 1
  · intro w hSw
    (try dsimp only at hSw)
    first | (go_simp; done) | (go_simp; with_reducible rfl)
  try simp only [Act.put, sA, sB, sC]
  refine tY 3 (v := ?_) rfl (by kernel_rfl) (.inl ⟨by rfl, ?_⟩) ‹_› ?_
  rotate_left 1
  · intro w hSw
    (try dsimp only at hSw)
    first | (go_simp; done) | (go_simp; with_reducible rfl)
  try simp only [Act.put, sA, sB, sC]
  refine tY 4 (v := ?_) rfl (by kernel_rfl) (.inl ⟨by rfl, ?_⟩) ‹_› ?_
  rotate_left 1
  · intro w hSw
    (try dsimp only at hSw)
    first | (go_simp; done) | (go_simp; with_reducible rfl)
  try simp only [Act.put, sA, sB, sC]
  refine tY 5 (v := ?_) rfl (by kernel_rfl) (.inl ⟨by rfl, ?_⟩) ‹_› ?_
  rotate_left 1
  · intro w hSw
    (try dsimp only at hSw)
    first | (go_simp; done) | (go_simp; with_reducible rfl)
  try simp only [Act.put, sA, sB, sC]
  refine tY 6 (v := ?_) rfl (by kernel_rfl) (.inl ⟨by rfl, ?_⟩) ‹_› ?_
  rotate_left 1
  · intro w hSw
    (try dsimp only at hSw)
    first | (go_simp; done) | (go_simp; with_reducible rfl)
  try simp only [Act.put, sA, sB, sC]
  refine tY 7 (v := ?_) rfl (by kernel_rfl) (.inl ⟨by rfl, ?_⟩) ‹_› ?_
  rotate_left 1
  · intro w hSw
    (try dsimp only at hSw)
    first | (go_simp; done) | (go_simp; with_reducible rfl)
  try simp only [Act.put, sA, sB, sC]
  refine tY 8 (v := ?_) rfl (by kernel_rfl) (.inl ⟨by rfl, ?_⟩) ‹_› ?_
  rotate_left 1
  · intro w hSw
    (try dsimp only at hSw)
    first | (go_simp; done) | (go_simp; with_reducible rfl)
  try simp only [Act.put, sA, sB, sC]
  refine tY 9 (v := ?_) rfl (by kernel_rfl) (.inl ⟨by rfl, ?_⟩) ‹_› ?_
  rotate_left 1
  · intro w hSw
    (try dsimp only at hSw)
    first | (go_simp; done) | (go_simp; with_reducible rfl)
  try simp only [Act.put, sA, sB, sC]
  refine tY 10 (v := ?_) rfl (by kernel_rfl) (.inl ⟨by rfl, ?_⟩) ‹_› ?_
  rotate_left 1
  · intro w hSw
    (try dsimp only at hSw)
    first | (go_simp; done) | (go_simp; with_reducible rfl)
  try simp only [Act.put, sA, sB, sC]
  refine tY 11 (v := ?_) rfl (by kernel_rfl) (.inl ⟨by rfl, ?_⟩) ‹_› ?_
  rotate_left 1
  · intro w hSw
    (try dsimp only at hSw)
    first | (go_simp; done) | (go_simp; with_reducible rfl)
  try simp only [Act.put, sA, sB, sC]
  refine tY 12 (v := ?_) rfl (by kernel_rfl) (.inl ⟨by rfl, ?_⟩) ‹_› ?_
  rotate_left 1
  · intro w hSw
    (try dsimp only at hSw)
    first | (go_simp; done) | (go_simp; with_reducible rfl)
  try simp only [Act.put, sA, sB, sC]
  refine tY 14 (v := ?_) rfl (by kernel_rfl) (.inl ⟨by rfl, ?_⟩) ‹_› ?_
  rotate_left 1
  · intro w hSw
    (try dsimp only at hSw)
    first | (go_simp; done) | (go_simp; with_reducible rfl)
  try simp only [Act.put, sA, sB, sC]
  refine wpAnyH_ready (rs := [13]) (by kernel_rfl) (by simp) ?_
  refine rC rfl (fun K hK => ?_) AllReadyH.nil
  go_simp
  refine hK.out _ _ (by first | exact pd | exact p0 | go_keep) (fun hHeld => ?_)
  clear hK K
  try simp only [Act.put, sA, sB, sC]
  refine wpAnyH_ready (rs := [15]) (by kernel_rfl) (by simp) ?_
  refine rC rfl (fun K hK => ?_) AllReadyH.nil
  go_simp
  refine (withNode_any wd lo ya yc yn node (dU HR _ hwd) (by have := hwd.size; omega) (dU hst) hnl).mono ?_
  rintro e w5 ⟨pa, pc, rfl, R5, g5, hb5⟩
  have T5 := dH (dU HA wd w5 pa pc hwd g5 R5 hb5)
  have Od := (O1.below hwd).grown g5 (fun e => (dU UT _ e).2.1 rfl)
  have hkg := g5.block g (Nat.lt_of_lt_of_le hg1 hwd.size) (fun e => (dU UT _ e.symm).2.2 rfl)
  have cd' := (World.cell?_of_block (a := ⟨g, o + j, none⟩) hkg).trans cd
  have fd' := (World.frozen?_of_block (a := ⟨g, o + j, none⟩) hkg).trans fd
  have B5 := ((bT B1 hwd).mono hlo).grown g5 (by have := hwd.size; omega) (fun k e => (dU UT _ e).1)
  have pd := (Od.2 5 _ rfl).1
  clear cd fd hwd R5 g5 hb5 hkg HA HR UT
  (try go_wp2_with fail)
  refine hK.out _ _ (by first | exact pd | exact p0 | go_keep) (fun hHeld => ?_)
  clear hK K
  try simp only [Act.put, sA, sB, sC]
  refine tY 16 (v := ?_) rfl (by kernel_rfl) (.inl ⟨by rfl, ?_⟩) ‹_› ?_
  rotate_left 1
  · intro w hSw
    (try dsimp only at hSw)
    first | (go_simp; done) | (go_simp; with_reducible rfl)
  try simp only [Act.put, sA, sB, sC]
  refine wpAnyH_ready (rs := [17]) (by kernel_rfl) (by simp) ?_
  refine rC rfl (fun K hK => ?_) AllReadyH.nil
  go_simp
  have O6 := Od.far (b' := g) (o := o + j) (Ne.symm hgo) (.slice pa (putL node yn).length pc)
  have hb6 := B5.setCell (p := ⟨g, o + j, none⟩) hg0 (.slice pa (putL node yn).length pc)
  have hz6 : w5.heap.size = (w5.setCell ⟨g, o + j, none⟩ (.slice pa (putL node yn).length pc)).heap.size := by simp
  have pd := (O6.2 5 _ rfl).1
  clear cd' fd' Od B5
  generalize w5.setCell ⟨g, o + j, none⟩ (.slice pa (putL node yn).length pc) = w6 at *
  (try go_wp2_with fail)
  refine hK.out _ _ (by first | exact pd | exact p0 | go_keep) (fun hHeld => ?_)
  clear hK K
  try simp only [Act.put, sA, sB, sC]
  refine wpAnyH_done (by kernel_rfl) ?_ _
  refine NoPanic.normal ?_
  go_wp2_with fail
  rw [hz6] at T5
  exact dU Q1 _ _ (dU hPQ) hb6 O6 (dU EWj _ rfl) (dU T5)
end Go.Proofs.YtoeamgcoeoaijaaGreat
