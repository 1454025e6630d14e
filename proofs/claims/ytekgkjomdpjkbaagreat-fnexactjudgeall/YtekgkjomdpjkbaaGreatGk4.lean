/- Several texts in one: JgNa, JgN, Q14T. -/
import Derived.Test.YtekgkjomdpjkbaaGreatGk12
import Derived.Test.YtekgkjomdpjkbaaGreatGk8
import Derived.Deep.RegionHeld3
import Derived.Deep.DeepCutAuto
namespace Go.Proofs.YtekgkjomdpjkbaaGreat
open Go.ChangeShapes Go.WideShapes Go.ChangeAt Go.RowKit
set_option linter.unusedSimpArgs false
set_option linter.unusedVariables false
set_option maxRecDepth 100000
set_option maxHeartbeats 8000000 in
theorem sSent_any (c0 c1 c2 c3 c4 c5 c6 c7 c8 c10 : Value) (ta : Option Addr) (tc : Nat) (sent : List Se) (e : Ev) (w : World) (ht : RdSentS (.slice ta sent.length tc) sent w) :
  Calls Tryz.prog 51 #[.agg #[c0, c1, c2, c3, c4, c5, c6, c7, c8, .slice ta sent.length tc, c10], e.val] w fun r w' => RetB (trueE sent e) r ∧ Below w.heap.size w w' := by
 have ba' : ∀ (w : World) o, Below w.heap.size w (w.alloc o) := fun w o => (Below.refl _ _).alloc (Nat.le_refl _) o
 have HT := dH fun W (hW : Below w.heap.size w W) => RdSentS.below ht hW
 have hlen := ht.1
 have YES : Hid (∀ i (h : i < sent.length), sent[i].pl = e.pl → sent[i].data = e.data → RetB (trueE sent e) (.returned (.bool true))) := fun i h h1 h2 => RetB.yes ⟨_, List.getElem_mem h, h1, h2⟩
 have NO : Hid ((∀ i (h : i < sent.length), ¬ (sent[i].pl = e.pl ∧ sent[i].data = e.data)) → RetB (trueE sent e) (.returned (.bool false))) := fun h => RetB.no fun ⟨s, hs, h1, h2⟩ => by
  obtain ⟨i, hi, rfl⟩ := List.getElem_of_mem hs
  exact h i hi ⟨h1, h2⟩
 clear ht
 obtain ⟨y0, y1, y2⟩ := e
 generalize trueE sent ⟨y0, y1, y2⟩ = Q at *
 simp only at YES NO
 have b1 := ba' w (.cells #[c0, c1, c2, c3, c4, c5, c6, c7, c8, .slice ta sent.length tc, c10] 47)
 have b2 := ba' (w.alloc (.cells #[c0, c1, c2, c3, c4, c5, c6, c7, c8, .slice ta sent.length tc, c10] 47)) (.cells #[.int .i64 y0, .int .i64 y1, .string y2] 81)
 have e1 : (w.alloc (.cells #[c0, c1, c2, c3, c4, c5, c6, c7, c8, .slice ta sent.length tc, c10] 47)).heap.size = w.heap.size + 1 := by simp
 have XW := (Bx.new w [c0, c1, c2, c3, c4, c5, c6, c7, c8, .slice ta sent.length tc, c10] 47).below b2
 have XE := Bx.new (w.alloc (.cells #[c0, c1, c2, c3, c4, c5, c6, c7, c8, .slice ta sent.length tc, c10] 47)) [.int .i64 y0, .int .i64 y1, .string y2] 81
 rw [e1] at XE
 have B0 := bT b1 b2
 clear b1 b2 e1
 show Calls Tryz.prog 51 #[.agg #[c0, c1, c2, c3, c4, c5, c6, c7, c8, .slice ta sent.length tc, c10], .agg #[.int .i64 y0, .int .i64 y1, .string y2]] w _
 go_enter Tryz.func51, Tryz.ntmps51
 go_wp2
 generalize (w.alloc (.cells #[c0, c1, c2, c3, c4, c5, c6, c7, c8, .slice ta sent.length tc, c10] 47)).alloc (.cells #[.int .i64 y0, .int .i64 y1, .string y2] 81) = w0 at *
 go_loopw [5] (fun y wr => ∃ k : Nat, y = .int .i64 (k : Int) ∧ k ≤ sent.length ∧ Hid (∀ i (h : i < sent.length), i < k → ¬ (sent[i].pl = y1 ∧ sent[i].data = y2)) ∧ Below w0.heap.size w0 wr) (fun y _ => sent.length - (intOf y).toNat)
 case atStart => exact ⟨0, rfl, Nat.zero_le _, fun i h h' => by omega, Below.refl _ _⟩
 case round =>
  obtain ⟨k, rfl, hk, hinv, hb⟩ := hrel
  replace XW := XW.below hb
  replace XE := XE.below hb
  have t9 := XW 9 _ rfl
  have x1 := XE 1 _ rfl
  have x2 := XE 2 _ rfl
  by_cases hlt : (k : Int) < (sent.length : Int)
  ·have hkl : k < sent.length := by omega
   obtain ⟨b, off, rfl, he⟩ := Rw.atSe (dU HT wr (bT B0 hb)) hkl
   obtain ⟨g0, g1, g2⟩ := he k hkl
   have H2 : Hid (¬ (sent[k].pl = y1 ∧ sent[k].data = y2) → ∀ i (h : i < sent.length), i < k + 1 → ¬ (sent[i].pl = y1 ∧ sent[i].data = y2)) := fun hh i h hi => by
    by_cases e : i = k
    ·subst e; exact hh
    ·exact dU hinv i h (by omega)
   have YK := dH (dU YES k hkl)
   clear hinv he YES NO HT XW XE
   generalize sent[k] = s at *
   obtain ⟨s0, s1, s2⟩ := s
   simp only at g0 g1 g2 H2 YK
   by_cases h1 : s0 = y1
   ·have hb1 : (s0 == y1) = true := by simpa using h1
    by_cases h2 : s1 = y2
    ·have R := dH (dU YK h1 h2)
     have BF := bT B0 hb
     subst h1 h2
     clear H2 YK
     go_wp2_with fail
     go_quiet (fail)
     go_wp2
     go_ret
     exact ⟨dU R, below_drewN BF _⟩
    ·have H3 := dH (dU H2 fun h => h2 h.2)
     have hb2 := txt_ne h2
     subst h1
     clear H2 YK h2
     go_wp2_with fail
     go_quiet (fail)
     go_wp2
     go_roundw
     case rel => exact ⟨k + 1, by go_num, by omega, H3, below_drewN hb _⟩
     case measure => simp [intOf]; omega
   ·have H3 := dH (dU H2 fun h => h1 h.1)
    have hb1 : (s0 == y1) = false := by simpa using h1
    clear H2 YK h1
    go_wp2_with fail
    go_quiet (fail)
    go_wp2
    go_roundw
    case rel => exact ⟨k + 1, by go_num, by omega, H3, below_drewN hb _⟩
    case measure => simp [intOf]; omega
  ·have R := dH (dU NO fun i h => dU hinv i h (by omega))
   have B2 := bT B0 hb
   clear YES NO hinv HT XW XE
   go_wp2
   go_ret
   exact ⟨dU R, B2⟩
def trueP (m : Wo) : Prop := woP m ∧ ∀ r ∈ m.readers, trueR m.sent r
set_option maxHeartbeats 8000000 in
theorem specTrue_any (v : Value) (m : Wo) (w : World) (ok : okWorld m) (hs : sizWorld m ≤ 1048576) (hv : RdWorld v m w) :
  Calls Tryz.prog 14 #[v] w fun e w' => RetB (trueP m) e ∧ Below w.heap.size w w' := by
 have CW := dH fun W (hb : Below w.heap.size w W) => specWorldOk_any v m W ok hs (hv.below hb)
 obtain ⟨da, dc, sa, sc, la, lc, ea, ec, wa, wc, na, nc, ra, rc', ta, tc, rfl, hd, hst, hlo, hre, hwr, hme, hrd, hse⟩ := partsWorld hv
 clear hd hst hlo hre hwr hme hs ok
 have HR := dH fun W (hb : Below w.heap.size w W) => RdReaderS.below hrd hb
 have HS := dH fun W (hb : Below w.heap.size w W) => RdSentS.below hse hb
 clear hrd hv hse
 have WP : Hid (trueP m ↔ woP m ∧ ∀ r ∈ m.readers, trueR m.sent r) := Iff.rfl
 have WL : Hid (woP m → m.readers.length = 2) := fun h => h.2.2.1.1
 generalize woP m = PW at *
 generalize trueP m = PQ at *
 obtain ⟨⟨ds, cop⟩, stores, lost, ⟨eras, trim⟩, writers, mends, readers, sent, torn⟩ := m
 simp only at *
 have B0 : Below w.heap.size w (w.alloc (.cells #[.slice da ds.length dc, .int .i64 cop, .slice sa stores.length sc, .slice la lost.length lc, .slice ea eras.length ec, .int .i64 trim, .slice wa writers.length wc, .slice na mends.length nc, .slice ra readers.length rc', .slice ta sent.length tc, .bool torn] 47)) := (Below.refl _ _).alloc (Nat.le_refl _) _
 have X0 := Bx.new w [.slice da ds.length dc, .int .i64 cop, .slice sa stores.length sc, .slice la lost.length lc, .slice ea eras.length ec, .int .i64 trim, .slice wa writers.length wc, .slice na mends.length nc, .slice ra readers.length rc', .slice ta sent.length tc, .bool torn] 47
 go_enter Tryz.func14, Tryz.ntmps14
 go_wp2_with fail
 generalize w.alloc (.cells #[.slice da ds.length dc, .int .i64 cop, .slice sa stores.length sc, .slice la lost.length lc, .slice ea eras.length ec, .int .i64 trim, .slice wa writers.length wc, .slice na mends.length nc, .slice ra readers.length rc', .slice ta sent.length tc, .bool torn] 47) = w0 at *
 refine (dU CW _ B0).mono ?_
 rintro e w1 ⟨⟨q, rfl, hq⟩, b1⟩
 have B1 := dH (bT B0 b1)
 have X1 := X0.below b1
 cases q
 ·have R := dH (show RetB PQ (.returned (.bool false)) from RetB.no fun h => by have := hq.2 ((dU WP).1 h).1; cases this)
  clear hq CW b1 X0 B0 HR HS WP X1 WL
  go_wp2
  go_ret
  exact ⟨dU R, dU B1⟩
 have HQ := dH (hq.1 rfl)
 have HL := dH (dU WL (hq.1 rfl))
 clear hq CW b1 X0 B0 WL
 have RY : Hid ((∀ i (h : i < readers.length), trueR sent readers[i]) → RetB PQ (.returned (.bool true))) := fun h => RetB.yes ((dU WP).2 ⟨dU HQ, fun r hr => by obtain ⟨i, hi, rfl⟩ := List.getElem_of_mem hr; exact h i hi⟩)
 have RN : Hid (∀ i (h : i < readers.length) j (h' : j < readers[i].out.length), readers[i].out[j].kind = 1 → ¬ trueE sent readers[i].out[j] → RetB PQ (.returned (.bool false))) := fun i h j h' e hn => RetB.no fun q => hn (((dU WP).1 q).2 _ (List.getElem_mem h) _ (List.mem_filter.2 ⟨List.getElem_mem h', by simp [e]⟩))
 clear WP HQ
 go_wp2
 go_loopw [3] (fun x wr => ∃ k : Nat, x = .int .i64 (k : Int) ∧ k ≤ 2 ∧ Hid (∀ i (h : i < readers.length), i < k → trueR sent readers[i]) ∧ Below w1.heap.size w1 wr) (fun x _ => 2 - (intOf x).toNat)
 case atStart => exact ⟨0, rfl, by omega, fun i h h' => by omega, Below.refl _ _⟩
 case round =>
  obtain ⟨k, rfl, hk, hinv, hbo⟩ := hrel
  by_cases hlt : (k : Int) < 2
  ·have hkl : k < readers.length := by rw [dU HL]; omega
   have hin : (k : Int) < (readers.length : Int) := by omega
   have HI : Hid ((∀ j (h : j < readers[k].out.length), readers[k].out[j].kind = 1 → trueE sent readers[k].out[j]) → ∀ i (h : i < readers.length), i < k + 1 → trueR sent readers[i]) := fun hh i h hi => by
    by_cases e : i = k
    ·subst e
     intro z hz
     obtain ⟨hm, hk1⟩ := List.mem_filter.1 hz
     obtain ⟨j, hj, rfl⟩ := List.getElem_of_mem hm
     exact hh j hj (by simpa using hk1)
    ·exact dU hinv i h (by omega)
   have HNN : Hid (∀ j (h' : j < readers[k].out.length), readers[k].out[j].kind = 1 → ¬ trueE sent readers[k].out[j] → RetB PQ (.returned (.bool false))) := fun j h' e => dU RN k hkl j h' e
   have RA : Hid (∀ W, Below w.heap.size w W → ∃ b off ua uc, ra = some ⟨b, off, none⟩ ∧ W.cell? ⟨b, off + k * 3 + 2, none⟩ = some (.slice ua readers[k].out.length uc) ∧ RdEventS (.slice ua readers[k].out.length uc) readers[k].out W) := fun W hW => readerAt (dU HR W hW) hkl
   have hul : readers[k].out.length ≤ 9223372036854775807 := by
    obtain ⟨_, _, _, _, _, _, hu⟩ := dU RA _ (bT (dU B1) hbo)
    exact hu.1
   obtain ⟨rb, ro, _, _, rfl, -, -⟩ := dU RA _ (bT (dU B1) hbo)
   clear hinv
   generalize readers[k].out = out at *
   go_wp2
   go_loopw [4] (fun y wy => ∃ j : Nat, y = .int .i64 (j : Int) ∧ j ≤ out.length ∧ Hid (∀ i (h : i < out.length), i < j → out[i].kind = 1 → trueE sent out[i]) ∧ Below w1.heap.size w1 wy) (fun y _ => out.length - (intOf y).toNat)
   case atStart => exact ⟨0, rfl, by omega, fun i h h' => by omega, hbo⟩
   case round =>
    obtain ⟨j, rfl, hj, hjn, hby⟩ := hrel
    have Bw := bT (dU B1) hby
    obtain ⟨b, off, ua, uc, er, cu, hu⟩ := dU RA _ Bw
    simp only [Option.some.injEq, Addr.mk.injEq, and_true] at er
    obtain ⟨rfl, rfl⟩ := er
    have XX := X1.below hby
    have k8 := XX 8 _ rfl
    by_cases hlj : (j : Int) < (out.length : Int)
    ·have hjl : j < out.length := by omega
     obtain ⟨eb, eo, rfl, he⟩ := hu.atEv hjl
     obtain ⟨c0, c1, c2⟩ := he j hjl
     have H2 : Hid ((out[j].kind = 1 → trueE sent out[j]) → ∀ i (h : i < out.length), i < j + 1 → out[i].kind = 1 → trueE sent out[i]) := fun hh i h hi => by
      by_cases e : i = j
      ·subst e; exact hh
      ·exact dU hjn i h (by omega)
     have HNJ := dH (dU HNN j hjl)
     have CS := dH fun W (hW : Below w.heap.size w W) => sSent_any (.slice da ds.length dc) (.int .i64 cop) (.slice sa stores.length sc) (.slice la lost.length lc) (.slice ea eras.length ec) (.int .i64 trim) (.slice wa writers.length wc) (.slice na mends.length nc) (.slice (some ⟨rb, ro, none⟩) readers.length rc') (.bool torn) ta tc sent out[j] W (dU HS W hW)
     clear he hu hjn HNN HI RY RN RA
     generalize out[j] = z at *
     obtain ⟨z0, z1, z2⟩ := z
     simp only at c0 c1 c2 H2 HNJ
     have bz : Below wr.heap.size wr (wr.alloc (.cells #[.int .i64 z0, .int .i64 z1, .string z2] 81)) := (Below.refl _ _).alloc (Nat.le_refl _) _
     have XZ := Bx.new wr [.int .i64 z0, .int .i64 z1, .string z2] 81
     have hbz := bT hby bz
     have XW := XX.below bz
     have q0 := XZ 0 _ rfl
     by_cases h1 : z0 = 1
     ·subst h1
      have q1 := XZ 1 _ rfl
      have q2 := XZ 2 _ rfl
      have k0 := XW 0 _ rfl
      have k1 := XW 1 _ rfl
      have k2 := XW 2 _ rfl
      have k3 := XW 3 _ rfl
      have k4 := XW 4 _ rfl
      have k5 := XW 5 _ rfl
      have k6 := XW 6 _ rfl
      have k7 := XW 7 _ rfl
      have k8' := XW 8 _ rfl
      have k9 := XW 9 _ rfl
      have k10 := XW 10 _ rfl
      unfold Ev.val at CS
      go_wp2_with fail
      generalize wr.alloc (.cells #[.int .i64 1, .int .i64 z1, .string z2] 81) = wz at *
      refine (dU CS _ (bT (dU B1) hbz)).mono ?_
      rintro e w2 ⟨⟨q, rfl, hq⟩, b2⟩
      have hb2 := bT hbz b2
      clear k0 k1 k2 k3 k4 k5 k6 k7 k8' k9 k10 q0 q1 q2 c0 c1 c2 k8 cu b2 CS
      cases q
      ·have R := dH (dU HNJ (by first | trivial | rfl) fun h => by have := hq.2 h; cases this)
       have BF := bT (dU B1) hb2
       clear hq HNJ H2
       go_wp2
       go_ret
       exact ⟨dU R, BF⟩
      ·have H3 := dH (dU H2 fun _ => hq.1 (by first | trivial | rfl))
       clear hq HNJ H2
       go_wp2
       go_roundw
       case rel => exact ⟨j + 1, by go_num, by omega, H3, hb2⟩
       case measure => simp [intOf]; omega
     ·have H3 := dH (dU H2 fun h => absurd h h1)
      have hb1 : (z0 == 1) = false := by simpa using h1
      clear H2 HNJ CS
      go_wp2
      go_roundw
      case rel => exact ⟨j + 1, by go_num, by omega, H3, hbz⟩
      case measure => simp [intOf]; omega
    ·have H3 := dH (dU HI fun i h => dU hjn i h (by omega))
     clear hjn HI HNN hu
     go_wp2
     go_roundw
     case rel => exact ⟨k + 1, by go_num, by omega, H3, hby⟩
     case measure => simp [intOf]; omega
  ·have R := dH (dU RY fun i h => dU hinv i h (by rw [dU HL] at h; omega))
   have BF := bT (dU B1) hbo
   clear RY RN hinv HR HL
   go_wp2
   go_ret
   exact ⟨dU R, BF⟩
theorem sentAsc {m : Wo} (h : woP m) : ascBy Se.pl m.sent := fun i hi => (h.2.2.2.2 (i + 1) hi).2.2 (by omega)
theorem judgeTrue1 (w : World) (m : Wo) (hs : sizWorld m ≤ 1048576) (h : woP m) : Judge1 w m ⟨#[116, 114, 117, 101]⟩ (∀ r ∈ m.readers, trueR m.sent r) := fun W bx b mb hb hc hm ⟨_, rv, tv, c8, c9, hr, ht⟩ => by
 have hl : m.sent.length ≤ 1048576 := by unfold sizWorld sizSentS at hs; omega
 have hrl : ∀ r ∈ m.readers, r.out.length ≤ 1048576 := fun r hr => rrOut_le (by unfold sizWorld at hs; omega) hr
 have C := trueC_any bx rv tv m.readers m.sent W c8 c9 hr ht hrl (sentAsc h) hl
 cases ht' : m.torn with
 | false =>
  rw [ht'] at hm
  exact judged1_found ⟨#[116, 114, 117, 101]⟩ mb b 5 1 118 _ _ _ W (by intro args w; rfl) hc hm (by kernel_rfl) C
 | true =>
  rw [ht'] at hm
  exact judged1_found ⟨#[116, 114, 117, 101]⟩ mb b 5 1 118 _ _ _ W (by intro args w; rfl) hc hm (by kernel_rfl) C
theorem judgedTrue_any (v nv' : Value) (m : Wo) (w : World) (ok : okWorld m) (hs : sizWorld m ≤ 1048576) (hv : RdWorld v m w) (hn : Txs w nv' [⟨#[116, 114, 117, 101]⟩]) :
  Calls Tryz.prog 42 #[v, nv'] w fun e w' => RetB (trueP m) e ∧ Below w.heap.size w w' :=
 (judgedG_any v nv' m [⟨#[116, 114, 117, 101]⟩] (fun _ => ∀ r ∈ m.readers, trueR m.sent r) w ok hs hv hn fun h z hz => by
  obtain rfl : z = ⟨#[116, 114, 117, 101]⟩ := by simpa using hz
  exact judgeTrue1 w m hs h).mono fun e w' ⟨h1, h2⟩ => ⟨h1.to_iff ⟨fun h => ⟨h.1, h.2 ⟨#[116, 114, 117, 101]⟩ (by simp)⟩, fun h => ⟨h.1, fun _ _ => h.2⟩⟩, h2⟩
set_option maxHeartbeats 4000000 in
theorem implTrue_any (v : Value) (m : Wo) (w : World) (ok : okWorld m) (hs : sizWorld m ≤ 1048576) (hv : RdWorld v m w) :
  Calls Tryz.prog 15 #[v] w fun e w' => RetB (trueP m) e ∧ Below w.heap.size w w' := by
 have CJ := dH fun W (hb : Below w.heap.size w W) nv' (hn : Txs W nv' [⟨#[116, 114, 117, 101]⟩]) => judgedTrue_any v nv' m W ok hs (hv.below hb) hn
 obtain ⟨da, dc, sa, sc, la, lc, ea, ec, wa, wc, na, nc, ra, rc', ta, tc, rfl, hd, hst, hlo, hre, hwr, hme, hrd, hse⟩ := partsWorld hv
 clear hd hst hlo hre hwr hme hse hs ok hrd hv
 generalize trueP m = PQ at *
 obtain ⟨⟨ds, cop⟩, stores, lost, ⟨eras, trim⟩, writers, mends, readers, sent, torn⟩ := m
 simp only at *
 have B0 : Below w.heap.size w (w.alloc (.cells #[.slice da ds.length dc, .int .i64 cop, .slice sa stores.length sc, .slice la lost.length lc, .slice ea eras.length ec, .int .i64 trim, .slice wa writers.length wc, .slice na mends.length nc, .slice ra readers.length rc', .slice ta sent.length tc, .bool torn] 47)) := (Below.refl _ _).alloc (Nat.le_refl _) _
 have es : (w.alloc (.cells #[.slice da ds.length dc, .int .i64 cop, .slice sa stores.length sc, .slice la lost.length lc, .slice ea eras.length ec, .int .i64 trim, .slice wa writers.length wc, .slice na mends.length nc, .slice ra readers.length rc', .slice ta sent.length tc, .bool torn] 47)).heap.size = w.heap.size + 1 := by simp
 have N1 := names1 (w.alloc (.cells #[.slice da ds.length dc, .int .i64 cop, .slice sa stores.length sc, .slice la lost.length lc, .slice ea eras.length ec, .int .i64 trim, .slice wa writers.length wc, .slice na mends.length nc, .slice ra readers.length rc', .slice ta sent.length tc, .bool torn] 47)) ⟨#[116, 114, 117, 101]⟩
 rw [es] at N1
 replace N1 := dH N1
 have B1 := dH (bT B0 ((Below.refl _ _).alloc (Nat.le_refl _) (.cells #[.string ⟨#[116, 114, 117, 101]⟩] 9)))
 clear es B0
 go_enter Tryz.func15, Tryz.ntmps15
 go_wp2_with fail
 refine (dU CJ _ (dU B1) _ (dU N1)).mono ?_
 rintro e w1 ⟨⟨q, rfl, h⟩, b1⟩
 have R := dH (show RetB PQ (.returned (.bool q)) from ⟨q, rfl, h⟩)
 have B2 := bT (dU B1) b1
 clear CJ h b1 B1 N1
 cases q
 all_goals
  go_wp2
  go_ret
  exact ⟨dU R, B2⟩
theorem bothJudgeTrue_ (m0 : Wo) (ok0 : okWorld m0) (hs0 : sizWorld m0 ≤ 1048576) : ∃ (s0 : Bool), (∀ W v0, RdWorld v0 m0 W → Calls Tryz.prog 14 #[v0] W fun e w' => e = .returned (.bool s0) ∧ Below W.heap.size W w') ∧ (∀ W v0, RdWorld v0 m0 W → Calls Tryz.prog 15 #[v0] W fun e w' => e = .returned (.bool s0) ∧ Below W.heap.size W w') :=
 ⟨bq (trueP m0), fun W v0 h => (specTrue_any v0 m0 W ok0 hs0 h).mono fun e w' ⟨h1, h2⟩ => ⟨h1.bq, h2⟩, fun W v0 h => (implTrue_any v0 m0 W ok0 hs0 h).mono fun e w' ⟨h1, h2⟩ => ⟨h1.bq, h2⟩⟩
end Go.Proofs.YtekgkjomdpjkbaaGreat
