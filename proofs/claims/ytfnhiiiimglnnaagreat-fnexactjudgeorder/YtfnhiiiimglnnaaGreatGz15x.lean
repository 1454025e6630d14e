/- Several texts in one: JgD, JgS, Q14W. -/
import Derived.Test.YtfnhiiiimglnnaaGreatGz18x
import Derived.Test.YtfnhiiiimglnnaaGreatWkZ
import Derived.Deep.RegionHeld3
import Derived.Deep.DeepCutAuto
import Derived.Test.YtfnhiiiimglnnaaGreatGz10
namespace Go.Proofs.YtfnhiiiimglnnaaGreat
open Go.ChangeShapes Go.WideShapes Go.ChangeAt Go.RowKit
set_option linter.unusedSimpArgs false
set_option linter.unusedVariables false
set_option maxRecDepth 100000
theorem rrOut_le {l : List Rr} (h : sizReaderS l ≤ 1048576) {r : Rr} (hr : r ∈ l) : r.out.length ≤ 1048576 := by
 obtain ⟨i, hi, rfl⟩ := List.getElem_of_mem hr
 have h1 := sumPd_mem sizReader (ms := l) hi
 unfold sizReaderS sizD at h
 have h3 : l[i].out.length ≤ sizReader l[i] := by unfold sizReader sizEventS; omega
 omega
theorem wholeC_any (bx : Nat) (rv : Value) (l : List Rr) (w : World) (hc : w.cell? ⟨bx, 8, none⟩ = some rv) (hr : RdReaderS rv l w) (hl : ∀ r ∈ l, r.out.length ≤ 1048576) :
  Calls Tryz.prog 124 #[.pointer (some ⟨bx, 0, none⟩)] w fun e w' => RetB (∀ r ∈ l, noLoss r) e ∧ Below w.heap.size w w' := by
 have C1 := dH (everyReader_any _ l RdReader 125 #[] noLoss w (by intro args w; rfl) hr (fun h b => h.below b) fun W' hb' u x hx hu => whole1_any u x W' hu (hl x hx))
 obtain ⟨ra, rc, rfl, -⟩ := formD hr
 clear hr hl
 generalize l.length = n at *
 go_enter Tryz.func124, Tryz.ntmps124
 go_wp2_with fail
 refine (dU C1).mono ?_
 rintro e w1 ⟨⟨q, rfl, h⟩, b1⟩
 have R := dH (show RetB (∀ r ∈ l, noLoss r) (.returned (.bool q)) from ⟨q, rfl, h⟩)
 clear C1 h
 cases q
 all_goals
  go_wp2
  go_ret
  exact ⟨dU R, b1⟩
theorem RetB.to_iff {p q : Prop} {e : Ending} (h : RetB p e) (hq : p ↔ q) : RetB q e := by
 obtain ⟨b, h1, h2⟩ := h
 exact ⟨b, h1, h2.trans hq⟩
def wholeP (m : Wo) : Prop := woP m ∧ (m.torn = true ∨ ∀ r ∈ m.readers, noLoss r)
theorem names1 (w : World) (s : ByteArray) : Txs (w.alloc (.cells #[.string s] 9)) (.slice (some ⟨w.heap.size, 0, none⟩) 1 1) [s] :=
 ⟨by simp, _, 1, rfl, ⟨by simp, by omega⟩, .inr ⟨w.heap.size, 0, rfl, fun i hi => by
  have : i = 0 := by simpa using hi
  subst this
  exact Bx.new w [.string s] 9 0 _ rfl⟩⟩
set_option maxHeartbeats 8000000 in
theorem judgedWhole_any (v nv' : Value) (m : Wo) (w : World) (ok : okWorld m) (hs : sizWorld m ≤ 1048576) (hv : RdWorld v m w) (hn : Txs w nv' [⟨#[119, 104, 111, 108, 101]⟩]) :
  Calls Tryz.prog 42 #[v, nv'] w fun e w' => RetB (wholeP m) e ∧ Below w.heap.size w w' := by
 have CW := dH fun W (hb : Below w.heap.size w W) => implWorldOk_any v m W ok hs (hv.below hb)
 have hsr : Hid (∀ r ∈ m.readers, r.out.length ≤ 1048576) := fun r hr => rrOut_le (by unfold sizWorld at hs; omega) hr
 obtain ⟨da, dc, sa, sc, la, lc, ea, ec, wa, wc, na, nc, ra, rc', ta, tc, rfl, hd, hst, hlo, hre, hwr, hme, hrd, hse⟩ := partsWorld hv
 clear hd hst hlo hre hwr hme hse hs ok
 obtain ⟨na', nc', rfl⟩ : ∃ a c, nv' = .slice a 1 c := by obtain ⟨-, a, c, e, -⟩ := hn; exact ⟨a, c, e⟩
 have HN := dH fun W (hb : Below w.heap.size w W) => hn.below hb
 have HR := dH fun W (hb : Below w.heap.size w W) => RdReaderS.below hrd hb
 clear hn hrd hv
 have WP : Hid (wholeP m ↔ woP m ∧ (m.torn = true ∨ ∀ r ∈ m.readers, noLoss r)) := Iff.rfl
 generalize woP m = PW at *
 generalize wholeP m = PQ at *
 obtain ⟨⟨ds, cop⟩, stores, lost, ⟨eras, trim⟩, writers, mends, readers, sent, torn⟩ := m
 simp only at *
 have B0 : Below w.heap.size w (w.alloc (.cells #[.slice da ds.length dc, .int .i64 cop, .slice sa stores.length sc, .slice la lost.length lc, .slice ea eras.length ec, .int .i64 trim, .slice wa writers.length wc, .slice na mends.length nc, .slice ra readers.length rc', .slice ta sent.length tc, .bool torn] 47)) := (Below.refl _ _).alloc (Nat.le_refl _) _
 have X0 := Bx.new w [.slice da ds.length dc, .int .i64 cop, .slice sa stores.length sc, .slice la lost.length lc, .slice ea eras.length ec, .int .i64 trim, .slice wa writers.length wc, .slice na mends.length nc, .slice ra readers.length rc', .slice ta sent.length tc, .bool torn] 47
 go_enter Tryz.func42, Tryz.ntmps42
 go_wp2_with fail
 generalize w.alloc (.cells #[.slice da ds.length dc, .int .i64 cop, .slice sa stores.length sc, .slice la lost.length lc, .slice ea eras.length ec, .int .i64 trim, .slice wa writers.length wc, .slice na mends.length nc, .slice ra readers.length rc', .slice ta sent.length tc, .bool torn] 47) = w0 at *
 refine (dU CW _ B0).mono ?_
 rintro e w1 ⟨⟨q, rfl, hq⟩, b1⟩
 have B1 := bT B0 b1
 have X1 := X0.below b1
 replace B1 := dH B1
 cases q
 ·have R := dH (show RetB PQ (.returned (.bool false)) from RetB.no fun h => by have := hq.2 ((dU WP).1 h).1; cases this)
  clear hq CW b1 X0 B0 HN HR hsr WP X1
  go_wp2
  go_ret
  exact ⟨dU R, dU B1⟩
 have HQ := dH (hq.1 rfl)
 clear hq CW b1 X0 B0
 have k0 := X1 0 _ rfl
 have k1 := X1 1 _ rfl
 have k2 := X1 2 _ rfl
 have k3 := X1 3 _ rfl
 have k4 := X1 4 _ rfl
 have k5 := X1 5 _ rfl
 have k6 := X1 6 _ rfl
 have k7 := X1 7 _ rfl
 have k8 := X1 8 _ rfl
 have k9 := X1 9 _ rfl
 have k10 := X1 10 _ rfl
 cases torn
 ·go_wp2_with fail
  refine (implJudges_f _ _ _ _ _ _ _ _ cop trim w1).mono ?_
  rintro e w2 ⟨⟨b, rfl, hm, hX⟩, b2⟩
  have B2 := bT (dU B1) b2
  have bM : Below w2.heap.size w2 (w2.alloc (.cells #[.map (some b)] 124)) := (Below.refl _ _).alloc (Nat.le_refl _) _
  have cM := Bx.new w2 [.map (some b)] 124 0 _ rfl
  have B3 := bT B2 bM
  have hbl : b < w2.heap.size := (Array.getElem?_eq_some_iff.1 hm).1
  have hbx : w1.heap.size < w2.heap.size := dCell_lt (hX 0 _ rfl)
  have hcM : ∀ W, Below (w2.alloc (.cells #[.map (some b)] 124)).heap.size (w2.alloc (.cells #[.map (some b)] 124)) W → W.cell? ⟨w2.heap.size, 0, none⟩ = some (.map (some b)) := fun W hW => (hW.cell (p := ⟨w2.heap.size, 0, none⟩) (dCell_lt cM)).trans cM
  have hmM : ∀ W, Below (w2.alloc (.cells #[.map (some b)] 124)).heap.size (w2.alloc (.cells #[.map (some b)] 124)) W → W.heap[b]? = some (.map (judgesE w1.heap.size false) 5) := fun W hW => ((hW.block b (by simp; omega)).trans (bM.block b hbl)).trans hm
  have hxM : ∀ W, Below (w2.alloc (.cells #[.map (some b)] 124)).heap.size (w2.alloc (.cells #[.map (some b)] 124)) W → W.cell? ⟨w1.heap.size, 8, none⟩ = some (.slice ra readers.length rc') := fun W hW => ((hX.below bM).below hW) 8 _ rfl
  have CE := dH (everyTxt_any _ [⟨#[119, 104, 111, 108, 101]⟩] 75 #[.pointer (some ⟨w2.heap.size, 0, none⟩)] (fun _ => (false : Bool) = true ∨ ∀ r ∈ readers, noLoss r) _ (by intro args w; rfl) (dU HN _ B3) fun W hW z hz => by
   obtain rfl : z = ⟨#[119, 104, 111, 108, 101]⟩ := by simpa using hz
   exact (judged1_found ⟨#[119, 104, 111, 108, 101]⟩ w2.heap.size b 5 3 124 _ _ (∀ r ∈ readers, noLoss r) W (by intro args w; rfl) (hcM W hW) (hmM W hW) (by kernel_rfl) (wholeC_any w1.heap.size _ readers W (hxM W hW) (dU HR W (bT B3 hW)) (dU hsr))).mono fun e w' ⟨h1, h2⟩ => ⟨h1.to_iff ⟨fun h => .inr h, fun h => h.elim (fun h => by cases h) id⟩, h2⟩)
  clear hm hX b2 bM cM hcM hmM hxM hbl hbx HN HR hsr B2 k0 k1 k2 k3 k4 k5 k6 k7 k8 k9 k10 X1
  have B3' := dH B3
  clear B3
  go_wp2_with fail
  refine (dU CE).mono ?_
  rintro e w3 ⟨⟨q, rfl, h⟩, b3⟩
  have R := dH (show RetB PQ (.returned (.bool q)) from ⟨q, rfl, h.trans ⟨fun h => (dU WP).2 ⟨dU HQ, h ⟨#[119, 104, 111, 108, 101]⟩ (by simp)⟩, fun h _ _ => ((dU WP).1 h).2⟩⟩)
  have B4 := bT (dU B3') b3
  clear CE h b3 B3' WP HQ
  cases q
  all_goals
   go_wp2
   go_ret
   exact ⟨dU R, B4⟩
 ·go_wp2_with fail
  refine (implJudges_t _ _ _ _ _ _ _ _ cop trim w1).mono ?_
  rintro e w2 ⟨⟨b, rfl, hm, hX⟩, b2⟩
  have B2 := bT (dU B1) b2
  have bM : Below w2.heap.size w2 (w2.alloc (.cells #[.map (some b)] 124)) := (Below.refl _ _).alloc (Nat.le_refl _) _
  have cM := Bx.new w2 [.map (some b)] 124 0 _ rfl
  have B3 := bT B2 bM
  have hbl : b < w2.heap.size := (Array.getElem?_eq_some_iff.1 hm).1
  have hbx : w1.heap.size < w2.heap.size := dCell_lt (hX 0 _ rfl)
  have hcM : ∀ W, Below (w2.alloc (.cells #[.map (some b)] 124)).heap.size (w2.alloc (.cells #[.map (some b)] 124)) W → W.cell? ⟨w2.heap.size, 0, none⟩ = some (.map (some b)) := fun W hW => (hW.cell (p := ⟨w2.heap.size, 0, none⟩) (dCell_lt cM)).trans cM
  have hmM : ∀ W, Below (w2.alloc (.cells #[.map (some b)] 124)).heap.size (w2.alloc (.cells #[.map (some b)] 124)) W → W.heap[b]? = some (.map (judgesE w1.heap.size true) 5) := fun W hW => ((hW.block b (by simp; omega)).trans (bM.block b hbl)).trans hm
  have hxM : ∀ W, Below (w2.alloc (.cells #[.map (some b)] 124)).heap.size (w2.alloc (.cells #[.map (some b)] 124)) W → W.cell? ⟨w1.heap.size, 8, none⟩ = some (.slice ra readers.length rc') := fun W hW => ((hX.below bM).below hW) 8 _ rfl
  have CE := dH (everyTxt_any _ [⟨#[119, 104, 111, 108, 101]⟩] 75 #[.pointer (some ⟨w2.heap.size, 0, none⟩)] (fun _ => (true : Bool) = true ∨ ∀ r ∈ readers, noLoss r) _ (by intro args w; rfl) (dU HN _ B3) fun W hW z hz => by
   obtain rfl : z = ⟨#[119, 104, 111, 108, 101]⟩ := by simpa using hz
   exact (judged1_none ⟨#[119, 104, 111, 108, 101]⟩ w2.heap.size b 5 _ W (hcM W hW) (hmM W hW) (by kernel_rfl)).mono fun e w' ⟨h1, h2⟩ => ⟨h1.to_iff ⟨fun _ => .inl rfl, fun _ => trivial⟩, h2⟩)
  clear hm hX b2 bM cM hcM hmM hxM hbl hbx HN HR hsr B2 k0 k1 k2 k3 k4 k5 k6 k7 k8 k9 k10 X1
  have B3' := dH B3
  clear B3
  go_wp2_with fail
  refine (dU CE).mono ?_
  rintro e w3 ⟨⟨q, rfl, h⟩, b3⟩
  have R := dH (show RetB PQ (.returned (.bool q)) from ⟨q, rfl, h.trans ⟨fun h => (dU WP).2 ⟨dU HQ, h ⟨#[119, 104, 111, 108, 101]⟩ (by simp)⟩, fun h _ _ => ((dU WP).1 h).2⟩⟩)
  have B4 := bT (dU B3') b3
  clear CE h b3 B3' WP HQ
  cases q
  all_goals
   go_wp2
   go_ret
   exact ⟨dU R, B4⟩
theorem readerAt {W : World} {a : Option Addr} {n cap : Nat} {l : List Rr} (h : RdReaderS (.slice a n cap) l W) {k : Nat} (hk : k < l.length) : ∃ b off sa sc, a = some ⟨b, off, none⟩ ∧ W.cell? ⟨b, off + k * 3 + 2, none⟩ = some (.slice sa l[k].out.length sc) ∧ RdEventS (.slice sa l[k].out.length sc) l[k].out W := by
 obtain ⟨rs, rfl, hr, hn⟩ := h
 have hk' : k < rs.length := by simpa using hk
 obtain ⟨b, off, rfl, hc⟩ := hr.pd hk'
 obtain ⟨sv, e, hs⟩ := hn rs[k] (List.getElem_mem hk')
 rw [List.getElem_map]
 obtain ⟨sa, sc, rfl, -⟩ := formEventS hs
 refine ⟨b, off, sa, sc, rfl, ?_, hs⟩
 have ec : rs[k].c = [.int .i64 rs[k].m.epoch, .int .i64 rs[k].m.off, .slice sa rs[k].m.out.length sc] := by
  unfold Pd.val at e
  simp only [Value.agg.injEq] at e
  have := congrArg Array.toList e
  simpa using this
 exact hc k hk' 2 _ (by rw [ec]; rfl)
set_option maxHeartbeats 8000000 in
theorem specWhole_any (v : Value) (m : Wo) (w : World) (ok : okWorld m) (hs : sizWorld m ≤ 1048576) (hv : RdWorld v m w) :
  Calls Tryz.prog 18 #[v] w fun e w' => RetB (wholeP m) e ∧ Below w.heap.size w w' := by
 have CW := dH fun W (hb : Below w.heap.size w W) => specWorldOk_any v m W ok hs (hv.below hb)
 obtain ⟨da, dc, sa, sc, la, lc, ea, ec, wa, wc, na, nc, ra, rc', ta, tc, rfl, hd, hst, hlo, hre, hwr, hme, hrd, hse⟩ := partsWorld hv
 clear hd hst hlo hre hwr hme hse hs ok
 have HR := dH fun W (hb : Below w.heap.size w W) => RdReaderS.below hrd hb
 clear hrd hv
 have WP : Hid (wholeP m ↔ woP m ∧ (m.torn = true ∨ ∀ r ∈ m.readers, noLoss r)) := Iff.rfl
 have WL : Hid (woP m → m.readers.length = 2) := fun h => h.2.2.1.1
 generalize woP m = PW at *
 generalize wholeP m = PQ at *
 obtain ⟨⟨ds, cop⟩, stores, lost, ⟨eras, trim⟩, writers, mends, readers, sent, torn⟩ := m
 simp only at *
 have B0 : Below w.heap.size w (w.alloc (.cells #[.slice da ds.length dc, .int .i64 cop, .slice sa stores.length sc, .slice la lost.length lc, .slice ea eras.length ec, .int .i64 trim, .slice wa writers.length wc, .slice na mends.length nc, .slice ra readers.length rc', .slice ta sent.length tc, .bool torn] 47)) := (Below.refl _ _).alloc (Nat.le_refl _) _
 have X0 := Bx.new w [.slice da ds.length dc, .int .i64 cop, .slice sa stores.length sc, .slice la lost.length lc, .slice ea eras.length ec, .int .i64 trim, .slice wa writers.length wc, .slice na mends.length nc, .slice ra readers.length rc', .slice ta sent.length tc, .bool torn] 47
 go_enter Tryz.func18, Tryz.ntmps18
 go_wp2_with fail
 generalize w.alloc (.cells #[.slice da ds.length dc, .int .i64 cop, .slice sa stores.length sc, .slice la lost.length lc, .slice ea eras.length ec, .int .i64 trim, .slice wa writers.length wc, .slice na mends.length nc, .slice ra readers.length rc', .slice ta sent.length tc, .bool torn] 47) = w0 at *
 refine (dU CW _ B0).mono ?_
 rintro e w1 ⟨⟨q, rfl, hq⟩, b1⟩
 have B1 := dH (bT B0 b1)
 have X1 := X0.below b1
 cases q
 ·have R := dH (show RetB PQ (.returned (.bool false)) from RetB.no fun h => by have := hq.2 ((dU WP).1 h).1; cases this)
  clear hq CW b1 X0 B0 HR WP X1 WL
  go_wp2
  go_ret
  exact ⟨dU R, dU B1⟩
 have HQ := dH (hq.1 rfl)
 have HL := dH (dU WL (hq.1 rfl))
 clear hq CW b1 X0 B0 WL
 have k10 := X1 10 _ rfl
 have k8 := X1 8 _ rfl
 clear X1
 cases torn
 case true =>
  have R := dH (show RetB PQ (.returned (.bool true)) from RetB.yes ((dU WP).2 ⟨dU HQ, .inl rfl⟩))
  clear WP HQ HL HR
  go_wp2
  go_rounds 1
  go_ret
  exact ⟨dU R, dU B1⟩
 case false =>
  have RY : Hid ((∀ i (h : i < readers.length), noLoss readers[i]) → RetB PQ (.returned (.bool true))) := fun h => RetB.yes ((dU WP).2 ⟨dU HQ, .inr fun r hr => by obtain ⟨i, hi, rfl⟩ := List.getElem_of_mem hr; exact h i hi⟩)
  have RN : Hid (∀ i (h : i < readers.length) j (h' : j < readers[i].out.length), readers[i].out[j].kind = 3 → RetB PQ (.returned (.bool false))) := fun i h j h' e => RetB.no fun q => by
   rcases ((dU WP).1 q).2 with q | q
   ·cases q
   ·exact q _ (List.getElem_mem h) _ (List.getElem_mem h') e
  clear WP HQ
  go_wp2
  go_loopw [3] (fun x wr => ∃ k : Nat, x = .int .i64 (k : Int) ∧ k ≤ 2 ∧ Hid (∀ i (h : i < readers.length), i < k → noLoss readers[i]) ∧ wr = w1) (fun x _ => 2 - (intOf x).toNat)
  case atStart => exact ⟨0, rfl, by omega, fun i h h' => by omega, rfl⟩
  case round =>
   obtain ⟨k, rfl, hk, hinv, rfl⟩ := hrel
   by_cases hlt : (k : Int) < 2
   ·have hkl : k < readers.length := by rw [dU HL]; omega
    obtain ⟨b, off, ua, uc, rfl, cu, hu⟩ := readerAt (dU HR _ (dU B1)) hkl
    have HU := dH hu
    have hul := hu.1
    have hin : (k : Int) < (readers.length : Int) := by omega
    have HI : Hid ((∀ j (h : j < readers[k].out.length), ¬ readers[k].out[j].kind = 3) → ∀ i (h : i < readers.length), i < k + 1 → noLoss readers[i]) := fun hh i h hi => by
     by_cases e : i = k
     ·subst e
      intro z hz
      obtain ⟨j, hj, rfl⟩ := List.getElem_of_mem hz
      exact hh j hj
     ·exact dU hinv i h (by omega)
    have HNN : Hid (∀ j (h' : j < readers[k].out.length), readers[k].out[j].kind = 3 → RetB PQ (.returned (.bool false))) := fun j h' e => dU RN k hkl j h' e
    clear hinv hu
    generalize readers[k].out = out at *
    go_wp2
    go_loopw [4] (fun y wy => ∃ j : Nat, y = .int .i64 (j : Int) ∧ j ≤ out.length ∧ Hid (∀ i (h : i < out.length), i < j → ¬ out[i].kind = 3) ∧ wy = wr) (fun y _ => out.length - (intOf y).toNat)
    case atStart => exact ⟨0, rfl, by omega, fun i h h' => by omega, rfl⟩
    case round =>
     obtain ⟨j, rfl, hj, hjn, rfl⟩ := hrel
     by_cases hlj : (j : Int) < (out.length : Int)
     ·have hjl : j < out.length := by omega
      obtain ⟨eb, eo, rfl, he⟩ := (dU HU).atEv hjl
      obtain ⟨c0, c1, c2⟩ := he j hjl
      by_cases h3 : out[j].kind = 3
      ·have R := dH (dU HNN j hjl h3)
       rw [h3] at c0
       clear HNN HI RY RN hjn he HU
       go_wp2
       go_ret
       exact ⟨dU R, dU B1⟩
      ·have H2 : Hid (∀ i (h : i < out.length), i < j + 1 → ¬ out[i].kind = 3) := fun i h hi => by
        by_cases e : i = j
        ·subst e; exact h3
        ·exact dU hjn i h (by omega)
       have hb3 : (out[j].kind == 3) = false := by simpa using h3
       generalize out[j].kind = z at *
       clear he hjn
       go_wp2
       go_roundw
       case rel => exact ⟨j + 1, by go_num, by omega, H2, by first | trivial | rfl⟩
       case measure => simp [intOf]; omega
     ·have H3 := dH (dU HI fun i h => dU hjn i h (by omega))
      clear hjn HI HNN
      go_wp2
      go_roundw
      case rel => exact ⟨k + 1, by go_num, by omega, H3, by first | trivial | rfl⟩
      case measure => simp [intOf]; omega
   ·have R := dH (dU RY fun i h => dU hinv i h (by rw [dU HL] at h; omega))
    clear RY RN hinv HR HL
    go_wp2
    go_ret
    exact ⟨dU R, dU B1⟩
set_option maxHeartbeats 4000000 in
theorem implWhole_any (v : Value) (m : Wo) (w : World) (ok : okWorld m) (hs : sizWorld m ≤ 1048576) (hv : RdWorld v m w) :
  Calls Tryz.prog 19 #[v] w fun e w' => RetB (wholeP m) e ∧ Below w.heap.size w w' := by
 have CJ := dH fun W (hb : Below w.heap.size w W) nv' (hn : Txs W nv' [⟨#[119, 104, 111, 108, 101]⟩]) => judgedWhole_any v nv' m W ok hs (hv.below hb) hn
 obtain ⟨da, dc, sa, sc, la, lc, ea, ec, wa, wc, na, nc, ra, rc', ta, tc, rfl, hd, hst, hlo, hre, hwr, hme, hrd, hse⟩ := partsWorld hv
 clear hd hst hlo hre hwr hme hse hs ok hrd hv
 generalize wholeP m = PQ at *
 obtain ⟨⟨ds, cop⟩, stores, lost, ⟨eras, trim⟩, writers, mends, readers, sent, torn⟩ := m
 simp only at *
 have B0 : Below w.heap.size w (w.alloc (.cells #[.slice da ds.length dc, .int .i64 cop, .slice sa stores.length sc, .slice la lost.length lc, .slice ea eras.length ec, .int .i64 trim, .slice wa writers.length wc, .slice na mends.length nc, .slice ra readers.length rc', .slice ta sent.length tc, .bool torn] 47)) := (Below.refl _ _).alloc (Nat.le_refl _) _
 have es : (w.alloc (.cells #[.slice da ds.length dc, .int .i64 cop, .slice sa stores.length sc, .slice la lost.length lc, .slice ea eras.length ec, .int .i64 trim, .slice wa writers.length wc, .slice na mends.length nc, .slice ra readers.length rc', .slice ta sent.length tc, .bool torn] 47)).heap.size = w.heap.size + 1 := by simp
 have N1 := names1 (w.alloc (.cells #[.slice da ds.length dc, .int .i64 cop, .slice sa stores.length sc, .slice la lost.length lc, .slice ea eras.length ec, .int .i64 trim, .slice wa writers.length wc, .slice na mends.length nc, .slice ra readers.length rc', .slice ta sent.length tc, .bool torn] 47)) ⟨#[119, 104, 111, 108, 101]⟩
 rw [es] at N1
 replace N1 := dH N1
 have B1 := dH (bT B0 ((Below.refl _ _).alloc (Nat.le_refl _) (.cells #[.string ⟨#[119, 104, 111, 108, 101]⟩] 9)))
 clear es B0
 go_enter Tryz.func19, Tryz.ntmps19
 go_wp2_with fail
 refine (dU CJ _ (dU B1) _ (dU N1)).mono ?_
 rintro e w1 ⟨⟨q, rfl, h⟩, b1⟩
 have R := dH (show RetB PQ (.returned (.bool q)) from ⟨q, rfl, h⟩)
 have B2 := bT (dU B1) b1
 clear CJ h b1 B1 N1
 cases q
 all_goals
  go_wp2
  go_ret
  exact ⟨dU R, B2⟩
theorem bothJudgeWhole_ (m0 : Wo) (ok0 : okWorld m0) (hs0 : sizWorld m0 ≤ 1048576) : ∃ (s0 : Bool), (∀ W v0, RdWorld v0 m0 W → Calls Tryz.prog 18 #[v0] W fun e w' => e = .returned (.bool s0) ∧ Below W.heap.size W w') ∧ (∀ W v0, RdWorld v0 m0 W → Calls Tryz.prog 19 #[v0] W fun e w' => e = .returned (.bool s0) ∧ Below W.heap.size W w') :=
 ⟨bq (wholeP m0), fun W v0 h => (specWhole_any v0 m0 W ok0 hs0 h).mono fun e w' ⟨h1, h2⟩ => ⟨h1.bq, h2⟩, fun W v0 h => (implWhole_any v0 m0 W ok0 hs0 h).mono fun e w' ⟨h1, h2⟩ => ⟨h1.bq, h2⟩⟩
end Go.Proofs.YtfnhiiiimglnnaaGreat
