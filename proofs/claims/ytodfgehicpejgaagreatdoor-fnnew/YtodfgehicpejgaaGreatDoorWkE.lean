/- impl's every over ints; the first five of impl's invariants of a world, and that of readers (printed by tools/mkwke.py). -/
import Derived.Test.YtodfgehicpejgaaGreatDoorEvyA
import Derived.Test.YtodfgehicpejgaaGreatDoorGk149
import Derived.Test.YtodfgehicpejgaaGreatDoorGk144
import Derived.Test.YtodfgehicpejgaaGreatDoorImGb
import Derived.Test.YtodfgehicpejgaaGreatDoorGk158
import Derived.Deep.DeepCutAuto
namespace Go.Proofs.YtodfgehicpejgaaGreatDoor
open Go.ChangeShapes Go.WideShapes Go.ChangeAt Go.RowKit
set_option linter.unusedVariables false
set_option linter.unusedSimpArgs false
set_option maxRecDepth 100000

theorem containsG_any (v : Value) (xs : List Int) (F : Nat) (caps : Array Value) (q : Int → Bool) (w : World) (hF : ∀ args w, (callFunc F args).run Tryz.prog w = .ok (.enter F args) w) (hv : Ns w v xs)
  (hq : ∀ W, Below w.heap.size w W → ∀ z ∈ xs, Calls Tryz.prog F (#[.int .i64 z] ++ caps) W fun e w' => e = .returned (.bool (q z)) ∧ Below W.heap.size W w') :
  Calls Tryz.prog 141 #[v, .func (.func F) #[] caps] w fun e w' => RetB (∃ x ∈ xs, q x = true) e ∧ Below w.heap.size w w' := by
 have C1 := dH (indexG_any v xs F caps q w hF hv hq)
 have hl := hv.1
 clear hF hv hq
 go_enter Tryz.func141, Tryz.ntmps141
 go_wp2_with fail
 refine (dU C1).mono ?_
 rintro e w1 ⟨h, b1⟩
 clear C1
 rcases h with ⟨h, rfl⟩ | ⟨k, hk, h1, h2, rfl⟩
 ·have R : RetB (∃ x ∈ xs, q x = true) (.returned (.bool false)) := RetB.no fun ⟨x, hx, hq⟩ => by rw [h x hx] at hq; cases hq
  clear h
  go_wp2
  go_ret
  exact ⟨R, b1⟩
 ·have R : RetB (∃ x ∈ xs, q x = true) (.returned (.bool true)) := RetB.yes ⟨_, List.getElem_mem hk, h2⟩
  have hk0 : (0 : Int) ≤ (k : Int) := by omega
  clear h1 h2
  go_wp2
  go_ret
  exact ⟨R, b1⟩
theorem every1Int_any (z : Int) (F b : Nat) (caps : Array Value) (q : Bool) (w : World) (hF : ∀ args w, (callFunc F args).run Tryz.prog w = .ok (.enter F args) w) (hc : w.cell? ⟨b, 0, none⟩ = some (.func (.func F) #[] caps))
  (hq : Calls Tryz.prog F (#[.int .i64 z] ++ caps) w fun e w' => e = .returned (.bool q) ∧ Below w.heap.size w w') :
  Calls Tryz.prog 142 (#[.int .i64 z] ++ #[.pointer (some ⟨b, 0, none⟩)]) w fun e w' => e = .returned (.bool (!q)) ∧ Below w.heap.size w w' := by
 have C1 := dH hq
 clear hq
 show Calls Tryz.prog 142 #[.int .i64 z, .pointer (some ⟨b, 0, none⟩)] w _
 go_enter Tryz.func142, Tryz.ntmps142
 go_wp2_with fail
 refine (dU C1).mono ?_
 rintro e w1 ⟨rfl, b1⟩
 clear C1 hc
 cases q
 all_goals
  go_wp2
  go_ret
  exact ⟨rfl, b1⟩
theorem everyInt_any (v : Value) (xs : List Int) (F : Nat) (caps : Array Value) (Q : Int → Prop) (w : World) (hF : ∀ args w, (callFunc F args).run Tryz.prog w = .ok (.enter F args) w) (hv : Ns w v xs)
  (hq : ∀ W, Below w.heap.size w W → ∀ z ∈ xs, Calls Tryz.prog F (#[.int .i64 z] ++ caps) W fun e w' => RetB (Q z) e ∧ Below W.heap.size W w') :
  Calls Tryz.prog 67 #[v, .func (.func F) #[] caps] w fun e w' => RetB (∀ x ∈ xs, Q x) e ∧ Below w.heap.size w w' := by
 have B0 : Below w.heap.size w (w.alloc (.cells #[.func (.func F) #[] caps] 104)) := (Below.refl _ _).alloc (Nat.le_refl _) _
 have K0 := Bx.new w [.func (.func F) #[] caps] 104 0 _ rfl
 have C1 := dH (containsG_any v xs 142 #[.pointer (some ⟨w.heap.size, 0, none⟩)] (fun x => !(bq (Q x))) _ (by intro args w; rfl) (hv.below B0) fun W hb z hz => every1Int_any z F w.heap.size caps (bq (Q z)) W hF ((hb.cell (p := ⟨w.heap.size, 0, none⟩) (dCell_lt K0)).trans K0) ((hq W (bT B0 hb) z hz).mono fun e w' h => ⟨h.1.bq, h.2⟩))
 obtain ⟨-, a, cap, rfl, -, -⟩ := hv
 have FIN : Hid (∀ b : Bool, (b = true ↔ ∃ x ∈ xs, (!(bq (Q x))) = true) → RetB (∀ x ∈ xs, Q x) (.returned (.bool (!b)))) := fun b h => (all_not h).to fun x => bq_iff _
 clear hq K0
 go_enter Tryz.func67, Tryz.ntmps67
 go_wp2_with fail
 refine (dU C1).mono ?_
 rintro e w1 ⟨⟨b, rfl, h⟩, b1⟩
 have R := dH (dU FIN b h)
 have B1 := bT B0 b1
 clear C1 FIN h b1 B0
 cases b
 all_goals
  go_wp2
  go_ret
  exact ⟨dU R, B1⟩
def ivC (m : Wo) : Prop := cfgP m.cfg.1 m.cfg.2
def ivG (m : Wo) : Prop := regP m.cfg.1 m.cfg.2 m.reg
set_option maxHeartbeats 8000000 in
theorem configRight_any (v : Value) (m : Wo) (w : World) (ok : okWorld m) (hs : sizWorld m ≤ 1048576) (hv : RdWorld v m w) :
  Calls Tryz.prog 23 #[v] w fun e w' => RetB (ivC m) e ∧ Below w.heap.size w w' := by
 obtain ⟨da, dc, sa, sc, la, lc, ea, ec, wa, wc, na, nc, ra, rc', ta, tc, rfl, hd, hst, hlo, hre, hwr, hme, hrd, hse⟩ := partsWorld hv
 obtain ⟨⟨ds, cop⟩, stores, lost, ⟨eras, trim⟩, writers, mends, readers, sent, torn⟩ := m
 obtain ⟨okC, okS, okL, okR, okW, okM, okE, okX⟩ := ok
 simp only at *
 have hz : ds.length ≤ 1048576 ∧ lost.length ≤ 1048576 ∧ sizRegister ⟨eras, trim⟩ ≤ 1048576 ∧ sizWriterS writers ≤ 1048576 ∧ sizMendS mends ≤ 1048576 := by unfold sizWorld sizConfig sizIntS at hs; simp only at hs; exact ⟨by omega, by omega, by omega, by omega, by omega⟩
 have B0 : Below w.heap.size w (w.alloc (.cells #[.slice da ds.length dc, .int .i64 cop, .slice sa stores.length sc, .slice la lost.length lc, .slice ea eras.length ec, .int .i64 trim, .slice wa writers.length wc, .slice na mends.length nc, .slice ra readers.length rc', .slice ta sent.length tc, .bool torn] 37)) := (Below.refl _ _).alloc (Nat.le_refl _) _
 have X0 := Bx.new w [.slice da ds.length dc, .int .i64 cop, .slice sa stores.length sc, .slice la lost.length lc, .slice ea eras.length ec, .int .i64 trim, .slice wa writers.length wc, .slice na mends.length nc, .slice ra readers.length rc', .slice ta sent.length tc, .bool torn] 37
 clear hv hs
 have C1 := dH fun W (hb : Below w.heap.size w W) => implCfg_any _ ds cop W (hd.below hb) okC.1 hz.1 okC.2.1 okC.2.2
 clear hst hlo hre hwr hme hrd hse okC okS okL okR okW okM okE okX hz hd X0
 go_enter Tryz.func23, Tryz.ntmps23
 go_wp2_with fail
 generalize w.alloc (.cells #[.slice da ds.length dc, .int .i64 cop, .slice sa stores.length sc, .slice la lost.length lc, .slice ea eras.length ec, .int .i64 trim, .slice wa writers.length wc, .slice na mends.length nc, .slice ra readers.length rc', .slice ta sent.length tc, .bool torn] 37) = w0 at *
 refine (dU C1 _ B0).mono ?_
 rintro e w1 ⟨⟨b1, rfl, h1⟩, bl1⟩
 have R := dH (show RetB (ivC ⟨(ds, cop), stores, lost, ⟨eras, trim⟩, writers, mends, readers, sent, torn⟩) (.returned (.bool b1)) from ⟨b1, rfl, h1⟩)
 have B1 := bT B0 bl1
 clear C1 h1 bl1
 go_wp2
 go_ret
 exact ⟨dU R, B1⟩
set_option maxHeartbeats 8000000 in
theorem registerRight_any (v : Value) (m : Wo) (w : World) (ok : okWorld m) (hs : sizWorld m ≤ 1048576) (hv : RdWorld v m w) :
  Calls Tryz.prog 27 #[v] w fun e w' => RetB (ivG m) e ∧ Below w.heap.size w w' := by
 obtain ⟨da, dc, sa, sc, la, lc, ea, ec, wa, wc, na, nc, ra, rc', ta, tc, rfl, hd, hst, hlo, hre, hwr, hme, hrd, hse⟩ := partsWorld hv
 obtain ⟨⟨ds, cop⟩, stores, lost, ⟨eras, trim⟩, writers, mends, readers, sent, torn⟩ := m
 obtain ⟨okC, okS, okL, okR, okW, okM, okE, okX⟩ := ok
 simp only at *
 have hz : ds.length ≤ 1048576 ∧ lost.length ≤ 1048576 ∧ sizRegister ⟨eras, trim⟩ ≤ 1048576 ∧ sizWriterS writers ≤ 1048576 ∧ sizMendS mends ≤ 1048576 := by unfold sizWorld sizConfig sizIntS at hs; simp only at hs; exact ⟨by omega, by omega, by omega, by omega, by omega⟩
 have B0 : Below w.heap.size w (w.alloc (.cells #[.slice da ds.length dc, .int .i64 cop, .slice sa stores.length sc, .slice la lost.length lc, .slice ea eras.length ec, .int .i64 trim, .slice wa writers.length wc, .slice na mends.length nc, .slice ra readers.length rc', .slice ta sent.length tc, .bool torn] 37)) := (Below.refl _ _).alloc (Nat.le_refl _) _
 have X0 := Bx.new w [.slice da ds.length dc, .int .i64 cop, .slice sa stores.length sc, .slice la lost.length lc, .slice ea eras.length ec, .int .i64 trim, .slice wa writers.length wc, .slice na mends.length nc, .slice ra readers.length rc', .slice ta sent.length tc, .bool torn] 37
 clear hv hs
 have C1 := dH fun W (hb : Below w.heap.size w W) => implRegOk_any _ (.agg #[.slice ea eras.length ec, .int .i64 trim]) (ds, cop) ⟨eras, trim⟩ W ⟨_, rfl, hd.below hb⟩ ⟨_, rfl, RdK.below hre hb⟩ okC okR (by unfold sizConfig; exact hz.1) hz.2.2.1
 simp only at C1
 clear hst hlo hre hwr hme hrd hse okC okS okL okR okW okM okE okX hz hd X0
 go_enter Tryz.func27, Tryz.ntmps27
 go_wp2_with fail
 generalize w.alloc (.cells #[.slice da ds.length dc, .int .i64 cop, .slice sa stores.length sc, .slice la lost.length lc, .slice ea eras.length ec, .int .i64 trim, .slice wa writers.length wc, .slice na mends.length nc, .slice ra readers.length rc', .slice ta sent.length tc, .bool torn] 37) = w0 at *
 refine (dU C1 _ B0).mono ?_
 rintro e w1 ⟨⟨b1, rfl, h1⟩, bl1⟩
 have R := dH (show RetB (ivG ⟨(ds, cop), stores, lost, ⟨eras, trim⟩, writers, mends, readers, sent, torn⟩) (.returned (.bool b1)) from ⟨b1, rfl, h1⟩)
 have B1 := bT B0 bl1
 clear C1 h1 bl1
 go_wp2
 go_ret
 exact ⟨dU R, B1⟩
set_option maxHeartbeats 8000000 in
theorem tornRight_any (v : Value) (m : Wo) (w : World) (ok : okWorld m) (hs : sizWorld m ≤ 1048576) (hv : RdWorld v m w) :
  Calls Tryz.prog 26 #[v] w fun e w' => RetB (ivT m) e ∧ Below w.heap.size w w' := by
 obtain ⟨da, dc, sa, sc, la, lc, ea, ec, wa, wc, na, nc, ra, rc', ta, tc, rfl, hd, hst, hlo, hre, hwr, hme, hrd, hse⟩ := partsWorld hv
 obtain ⟨⟨ds, cop⟩, stores, lost, ⟨eras, trim⟩, writers, mends, readers, sent, torn⟩ := m
 obtain ⟨okC, okS, okL, okR, okW, okM, okE, okX⟩ := ok
 simp only at *
 have hz : ds.length ≤ 1048576 ∧ lost.length ≤ 1048576 ∧ sizRegister ⟨eras, trim⟩ ≤ 1048576 ∧ sizWriterS writers ≤ 1048576 ∧ sizMendS mends ≤ 1048576 := by unfold sizWorld sizConfig sizIntS at hs; simp only at hs; exact ⟨by omega, by omega, by omega, by omega, by omega⟩
 have B0 : Below w.heap.size w (w.alloc (.cells #[.slice da ds.length dc, .int .i64 cop, .slice sa stores.length sc, .slice la lost.length lc, .slice ea eras.length ec, .int .i64 trim, .slice wa writers.length wc, .slice na mends.length nc, .slice ra readers.length rc', .slice ta sent.length tc, .bool torn] 37)) := (Below.refl _ _).alloc (Nat.le_refl _) _
 have X0 := Bx.new w [.slice da ds.length dc, .int .i64 cop, .slice sa stores.length sc, .slice la lost.length lc, .slice ea eras.length ec, .int .i64 trim, .slice wa writers.length wc, .slice na mends.length nc, .slice ra readers.length rc', .slice ta sent.length tc, .bool torn] 37
 clear hv hs
 have C1 := dH fun W (hb : Below w.heap.size w W) => implHolds_any _ _ ds lost cop W (hd.below hb) (hlo.below hb) okC.1 okL hz.1 hz.2.1 okC.2.1 okC.2.2
 clear hst hlo hre hwr hme hrd hse okC okS okL okR okW okM okE okX hz hd
 cases torn with
 | true =>
  have R := RetB.yes (show ivT ⟨(ds, cop), stores, lost, ⟨eras, trim⟩, writers, mends, readers, sent, true⟩ from .inl rfl)
  clear X0 C1
  go_enter Tryz.func26, Tryz.ntmps26
  go_wp2
  go_ret
  exact ⟨R, B0⟩
 | false =>
 go_enter Tryz.func26, Tryz.ntmps26
 go_wp2_with fail
 generalize w.alloc (.cells #[.slice da ds.length dc, .int .i64 cop, .slice sa stores.length sc, .slice la lost.length lc, .slice ea eras.length ec, .int .i64 trim, .slice wa writers.length wc, .slice na mends.length nc, .slice ra readers.length rc', .slice ta sent.length tc, .bool false] 37) = w0 at *
 refine (dU C1 _ B0).mono ?_
 rintro e w1 ⟨⟨b1, rfl, h1⟩, bl1⟩
 have R := dH (show RetB (ivT ⟨(ds, cop), stores, lost, ⟨eras, trim⟩, writers, mends, readers, sent, false⟩) (.returned (.bool (!b1))) from ⟨!b1, rfl, by
  unfold ivT
  rw [← h1]
  cases b1 <;> simp⟩)
 have B1 := bT B0 bl1
 clear C1 h1 bl1 X0
 cases b1
 all_goals
  go_wp2
  go_ret
  exact ⟨dU R, B1⟩
set_option maxHeartbeats 8000000 in
theorem storesRight_any (v : Value) (m : Wo) (w : World) (ok : okWorld m) (hs : sizWorld m ≤ 1048576) (hv : RdWorld v m w) :
  Calls Tryz.prog 24 #[v] w fun e w' => RetB (ivS m) e ∧ Below w.heap.size w w' := by
 obtain ⟨da, dc, sa, sc, la, lc, ea, ec, wa, wc, na, nc, ra, rc', ta, tc, rfl, hd, hst, hlo, hre, hwr, hme, hrd, hse⟩ := partsWorld hv
 obtain ⟨⟨ds, cop⟩, stores, lost, ⟨eras, trim⟩, writers, mends, readers, sent, torn⟩ := m
 obtain ⟨okC, okS, okL, okR, okW, okM, okE, okX⟩ := ok
 simp only at *
 have hz : ds.length ≤ 1048576 ∧ lost.length ≤ 1048576 ∧ sizRegister ⟨eras, trim⟩ ≤ 1048576 ∧ sizWriterS writers ≤ 1048576 ∧ sizMendS mends ≤ 1048576 := by unfold sizWorld sizConfig sizIntS at hs; simp only at hs; exact ⟨by omega, by omega, by omega, by omega, by omega⟩
 have B0 : Below w.heap.size w (w.alloc (.cells #[.slice da ds.length dc, .int .i64 cop, .slice sa stores.length sc, .slice la lost.length lc, .slice ea eras.length ec, .int .i64 trim, .slice wa writers.length wc, .slice na mends.length nc, .slice ra readers.length rc', .slice ta sent.length tc, .bool torn] 37)) := (Below.refl _ _).alloc (Nat.le_refl _) _
 have X0 := Bx.new w [.slice da ds.length dc, .int .i64 cop, .slice sa stores.length sc, .slice la lost.length lc, .slice ea eras.length ec, .int .i64 trim, .slice wa writers.length wc, .slice na mends.length nc, .slice ra readers.length rc', .slice ta sent.length tc, .bool torn] 37
 clear hv hs
 have C1 := dH fun W (hb : Below w.heap.size w W) => everyStore_any _ stores RdStore 65 #[] stP W (by intro args w; rfl) ((hst.below hb).rdD) (fun h b => h.below b) fun W' hb' u x hx hu => implStoreOk_any u x W' hu (okS x hx)
 clear hst hlo hre hwr hme hrd hse okC okS okL okR okW okM okE okX hz hd X0
 by_cases dl : (stores.length : Int) = (ds.length : Int)
 ·have SL := dH (show stores.length = ds.length by omega)
  go_enter Tryz.func24, Tryz.ntmps24
  go_wp2_with fail
  generalize w.alloc (.cells #[.slice da ds.length dc, .int .i64 cop, .slice sa stores.length sc, .slice la lost.length lc, .slice ea eras.length ec, .int .i64 trim, .slice wa writers.length wc, .slice na mends.length nc, .slice ra readers.length rc', .slice ta sent.length tc, .bool torn] 37) = w0 at *
  refine (dU C1 _ B0).mono ?_
  rintro e w1 ⟨⟨b1, rfl, h1⟩, bl1⟩
  have R := dH (show RetB (ivS ⟨(ds, cop), stores, lost, ⟨eras, trim⟩, writers, mends, readers, sent, torn⟩) (.returned (.bool b1)) from ⟨b1, rfl, h1.trans ⟨fun h => ⟨dU SL, h⟩, fun h => h.2⟩⟩)
  have B1 := bT B0 bl1
  clear C1 h1 bl1
  go_wp2
  go_ret
  exact ⟨dU R, B1⟩
 ·have R := RetB.no (show ¬ ivS ⟨(ds, cop), stores, lost, ⟨eras, trim⟩, writers, mends, readers, sent, torn⟩ from fun h => dl (by have := h.1; simp only at this; omega))
  clear C1
  go_enter Tryz.func24, Tryz.ntmps24
  go_wp2
  go_ret
  exact ⟨R, B0⟩
set_option maxHeartbeats 8000000 in
theorem readersRight_any (v : Value) (m : Wo) (w : World) (ok : okWorld m) (hs : sizWorld m ≤ 1048576) (hv : RdWorld v m w) :
  Calls Tryz.prog 30 #[v] w fun e w' => RetB (reaP m) e ∧ Below w.heap.size w w' := by
 obtain ⟨da, dc, sa, sc, la, lc, ea, ec, wa, wc, na, nc, ra, rc', ta, tc, rfl, hd, hst, hlo, hre, hwr, hme, hrd, hse⟩ := partsWorld hv
 obtain ⟨⟨ds, cop⟩, stores, lost, ⟨eras, trim⟩, writers, mends, readers, sent, torn⟩ := m
 obtain ⟨okC, okS, okL, okR, okW, okM, okE, okX⟩ := ok
 simp only at *
 have hz : ds.length ≤ 1048576 ∧ lost.length ≤ 1048576 ∧ sizRegister ⟨eras, trim⟩ ≤ 1048576 ∧ sizWriterS writers ≤ 1048576 ∧ sizMendS mends ≤ 1048576 := by unfold sizWorld sizConfig sizIntS at hs; simp only at hs; exact ⟨by omega, by omega, by omega, by omega, by omega⟩
 have B0 : Below w.heap.size w (w.alloc (.cells #[.slice da ds.length dc, .int .i64 cop, .slice sa stores.length sc, .slice la lost.length lc, .slice ea eras.length ec, .int .i64 trim, .slice wa writers.length wc, .slice na mends.length nc, .slice ra readers.length rc', .slice ta sent.length tc, .bool torn] 37)) := (Below.refl _ _).alloc (Nat.le_refl _) _
 have X0 := Bx.new w [.slice da ds.length dc, .int .i64 cop, .slice sa stores.length sc, .slice la lost.length lc, .slice ea eras.length ec, .int .i64 trim, .slice wa writers.length wc, .slice na mends.length nc, .slice ra readers.length rc', .slice ta sent.length tc, .bool torn] 37
 clear hv hs
 have C1 := dH fun W (hb : Below w.heap.size w W) => everyReader_any _ readers RdReader 83 #[] rrP W (by intro args w; rfl) (RdReaderS.below hrd hb) (fun h b => h.below b) fun W' hb' u x hx hu => implReaderOk_any u x W' hu
 clear hst hlo hre hwr hme hrd hse okC okS okL okR okW okM okE okX hz hd X0
 by_cases dl : (readers.length : Int) = 2
 ·have SL := dH (show readers.length = 2 by omega)
  go_enter Tryz.func30, Tryz.ntmps30
  go_wp2_with fail
  generalize w.alloc (.cells #[.slice da ds.length dc, .int .i64 cop, .slice sa stores.length sc, .slice la lost.length lc, .slice ea eras.length ec, .int .i64 trim, .slice wa writers.length wc, .slice na mends.length nc, .slice ra readers.length rc', .slice ta sent.length tc, .bool torn] 37) = w0 at *
  refine (dU C1 _ B0).mono ?_
  rintro e w1 ⟨⟨b1, rfl, h1⟩, bl1⟩
  have R := dH (show RetB (reaP ⟨(ds, cop), stores, lost, ⟨eras, trim⟩, writers, mends, readers, sent, torn⟩) (.returned (.bool b1)) from ⟨b1, rfl, h1.trans ⟨fun h => ⟨dU SL, h⟩, fun h => h.2⟩⟩)
  have B1 := bT B0 bl1
  clear C1 h1 bl1
  go_wp2
  go_ret
  exact ⟨dU R, B1⟩
 ·have R := RetB.no (show ¬ reaP ⟨(ds, cop), stores, lost, ⟨eras, trim⟩, writers, mends, readers, sent, torn⟩ from fun h => dl (by have := h.1; simp only at this; omega))
  clear C1
  go_enter Tryz.func30, Tryz.ntmps30
  go_wp2
  go_ret
  exact ⟨R, B0⟩
set_option maxHeartbeats 4000000 in
theorem lostRight1_any (z : Int) (b n : Nat) (sa : Option Addr) (sc : Nat) (stores : List St) (w : World) (hc : w.cell? ⟨b, 2, none⟩ = some (.slice sa stores.length sc)) (hst : RdStoreS (.slice sa stores.length sc) stores w) (h0 : 0 ≤ z) (h1 : z < (stores.length : Int)) :
  Calls Tryz.prog 68 (#[.int .i64 z] ++ #[.pointer (some ⟨b, 0, none⟩)]) w fun e w' => RetB (nilSt (stores.getD z.toNat ⟨[], [], 0⟩)) e ∧ Below w.heap.size w w' := by
 obtain ⟨k, rfl⟩ : ∃ k : Nat, z = (k : Int) := ⟨z.toNat, by omega⟩
 obtain ⟨rs, rfl, hr, hn⟩ := hst
 rw [List.length_map] at *
 have hkl : k < rs.length := by omega
 have e1 : (rs.map Ps.m).getD (k : Int).toNat ⟨[], [], 0⟩ = rs[k].m := by rw [List.getD_eq_getElem?_getD, Int.toNat_natCast, List.getElem?_map, List.getElem?_eq_getElem hkl]; rfl
 rw [e1]
 have hl0 := hr.1
 have CZ := dH fun W (hb : Below w.heap.size w W) => isZero_any (psVal rs[k]) rs[k].m W ((hn _ (List.getElem_mem hkl)).below hb)
 obtain ⟨bb, off, rfl, he⟩ := hr.ps hkl
 obtain ⟨c0, c1, c2⟩ := he k hkl
 clear he hn e1 hr
 generalize rs[k] = y at *
 obtain ⟨ya, yc, za, zc, m⟩ := y
 unfold psVal at CZ
 simp only at *
 show Calls Tryz.prog 68 #[.int .i64 (k : Int), .pointer (some ⟨b, 0, none⟩)] w _
 go_enter Tryz.func68, Tryz.ntmps68
 go_wp2_with fail
 refine (dU CZ _ (Below.refl _ _)).mono ?_
 rintro e w1 ⟨⟨q, rfl, h⟩, b1⟩
 have R := dH (show RetB (nilSt m) (.returned (.bool q)) from ⟨q, rfl, h⟩)
 clear CZ h c0 c1 c2 hc
 go_wp2
 go_ret
 exact ⟨dU R, b1⟩
set_option maxHeartbeats 8000000 in
theorem lostRight_any (v : Value) (m : Wo) (w : World) (ok : okWorld m) (hs : sizWorld m ≤ 1048576) (hsl : m.stores.length = m.cfg.1.length) (hv : RdWorld v m w) :
  Calls Tryz.prog 25 #[v] w fun e w' => RetB (ivL m) e ∧ Below w.heap.size w w' := by
 obtain ⟨da, dc, sa, sc, la, lc, ea, ec, wa, wc, na, nc, ra, rc', ta, tc, rfl, hd, hst, hlo, hre, hwr, hme, hrd, hse⟩ := partsWorld hv
 obtain ⟨⟨ds, cop⟩, stores, lost, ⟨eras, trim⟩, writers, mends, readers, sent, torn⟩ := m
 obtain ⟨okC, okS, okL, okR, okW, okM, okE, okX⟩ := ok
 simp only at *
 have hz : ds.length ≤ 1048576 ∧ lost.length ≤ 1048576 ∧ sizRegister ⟨eras, trim⟩ ≤ 1048576 ∧ sizWriterS writers ≤ 1048576 ∧ sizMendS mends ≤ 1048576 := by unfold sizWorld sizConfig sizIntS at hs; simp only at hs; exact ⟨by omega, by omega, by omega, by omega, by omega⟩
 have B0 : Below w.heap.size w (w.alloc (.cells #[.slice da ds.length dc, .int .i64 cop, .slice sa stores.length sc, .slice la lost.length lc, .slice ea eras.length ec, .int .i64 trim, .slice wa writers.length wc, .slice na mends.length nc, .slice ra readers.length rc', .slice ta sent.length tc, .bool torn] 37)) := (Below.refl _ _).alloc (Nat.le_refl _) _
 have X0 := Bx.new w [.slice da ds.length dc, .int .i64 cop, .slice sa stores.length sc, .slice la lost.length lc, .slice ea eras.length ec, .int .i64 trim, .slice wa writers.length wc, .slice na mends.length nc, .slice ra readers.length rc', .slice ta sent.length tc, .bool torn] 37
 clear hv hs
 have C1 := dH fun W (hb : Below w.heap.size w W) => implNodes_any _ _ ds lost cop W (hd.below hb) (hlo.below hb) okC.1 okL hz.1 hz.2.1 okC.2.1 okC.2.2
 have C2 := dH fun (h : nodesP ds cop lost) W (hb : Below w.heap.size w W) (hX : Bx W w.heap.size [.slice da ds.length dc, .int .i64 cop, .slice sa stores.length sc, .slice la lost.length lc, .slice ea eras.length ec, .int .i64 trim, .slice wa writers.length wc, .slice na mends.length nc, .slice ra readers.length rc', .slice ta sent.length tc, .bool torn]) => everyInt_any _ lost 68 #[.pointer (some ⟨w.heap.size, 0, none⟩)] (fun z => nilSt (stores.getD z.toNat ⟨[], [], 0⟩)) W (by intro args w; rfl) (hlo.below hb) fun W' hb' z hz => lostRight1_any z w.heap.size 0 sa sc stores W' (hX.below hb' 2 _ rfl) (hst.below (bT hb hb')) (nodes_in h z hz).1 (by rw [hsl]; exact (nodes_in h z hz).2)
 clear hst hlo hre hwr hme hrd hse okC okS okL okR okW okM okE okX hz hd hsl
 go_enter Tryz.func25, Tryz.ntmps25
 go_wp2_with fail
 generalize w.alloc (.cells #[.slice da ds.length dc, .int .i64 cop, .slice sa stores.length sc, .slice la lost.length lc, .slice ea eras.length ec, .int .i64 trim, .slice wa writers.length wc, .slice na mends.length nc, .slice ra readers.length rc', .slice ta sent.length tc, .bool torn] 37) = w0 at *
 refine (dU C1 _ B0).mono ?_
 rintro e w1 ⟨⟨b1, rfl, h1⟩, bl1⟩
 have B1 := bT B0 bl1
 have X1 := X0.below bl1
 clear X0 bl1 B0 C1
 cases b1 with
 | false =>
  have R := RetB.no (show ¬ ivL ⟨(ds, cop), stores, lost, ⟨eras, trim⟩, writers, mends, readers, sent, torn⟩ from fun h => by have := h1.2 h.1; cases this)
  clear C2 h1 X1
  go_wp2
  go_ret
  exact ⟨R, B1⟩
 | true =>
 have p1 := h1.1 rfl
 have C3 := dH (dU C2 p1 _ B1 X1)
 have k3 := X1 3 _ rfl
 have P1 := dH p1
 clear C2 h1 X1 p1
 go_wp2_with fail
 refine (dU C3).mono ?_
 rintro e w2 ⟨⟨b2, rfl, h2⟩, bl2⟩
 have R := dH (show RetB (ivL ⟨(ds, cop), stores, lost, ⟨eras, trim⟩, writers, mends, readers, sent, torn⟩) (.returned (.bool b2)) from ⟨b2, rfl, h2.trans ⟨fun h => ⟨dU P1, h⟩, fun h => h.2⟩⟩)
 have B2 := bT B1 bl2
 clear C3 h2 bl2 k3
 go_wp2
 go_ret
 exact ⟨dU R, B2⟩
end Go.Proofs.YtodfgehicpejgaaGreatDoor
