/- Several texts in one: JgC, JgD, SeF, JgG, JgK. -/
import Derived.Test.YtodfgehicpejgaaGreatDoorGk162
import Derived.Test.YtodfgehicpejgaaGreatDoorGk164
import Derived.Test.YtodfgehicpejgaaGreatDoorGk166
import Derived.Deep.RegionHeld3
import Derived.Deep.DeepCutAuto
import Derived.Test.YtodfgehicpejgaaGreatDoorWkZ
import Derived.Test.YtodfgehicpejgaaGreatDoorGk181
import Derived.Test.YtodfgehicpejgaaGreatDoorGk149
import Derived.Deep.LoopGhost
import Derived.BigQuiet
namespace Go.Proofs.YtodfgehicpejgaaGreatDoor
open Go.ChangeShapes Go.WideShapes Go.ChangeAt Go.RowKit
set_option linter.unusedSimpArgs false
set_option linter.unusedVariables false
set_option maxRecDepth 100000
theorem lookS_some {w : World} {T KT ET : TypeId} {b c i : Nat} {es : Array MapEntry} {s : ByteArray} {v : Value} (hu : Tryz.prog.underlying T = some (.map KT ET)) (hs : Tryz.prog.underlying KT = some .string) (h0 : w.heap[b]? = some (.map es c)) (hf : Instr.findNow .string (.string s) es.toList 0 = some (some (i, v))) :
  (Instr.lookup T (.map (some b)) (.string s) true).run Tryz.prog w = .ok (.tuple #[v, .bool true]) w := by
 simp [Instr.lookup, run_underlying hu, MapKept.run_getObj_map h0, MapKept.run_checkKey (k := .string s) hs trivial, MapKept.run_findKey hs hf]
theorem lookS_none {w : World} {T KT ET : TypeId} {b c : Nat} {es : Array MapEntry} {s : ByteArray} {z : Value} (hu : Tryz.prog.underlying T = some (.map KT ET)) (hs : Tryz.prog.underlying KT = some .string) (hz : (zeroValue ET).run Tryz.prog w = .ok z w) (h0 : w.heap[b]? = some (.map es c)) (hf : Instr.findNow .string (.string s) es.toList 0 = some none) :
  (Instr.lookup T (.map (some b)) (.string s) true).run Tryz.prog w = .ok (.tuple #[z, .bool false]) w := by
 simp [Instr.lookup, run_underlying hu, MapKept.run_getObj_map h0, MapKept.run_checkKey (k := .string s) hs trivial, MapKept.run_findKey hs hf, hz]
theorem judged1_found (s : ByteArray) (mb b c i F : Nat) (es : Array MapEntry) (caps : Array Value) (Q : Prop) (w : World) (hF : ∀ args w, (callFunc F args).run Tryz.prog w = .ok (.enter F args) w) (hc : w.cell? ⟨mb, 0, none⟩ = some (.map (some b))) (h0 : w.heap[b]? = some (.map es c)) (hf : Instr.findNow .string (.string s) es.toList 0 = some (some (i, .func (.func F) #[] caps)))
  (hq : Calls Tryz.prog F caps w fun e w' => RetB Q e ∧ Below w.heap.size w w') :
  Calls Tryz.prog 90 (#[.string s] ++ #[.pointer (some ⟨mb, 0, none⟩)]) w fun e w' => RetB Q e ∧ Below w.heap.size w w' := by
 have C1 := dH hq
 have hlk := lookS_some Tryz.underlying121 Tryz.underlying9 h0 hf
 clear hq h0 hf
 show Calls Tryz.prog 90 #[.string s, .pointer (some ⟨mb, 0, none⟩)] w _
 go_enter Tryz.func90, Tryz.ntmps90
 go_wp2_with fail
 refine (dU C1).mono ?_
 rintro e w1 ⟨⟨q, rfl, h⟩, b1⟩
 have R := dH (show RetB Q (.returned (.bool q)) from ⟨q, rfl, h⟩)
 clear C1 h
 cases q
 all_goals
  go_wp2
  go_ret
  exact ⟨dU R, b1⟩
theorem judged1_none (s : ByteArray) (mb b c : Nat) (es : Array MapEntry) (w : World) (hc : w.cell? ⟨mb, 0, none⟩ = some (.map (some b))) (h0 : w.heap[b]? = some (.map es c)) (hf : Instr.findNow .string (.string s) es.toList 0 = some none) :
  Calls Tryz.prog 90 (#[.string s] ++ #[.pointer (some ⟨mb, 0, none⟩)]) w fun e w' => RetB True e ∧ Below w.heap.size w w' := by
 have hlk := lookS_none (z := .nilFunc) Tryz.underlying121 Tryz.underlying9 (by kernel_rfl) h0 hf
 clear h0 hf
 show Calls Tryz.prog 90 #[.string s, .pointer (some ⟨mb, 0, none⟩)] w _
 go_enter Tryz.func90, Tryz.ntmps90
 go_wp2
 go_ret
 exact ⟨RetB.yes trivial, Below.refl _ _⟩
def noLoss (r : Rr) : Prop := ∀ e ∈ r.out, ¬ e.kind = 3
theorem evK_nil (r : Rr) : (evK [3] r.out).length = 0 ↔ noLoss r := by
 rw [List.length_eq_zero_iff]
 unfold evK noLoss
 rw [List.filter_eq_nil_iff]
 constructor
 ·intro h e he; have := h e he; simpa using this
 ·intro h e he; have := h e he; simpa using this
set_option maxHeartbeats 4000000 in
theorem whole1_any (v : Value) (m : Rr) (w : World) (hv : RdReader v m w) (hl : m.out.length ≤ 1048576) :
  Calls Tryz.prog 171 #[v] w fun e w' => RetB (noLoss m) e ∧ Below w.heap.size w w' := by
 have ba : ∀ (w : World) o, Below w.heap.size w (w.alloc o) := fun w o => (Below.refl _ _).alloc (Nat.le_refl _) o
 have C := dH fun W (hb : Below w.heap.size w W) kv (hk : Ns W kv [3]) => events_any v kv m [3] W (hv.below hb) hk hl
 obtain ⟨sv, rfl, hs⟩ := hv
 obtain ⟨sa, sc, rfl, -⟩ := formEventS hs
 have B0 := bT (ba w (.cells #[.int .i64 m.epoch, .int .i64 m.off, .slice sa m.out.length sc] 54)) (ba _ (.cells #[.int .i64 3] 3))
 have X0 := Bx.new (w.alloc (.cells #[.int .i64 m.epoch, .int .i64 m.off, .slice sa m.out.length sc] 54)) [.int .i64 3] 3
 rw [show (w.alloc (.cells #[.int .i64 m.epoch, .int .i64 m.off, .slice sa m.out.length sc] 54)).heap.size = w.heap.size + 1 from by simp] at X0
 have N0 : Hid (Ns ((w.alloc (.cells #[.int .i64 m.epoch, .int .i64 m.off, .slice sa m.out.length sc] 54)).alloc (.cells #[.int .i64 3] 3)) (.slice (some ⟨w.heap.size + 1, 0, none⟩) 1 1) [3]) := ⟨by simp, _, 1, rfl, ⟨by simp, by omega⟩, .inr ⟨w.heap.size + 1, 0, rfl, fun i hi => by
  have : i = 0 := by simpa using hi
  subst this
  exact X0 0 _ rfl⟩⟩
 clear hs X0
 go_enter Tryz.func171, Tryz.ntmps171
 go_wp2_with fail
 refine (dU C _ B0 _ (dU N0)).mono ?_
 rintro e w1 ⟨⟨u, rfl, hu⟩, b1⟩
 have B1 := bT B0 b1
 obtain ⟨ua, uc, rfl, -⟩ := formEventS hu
 have HE := dH (evK_nil m)
 clear hu b1 B0 C N0
 generalize (evK [3] m.out).length = n at *
 by_cases h : (n : Int) = 0
 ·have R := dH (RetB.yes ((dU HE).1 (by omega)))
  have hb : ((n : Int) == 0) = true := by simpa using h
  clear h HE
  go_wp2
  go_ret
  exact ⟨dU R, B1⟩
 ·have R := dH (RetB.no (fun q => h (by have := (dU HE).2 q; omega)) : RetB (noLoss m) (.returned (.bool false)))
  have hb : ((n : Int) == 0) = false := by simpa using h
  clear HE
  go_wp2
  go_ret
  exact ⟨dU R, B1⟩
theorem rrOut_le {l : List Rr} (h : sizReaderS l ≤ 1048576) {r : Rr} (hr : r ∈ l) : r.out.length ≤ 1048576 := by
 obtain ⟨i, hi, rfl⟩ := List.getElem_of_mem hr
 have h1 := sumPd_mem sizReader (ms := l) hi
 unfold sizReaderS sizD at h
 have h3 : l[i].out.length ≤ sizReader l[i] := by unfold sizReader sizEventS; omega
 omega
theorem wholeC_any (bx : Nat) (rv : Value) (l : List Rr) (w : World) (hc : w.cell? ⟨bx, 8, none⟩ = some rv) (hr : RdReaderS rv l w) (hl : ∀ r ∈ l, r.out.length ≤ 1048576) :
  Calls Tryz.prog 170 #[.pointer (some ⟨bx, 0, none⟩)] w fun e w' => RetB (∀ r ∈ l, noLoss r) e ∧ Below w.heap.size w w' := by
 have C1 := dH (everyReader_any _ l RdReader 171 #[] noLoss w (by intro args w; rfl) hr (fun h b => h.below b) fun W' hb' u x hx hu => whole1_any u x W' hu (hl x hx))
 obtain ⟨ra, rc, rfl, -⟩ := formD hr
 clear hr hl
 generalize l.length = n at *
 go_enter Tryz.func170, Tryz.ntmps170
 go_wp2_with fail
 refine (dU C1).mono ?_
 rintro e w1 ⟨⟨q, rfl, h⟩, b1⟩
 have R := dH (show RetB (∀ r ∈ l, noLoss r) (.returned (.bool q)) from ⟨q, rfl, h⟩)
 clear C1 h
 cases q
 all_goals
  go_wp2
  go_ret
  exact ⟨dU R, b1⟩
theorem RetB.to_iff {p q : Prop} {e : Ending} (h : RetB p e) (hq : p ↔ q) : RetB q e := by
 obtain ⟨b, h1, h2⟩ := h
 exact ⟨b, h1, h2.trans hq⟩
def wholeP (m : Wo) : Prop := woP m ∧ (m.torn = true ∨ ∀ r ∈ m.readers, noLoss r)
theorem ascBy_lt {α : Type} {f : α → Int} {l : List α} (h : ascBy f l) : ∀ k t (hk : k < l.length) (ht : t < k), f (l[t]'(by omega)) < f l[k]
  | 0, t, hk, ht => absurd ht (Nat.not_lt_zero _)
  | k + 1, t, hk, ht => by
    have a := h k hk
    rcases Nat.lt_or_ge t k with e | e
    · have := ascBy_lt h k t (by omega) e
      omega
    · obtain rfl : t = k := by omega
      exact a
def posSe (es : List Se) (x : Int) (i : Nat) : Prop := i ≤ es.length ∧ (∀ t (h : t < es.length), t < i → es[t].pl < x) ∧ (∀ t (h : t < es.length), i ≤ t → x ≤ es[t].pl)
def foundSe (es : List Se) (y : Int) (i : Nat) : Prop := ∃ h : i < es.length, es[i].pl = y
theorem placeSe_any (e : Se) (w : World) : Calls Tryz.prog 362 #[e.val] w fun r w' => r = .returned (.int .i64 e.pl) ∧ Below w.heap.size w w' := by
  obtain ⟨x, wv, ho⟩ := e
  unfold Se.val
  simp only
  go_enter Tryz.func362, Tryz.ntmps362
  go_wp2
  go_ret
  exact ⟨rfl, (Below.refl _ _).alloc (Nat.le_refl _) _⟩
theorem againstSe_any (e : Se) (y : Int) (w : World) : Calls Tryz.prog 190 #[e.val, .int .i64 y] w fun r w' => r = .returned (.int .i64 (cmpI e.pl y)) ∧ Below w.heap.size w w' := by
  obtain ⟨x, wv, ho⟩ := e
  have PA := fun W => placeSe_any ⟨x, wv, ho⟩ W
  have CA := fun W => compare_any x y W
  generalize cmpI x y = c at *
  unfold Se.val at *
  simp only at *
  go_enter Tryz.func190, Tryz.ntmps190
  go_wp2_with fail
  refine (PA _).mono ?_
  rintro r w1 ⟨rfl, b1⟩
  have BB := bT ((Below.refl w.heap.size w).alloc (Nat.le_refl _) (.cells #[.int .i64 x, .string wv, .bool ho] 97)) b1
  clear b1 PA
  go_wp2_with (go_at_call 191; refine (CA _).mono ?_; rintro e w' ⟨rfl, rfl⟩)
  go_ret
  exact ⟨rfl, BB⟩
theorem searchSe_any (v : Value) (es : List Se) (y : Int) (w : World) (hv : Rw 3 Se.cl w v es) (ha : ascBy Se.pl es) (hl : es.length ≤ 1048576) :
    Calls Tryz.prog 189 #[v, .int .i64 y, .func (.func 190) #[] #[]] w fun r w' => (∃ (i : Nat) (b : Bool), r = .returned (.tuple #[.int .i64 (i : Int), .bool b]) ∧ posSe es y i ∧ (b = true ↔ foundSe es y i)) ∧ Below w.heap.size w w' := by
  have HV := dH fun W (hb : Below w.heap.size w W) => hv.below hb
  obtain ⟨-, va, vc, rfl, hcap, -⟩ := hv
  have HA := dH ha
  generalize hn : es.length = n at *
  have HN := dH hn
  clear hn ha
  go_enter Tryz.func189, Tryz.ntmps189
  go_wp2
  go_loopg [9, 10] n (fun kx s9 s10 wr => ∃ lo hi : Nat, s9 = .int .i64 lo ∧ s10 = .int .i64 hi ∧ lo ≤ hi ∧ hi ≤ n ∧ hi - lo ≤ kx ∧ Hid (Below w.heap.size w wr) ∧
    Hid ((∀ t (h : t < es.length), t < lo → es[t].pl < y) ∧ (∀ t (h : t < es.length), hi ≤ t → y ≤ es[t].pl)))
  case atStart => exact ⟨0, n, rfl, rfl, Nat.zero_le _, Nat.le_refl _, by omega, dH (Below.refl _ _), dH ⟨fun t h1 h2 => absurd h2 (Nat.not_lt_zero _), fun t h1 h2 => by have := dU HN; omega⟩⟩
  case round =>
    obtain ⟨lo, hi, rfl, rfl, hlh, hin, hg, B1, I⟩ := hrel
    by_cases hlt : lo < hi
    · have hm : (lo + hi) / 2 < es.length := by rw [dU HN]; omega
      have R := dU HV wr (dU B1)
      rw [show n = es.length from (dU HN).symm] at R
      obtain ⟨b, off, rfl, hc⟩ := Rw.atSe R hm
      obtain ⟨c0, c1, c2⟩ := hc _ hm
      clear R hc
      have hc := fun W => againstSe_any es[(lo + hi) / 2] y W
      have hneg := cmpI_neg es[(lo + hi) / 2].pl y
      generalize he : es[(lo + hi) / 2] = e at *
      have HE := dH he
      obtain ⟨x, wv, ho⟩ := e
      unfold Se.val at hc
      simp only at hc c0 c1 c2 hneg
      generalize cmpI x y = c at *
      clear he
      by_cases hyx : c < 0
      · have hxy := hneg.1 hyx
        clear hneg
        have hd : decide (c < 0) = true := decide_eq_true hyx
        go_wp2_with (go_at_call 190; refine (hc _).mono ?_; rintro e w' ⟨rfl, b1⟩)
        go_roundg (hi - ((lo + hi) / 2 + 1))
        case measure => omega
        case rel =>
          have AL := dU HA
          have HEo := dU HE
          refine ⟨(lo + hi) / 2 + 1, hi, by rw [show ((lo : Int) + (hi : Int)) / 2 + 1 = (((lo + hi) / 2 + 1 : Nat) : Int) by omega], rfl, by omega, hin, Nat.le_refl _, dH (bT (dU B1) b1), dH ⟨fun t ht htl => ?_, (dU I).2⟩⟩
          rcases Nat.lt_or_ge t ((lo + hi) / 2) with h1 | h1
          · have := ascBy_lt AL ((lo + hi) / 2) t hm h1
            rw [HEo] at this
            dsimp only at this
            omega
          · obtain rfl : t = (lo + hi) / 2 := by omega
            rw [HEo]
            exact hxy
      · have hxy : ¬ x < y := fun h => hyx (hneg.2 h)
        clear hneg
        have hd : decide (c < 0) = false := decide_eq_false hyx
        go_wp2_with (go_at_call 190; refine (hc _).mono ?_; rintro e w' ⟨rfl, b1⟩)
        go_roundg ((lo + hi) / 2 - lo)
        case measure => omega
        case rel =>
          have AL := dU HA
          have HEo := dU HE
          refine ⟨lo, (lo + hi) / 2, rfl, by rw [show ((lo : Int) + (hi : Int)) / 2 = (((lo + hi) / 2 : Nat) : Int) by omega], by omega, by omega, Nat.le_refl _, dH (bT (dU B1) b1), dH ⟨(dU I).1, fun t ht htl => ?_⟩⟩
          rcases Nat.eq_or_lt_of_le htl with h1 | h1
          · subst h1
            rw [HEo]
            dsimp only
            omega
          · have := ascBy_lt AL t ((lo + hi) / 2) ht h1
            rw [HEo] at this
            dsimp only at this
            omega
    · obtain rfl : hi = lo := by omega
      have IP : posSe es y hi := ⟨by rw [dU HN]; exact hin, (dU I).1, (dU I).2⟩
      have HP := dH IP
      clear IP I
      by_cases hn : hi < n
      · have hm : hi < es.length := by rw [dU HN]; exact hn
        have R := dU HV wr (dU B1)
        rw [show n = es.length from (dU HN).symm] at R
        obtain ⟨b, off, rfl, hc⟩ := Rw.atSe R hm
        obtain ⟨c0, c1, c2⟩ := hc _ hm
        clear R hc
        have hc := fun W => againstSe_any es[hi] y W
        have hz := cmpI_zero es[hi].pl y
        have FP : Hid (foundSe es y hi ↔ es[hi].pl = y) := ⟨fun h => h.2, fun h => ⟨hm, h⟩⟩
        generalize he : es[hi] = e at *
        obtain ⟨x, wv, ho⟩ := e
        unfold Se.val at hc
        simp only at hc c0 c1 c2 hz FP
        generalize cmpI x y = c at *
        clear he
        by_cases hyx : c = 0
        · have hxy := (dU FP).2 (hz.1 hyx)
          clear hz FP
          go_wp2_with (go_at_call 190; refine (hc _).mono ?_; rintro e w' ⟨rfl, b1⟩)
          go_ret2
          exact ⟨⟨hi, true, by simp [hyx], dU HP, fun _ => hxy, fun _ => rfl⟩, bT (dU B1) b1⟩
        · have hxy : ¬ foundSe es y hi := fun h => hyx (hz.2 ((dU FP).1 h))
          clear hz FP
          go_wp2_with (go_at_call 190; refine (hc _).mono ?_; rintro e w' ⟨rfl, b1⟩)
          go_ret2
          exact ⟨⟨hi, false, by simp [hyx], dU HP, fun h => (by cases h), fun h => absurd h hxy⟩, bT (dU B1) b1⟩
      · have hxy : ¬ foundSe es y hi := fun h => by have := h.1; rw [dU HN] at this; exact hn this
        go_wp2
        go_ret2
        exact ⟨⟨hi, false, by simp [hn], dU HP, fun h => (by cases h), fun h => absurd h hxy⟩, dU B1⟩
theorem findSe_any (v : Value) (es : List Se) (y : Int) (w : World) (hv : Rw 3 Se.cl w v es) (ha : ascBy Se.pl es) (hl : es.length ≤ 1048576) :
    Calls Tryz.prog 105 #[v, .int .i64 y] w fun r w' => (∃ (i : Nat) (b : Bool), r = .returned (.tuple #[.int .i64 (i : Int), .bool b]) ∧ posSe es y i ∧ (b = true ↔ foundSe es y i)) ∧ Below w.heap.size w w' := by
  have C := searchSe_any v es y w hv ha hl
  obtain ⟨-, va, vc, rfl, hcap, -⟩ := hv
  go_enter Tryz.func105, Tryz.ntmps105
  go_wp2_with fail
  refine C.mono ?_
  rintro r w1 ⟨⟨i, b, rfl, h1, h2⟩, b1⟩
  go_wp2
  go_ret2
  exact ⟨⟨i, b, rfl, h1, h2⟩, b1⟩
def trueE (sent : List Se) (e : Ev) : Prop := ∃ s ∈ sent, s.pl = e.pl ∧ s.data = e.data
theorem txt_ne {a b : ByteArray} (h : ¬ a = b) : (a.toList == b.toList) = false := by
 rw [beq_eq_false_iff_ne]
 intro e
 refine h ?_
 rw [ByteArray.toList_eq, ByteArray.toList_eq] at e
 obtain ⟨⟨x⟩⟩ := a
 obtain ⟨⟨y⟩⟩ := b
 simp at e
 rw [e]
theorem trueE_found {sent : List Se} (ha : ascBy Se.pl sent) {e : Ev} {i : Nat} (h : foundSe sent e.pl i) : trueE sent e ↔ (sent[i]'h.1).data = e.data := by
 obtain ⟨hi, hp⟩ := h
 constructor
 ·rintro ⟨s, hs, h1, h2⟩
  obtain ⟨j, hj, rfl⟩ := List.getElem_of_mem hs
  have : i = j := by
   rcases Nat.lt_trichotomy i j with q | q | q
   ·have := ascBy_lt ha j i hj q; omega
   ·exact q
   ·have := ascBy_lt ha i j hi q; omega
  subst this
  exact h2
 ·intro q
  exact ⟨sent[i], List.getElem_mem hi, hp, q⟩
theorem trueE_none {sent : List Se} (ha : ascBy Se.pl sent) {e : Ev} {i : Nat} (hp : posSe sent e.pl i) (h : ¬ foundSe sent e.pl i) : ¬ trueE sent e := by
 rintro ⟨s, hs, h1, h2⟩
 obtain ⟨j, hj, rfl⟩ := List.getElem_of_mem hs
 rcases Nat.lt_trichotomy j i with q | q | q
 ·have := hp.2.1 j hj q; omega
 ·subst q; exact h ⟨hj, h1⟩
 ·have a := hp.2.2 i (by omega) (Nat.le_refl _)
  have := ascBy_lt ha j i hj q
  omega
set_option maxHeartbeats 8000000 in
theorem true1_any (e : Ev) (b : Nat) (ta : Option Addr) (tc : Nat) (sent : List Se) (w : World) (XS : Bx w b [.slice ta sent.length tc]) (hs : RdSentS (.slice ta sent.length tc) sent w) (ha : ascBy Se.pl sent) (hl : sent.length ≤ 1048576) :
  Calls Tryz.prog 245 (#[e.val] ++ #[.pointer (some ⟨b, 0, none⟩)]) w fun r w' => RetB (trueE sent e) r ∧ Below w.heap.size w w' := by
 have ba : ∀ (w : World) o, Below w.heap.size w (w.alloc o) := fun w o => (Below.refl _ _).alloc (Nat.le_refl _) o
 have b1 := ba w (.cells #[.int .i64 e.kind, .int .i64 e.pl, .string e.data] 143)
 have C := dH (findSe_any (.slice ta sent.length tc) sent e.pl _ (RdSentS.below hs b1) ha hl)
 have HS := dH fun W (hW : Below w.heap.size w W) => RdSentS.below hs hW
 have TF : Hid (∀ i, (h : foundSe sent e.pl i) → (trueE sent e ↔ (sent[i]'h.1).data = e.data)) := fun i h => trueE_found ha h
 have TN : Hid (∀ i, posSe sent e.pl i → ¬ foundSe sent e.pl i → RetB (trueE sent e) (.returned (.bool false))) := fun i h1 h2 => RetB.no (trueE_none ha h1 h2)
 have XE := Bx.new w [.int .i64 e.kind, .int .i64 e.pl, .string e.data] 143
 replace XS := XS.below b1
 have k0 := XS 0 _ rfl
 have z1 := XE 1 _ rfl
 generalize trueE sent e = PQ at *
 obtain ⟨y0, y1, y2⟩ := e
 simp only at *
 show Calls Tryz.prog 245 #[.agg #[.int .i64 y0, .int .i64 y1, .string y2], .pointer (some ⟨b, 0, none⟩)] w _
 clear hs ha
 go_enter Tryz.func245, Tryz.ntmps245
 go_wp2_with fail
 refine (dU C).mono ?_
 rintro r w1 ⟨⟨i, q, rfl, hpos, hf⟩, b2⟩
 have B1 := bT b1 b2
 replace XS := XS.below b2
 replace XE := XE.below b2
 have k0' := XS 0 _ rfl
 have z2 := XE 2 _ rfl
 cases q
 ·have R := dH (dU TN i hpos fun h => by have := hf.2 h; cases this)
  clear TN TF hpos hf HS C XS XE k0 z1 b2
  go_wp2_with fail
  go_quiet (fail)
  go_wp2
  go_ret
  exact ⟨dU R, below_drewN B1 _⟩
 ·have hF := hf.1 rfl
  have hi := hF.1
  have RI : Hid (PQ ↔ sent[i].data = y2) := dU TF i hF
  obtain ⟨eb, eo, rfl, he⟩ := Rw.atSe (dU HS w1 B1) hi
  obtain ⟨c0, c1, c2⟩ := he i hi
  have hin : (i : Int) < (sent.length : Int) := by omega
  clear TN TF hpos hf HS C XS XE k0 z1 b2 hF he
  generalize sent[i] = s at *
  obtain ⟨s0, s1, s2⟩ := s
  simp only at c0 c1 c2 RI
  by_cases hd : s1 = y2
  ·have R := dH (RetB.yes ((dU RI).2 hd))
   subst hd
   clear RI
   go_wp2_with fail
   go_quiet (fail)
   go_wp2
   go_ret
   exact ⟨dU R, below_drewN B1 _⟩
  ·have R := dH (RetB.no (fun h => hd ((dU RI).1 h)) : RetB PQ (.returned (.bool false)))
   have hb := txt_ne hd
   clear RI hd
   go_wp2_with fail
   go_quiet (fail)
   go_wp2
   go_ret
   exact ⟨dU R, below_drewN B1 _⟩
def trueR (sent : List Se) (r : Rr) : Prop := ∀ e ∈ evK [1] r.out, trueE sent e
set_option maxHeartbeats 8000000 in
theorem tellsOnly_any (v tv : Value) (m : Rr) (sent : List Se) (w : World) (hv : RdReader v m w) (ht : RdSentS tv sent w) (hl : m.out.length ≤ 1048576) (ha : ascBy Se.pl sent) (hs : sent.length ≤ 1048576) :
  Calls Tryz.prog 166 #[v, tv] w fun e w' => RetB (trueR sent m) e ∧ Below w.heap.size w w' := by
 have ba : ∀ (w : World) o, Below w.heap.size w (w.alloc o) := fun w o => (Below.refl _ _).alloc (Nat.le_refl _) o
 have C := dH fun W (hb : Below w.heap.size w W) kv (hk : Ns W kv [1]) => events_any v kv m [1] W (hv.below hb) hk hl
 have HT := dH fun W (hb : Below w.heap.size w W) => RdSentS.below ht hb
 obtain ⟨sv, rfl, hes⟩ := hv
 obtain ⟨sa, sc, rfl, -⟩ := formEventS hes
 obtain ⟨ta, tc, rfl, -⟩ := formSentS ht
 have b1 := ba w (.cells #[.int .i64 m.epoch, .int .i64 m.off, .slice sa m.out.length sc] 54)
 have b2 := ba (w.alloc (.cells #[.int .i64 m.epoch, .int .i64 m.off, .slice sa m.out.length sc] 54)) (.cells #[.slice ta sent.length tc] 35)
 have b3 := ba ((w.alloc (.cells #[.int .i64 m.epoch, .int .i64 m.off, .slice sa m.out.length sc] 54)).alloc (.cells #[.slice ta sent.length tc] 35)) (.cells #[.int .i64 1] 3)
 have B0 := bT (bT b1 b2) b3
 have e1 : (w.alloc (.cells #[.int .i64 m.epoch, .int .i64 m.off, .slice sa m.out.length sc] 54)).heap.size = w.heap.size + 1 := by simp
 have e2 : ((w.alloc (.cells #[.int .i64 m.epoch, .int .i64 m.off, .slice sa m.out.length sc] 54)).alloc (.cells #[.slice ta sent.length tc] 35)).heap.size = w.heap.size + 1 + 1 := by simp
 have XS := (Bx.new (w.alloc (.cells #[.int .i64 m.epoch, .int .i64 m.off, .slice sa m.out.length sc] 54)) [.slice ta sent.length tc] 35).below b3
 have X0 := Bx.new ((w.alloc (.cells #[.int .i64 m.epoch, .int .i64 m.off, .slice sa m.out.length sc] 54)).alloc (.cells #[.slice ta sent.length tc] 35)) [.int .i64 1] 3
 rw [e1] at XS
 rw [e2] at X0
 have N0 : Hid (Ns (((w.alloc (.cells #[.int .i64 m.epoch, .int .i64 m.off, .slice sa m.out.length sc] 54)).alloc (.cells #[.slice ta sent.length tc] 35)).alloc (.cells #[.int .i64 1] 3)) (.slice (some ⟨w.heap.size + 1 + 1, 0, none⟩) 1 1) [1]) := ⟨by simp, _, 1, rfl, ⟨by simp, by omega⟩, .inr ⟨w.heap.size + 1 + 1, 0, rfl, fun i hi => by
  have : i = 0 := by simpa using hi
  subst this
  exact X0 0 _ rfl⟩⟩
 have PQ : Hid (trueR sent m ↔ ∀ e ∈ evK [1] m.out, trueE sent e) := Iff.rfl
 generalize trueR sent m = PK at *
 clear hes ht b1 b2 b3 e1 e2 X0
 go_enter Tryz.func166, Tryz.ntmps166
 go_wp2_with fail
 generalize ((w.alloc (.cells #[.int .i64 m.epoch, .int .i64 m.off, .slice sa m.out.length sc] 54)).alloc (.cells #[.slice ta sent.length tc] 35)).alloc (.cells #[.int .i64 1] 3) = w0 at *
 refine (dU C _ B0 _ (dU N0)).mono ?_
 rintro e w1 ⟨⟨u, rfl, hu⟩, b1⟩
 have B1 := bT B0 b1
 replace XS := XS.below b1
 have CE := dH (everyEvent_any u (evK [1] m.out) (fun v m _ => v = m.val) 245 #[.pointer (some ⟨w.heap.size + 1, 0, none⟩)] (trueE sent) w1 (by intro args w; rfl) hu.rdD (fun h _ => h) fun W hW u' x hx hu' => by
  subst hu'
  exact true1_any x (w.heap.size + 1) ta tc sent W (XS.below hW) (dU HT W (bT B1 hW)) ha hs)
 obtain ⟨ua, uc, rfl, -⟩ := formEventS hu
 clear hu b1 C N0 HT XS hl ha hs B0
 go_wp2_with fail
 refine (dU CE).mono ?_
 rintro e w2 ⟨⟨q, rfl, h⟩, b2⟩
 have R := dH (show RetB PK (.returned (.bool q)) from ⟨q, rfl, h.trans (dU PQ).symm⟩)
 have B2 := bT B1 b2
 clear CE h PQ b2
 cases q
 all_goals
  go_wp2
  go_ret
  exact ⟨dU R, B2⟩
def JBox (W : World) (bx : Nat) (m : Wo) : Prop := W.cell? ⟨bx, 5, none⟩ = some (.int .i64 m.reg.trim) ∧ ∃ rv tv, W.cell? ⟨bx, 8, none⟩ = some rv ∧ W.cell? ⟨bx, 9, none⟩ = some tv ∧ RdReaderS rv m.readers W ∧ RdSentS tv m.sent W
def Judge1 (w : World) (m : Wo) (z : ByteArray) (P : Prop) : Prop := ∀ W bx b mb, Below w.heap.size w W → W.cell? ⟨mb, 0, none⟩ = some (.map (some b)) → W.heap[b]? = some (.map (judgesE bx m.torn) 5) → JBox W bx m → Calls Tryz.prog 90 (#[.string z] ++ #[.pointer (some ⟨mb, 0, none⟩)]) W fun e w' => RetB P e ∧ Below W.heap.size W w'
set_option maxHeartbeats 8000000 in
theorem judgedG_any (v nv' : Value) (m : Wo) (ns : List ByteArray) (P : ByteArray → Prop) (w : World) (ok : okWorld m) (hs : sizWorld m ≤ 1048576) (hv : RdWorld v m w) (hn : Txs w nv' ns) (hJ : woP m → ∀ z ∈ ns, Judge1 w m z (P z)) :
  Calls Tryz.prog 32 #[v, nv'] w fun e w' => RetB (woP m ∧ ∀ z ∈ ns, P z) e ∧ Below w.heap.size w w' := by
 have CW := dH fun W (hb : Below w.heap.size w W) => implWorldOk_any v m W ok hs (hv.below hb)
 obtain ⟨da, dc, sa, sc, la, lc, ea, ec, wa, wc, na, nc, ra, rc', ta, tc, rfl, hd, hst, hlo, hre, hwr, hme, hrd, hse⟩ := partsWorld hv
 clear hd hst hlo hre hwr hme hs ok
 obtain ⟨na', nc', rfl⟩ : ∃ a c, nv' = .slice a ns.length c := by obtain ⟨-, a, c, e, -⟩ := hn; exact ⟨a, c, e⟩
 have HN := dH fun W (hb : Below w.heap.size w W) => hn.below hb
 have HR := dH fun W (hb : Below w.heap.size w W) => RdReaderS.below hrd hb
 have HS := dH fun W (hb : Below w.heap.size w W) => RdSentS.below hse hb
 have HJ : Hid (woP m → ∀ z ∈ ns, ∀ W bx b mb, Below w.heap.size w W → W.cell? ⟨mb, 0, none⟩ = some (.map (some b)) → W.heap[b]? = some (.map (judgesE bx m.torn) 5) → (W.cell? ⟨bx, 5, none⟩ = some (.int .i64 m.reg.trim) ∧ ∃ rv tv, W.cell? ⟨bx, 8, none⟩ = some rv ∧ W.cell? ⟨bx, 9, none⟩ = some tv ∧ RdReaderS rv m.readers W ∧ RdSentS tv m.sent W) → Calls Tryz.prog 90 (#[.string z] ++ #[.pointer (some ⟨mb, 0, none⟩)]) W fun e w' => RetB (P z) e ∧ Below W.heap.size W w') := hJ
 clear hn hrd hse hv hJ
 have WP : Hid ((woP m ∧ ∀ z ∈ ns, P z) ↔ woP m ∧ ∀ z ∈ ns, P z) := Iff.rfl
 generalize hPQ : (woP m ∧ ∀ z ∈ ns, P z) = PQ at *
 have WP2 : Hid (PQ ↔ woP m ∧ ∀ z ∈ ns, P z) := by rw [← hPQ]; exact Iff.rfl
 clear WP hPQ
 generalize woP m = PW at *
 obtain ⟨⟨ds, cop⟩, stores, lost, ⟨eras, trim⟩, writers, mends, readers, sent, torn⟩ := m
 simp only at *
 generalize ns.length = nl at *
 have B0 : Below w.heap.size w (w.alloc (.cells #[.slice da ds.length dc, .int .i64 cop, .slice sa stores.length sc, .slice la lost.length lc, .slice ea eras.length ec, .int .i64 trim, .slice wa writers.length wc, .slice na mends.length nc, .slice ra readers.length rc', .slice ta sent.length tc, .bool torn] 37)) := (Below.refl _ _).alloc (Nat.le_refl _) _
 have X0 := Bx.new w [.slice da ds.length dc, .int .i64 cop, .slice sa stores.length sc, .slice la lost.length lc, .slice ea eras.length ec, .int .i64 trim, .slice wa writers.length wc, .slice na mends.length nc, .slice ra readers.length rc', .slice ta sent.length tc, .bool torn] 37
 go_enter Tryz.func32, Tryz.ntmps32
 go_wp2_with fail
 generalize w.alloc (.cells #[.slice da ds.length dc, .int .i64 cop, .slice sa stores.length sc, .slice la lost.length lc, .slice ea eras.length ec, .int .i64 trim, .slice wa writers.length wc, .slice na mends.length nc, .slice ra readers.length rc', .slice ta sent.length tc, .bool torn] 37) = w0 at *
 refine (dU CW _ B0).mono ?_
 rintro e w1 ⟨⟨q, rfl, hq⟩, b1⟩
 have B1 := bT B0 b1
 have X1 := X0.below b1
 replace B1 := dH B1
 cases q
 ·have R := dH (show RetB PQ (.returned (.bool false)) from RetB.no fun h => by have := hq.2 ((dU WP2).1 h).1; cases this)
  clear hq CW b1 X0 B0 HN HR HS HJ WP2 X1
  go_wp2
  go_ret
  exact ⟨dU R, dU B1⟩
 have HQ := dH (hq.1 rfl)
 replace HJ := dH (dU HJ (hq.1 rfl))
 clear hq CW b1 X0 B0
 have k0 := X1 0 _ rfl
 have k1 := X1 1 _ rfl
 have k2 := X1 2 _ rfl
 have k3 := X1 3 _ rfl
 have k4 := X1 4 _ rfl
 have k5 := X1 5 _ rfl
 have k6 := X1 6 _ rfl
 have k7 := X1 7 _ rfl
 have k8 := X1 8 _ rfl
 have k9 := X1 9 _ rfl
 have k10 := X1 10 _ rfl
 have CJ : Hid (Calls Tryz.prog 88 #[.agg #[.slice da ds.length dc, .int .i64 cop, .slice sa stores.length sc, .slice la lost.length lc, .slice ea eras.length ec, .int .i64 trim, .slice wa writers.length wc, .slice na mends.length nc, .slice ra readers.length rc', .slice ta sent.length tc, .bool torn]] w1 fun e w' => (∃ b, e = .returned (.map (some b)) ∧ w'.heap[b]? = some (.map (judgesE w1.heap.size torn) 5) ∧ Bx w' w1.heap.size [.slice da ds.length dc, .int .i64 cop, .slice sa stores.length sc, .slice la lost.length lc, .slice ea eras.length ec, .int .i64 trim, .slice wa writers.length wc, .slice na mends.length nc, .slice ra readers.length rc', .slice ta sent.length tc, .bool torn]) ∧ Below w1.heap.size w1 w') := by
  cases torn
  ·exact implJudges_f _ _ _ _ _ _ _ _ cop trim w1
  ·exact implJudges_t _ _ _ _ _ _ _ _ cop trim w1
 go_wp2_with fail
 refine (dU CJ).mono ?_
 rintro e w2 ⟨⟨b, rfl, hm, hX⟩, b2⟩
 have B2 := bT (dU B1) b2
 have bM : Below w2.heap.size w2 (w2.alloc (.cells #[.map (some b)] 121)) := (Below.refl _ _).alloc (Nat.le_refl _) _
 have cM := Bx.new w2 [.map (some b)] 121 0 _ rfl
 have B3 := bT B2 bM
 have hbl : b < w2.heap.size := (Array.getElem?_eq_some_iff.1 hm).1
 have hXM := hX.below bM
 have CE := dH (everyTxt_any _ ns 90 #[.pointer (some ⟨w2.heap.size, 0, none⟩)] P _ (by intro args w; rfl) (dU HN _ B3) fun W hW z hz => by
  have hXW := hXM.below hW
  exact dU HJ z hz W w1.heap.size b w2.heap.size (bT B3 hW) ((hW.cell (p := ⟨w2.heap.size, 0, none⟩) (dCell_lt cM)).trans cM) (((hW.block b (by simp; omega)).trans (bM.block b hbl)).trans hm) ⟨hXW 5 _ rfl, _, _, hXW 8 _ rfl, hXW 9 _ rfl, dU HR W (bT B3 hW), dU HS W (bT B3 hW)⟩)
 clear hm hX b2 bM cM hbl hXM HN HR HS HJ B2 k0 k1 k2 k3 k4 k5 k6 k7 k8 k9 k10 X1 CJ
 have B3' := dH B3
 clear B3
 go_wp2_with fail
 refine (dU CE).mono ?_
 rintro e w3 ⟨⟨q, rfl, h⟩, b3⟩
 have R := dH (show RetB PQ (.returned (.bool q)) from ⟨q, rfl, h.trans ⟨fun h => (dU WP2).2 ⟨dU HQ, h⟩, fun h => ((dU WP2).1 h).2⟩⟩)
 have B4 := bT (dU B3') b3
 clear CE h b3 B3' WP2 HQ
 cases q
 all_goals
  go_wp2
  go_ret
  exact ⟨dU R, B4⟩
end Go.Proofs.YtodfgehicpejgaaGreatDoor
