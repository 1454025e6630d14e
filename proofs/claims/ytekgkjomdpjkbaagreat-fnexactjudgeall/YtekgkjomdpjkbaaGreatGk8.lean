/- Several texts in one: SeF, JgG, JgI. -/
import Derived.Test.YtekgkjomdpjkbaaGreatGbI
import Derived.Test.YtekgkjomdpjkbaaGreatGk17
import Derived.Deep.LoopGhost
import Derived.BigQuiet
import Derived.Test.YtekgkjomdpjkbaaGreatGz18x
import Derived.Test.YtekgkjomdpjkbaaGreatGk19
import Derived.Deep.RegionHeld3
import Derived.Deep.DeepCutAuto
import Derived.Test.YtekgkjomdpjkbaaGreatGk12
namespace Go.Proofs.YtekgkjomdpjkbaaGreat
open Go.ChangeShapes Go.WideShapes Go.ChangeAt Go.RowKit
set_option linter.unusedSimpArgs false
set_option linter.unusedVariables false
set_option maxRecDepth 100000
theorem ascBy_lt {α : Type} {f : α → Int} {l : List α} (h : ascBy f l) : ∀ k t (hk : k < l.length) (ht : t < k), f (l[t]'(by omega)) < f l[k]
  | 0, t, hk, ht => absurd ht (Nat.not_lt_zero _)
  | k + 1, t, hk, ht => by
    have a := h k hk
    rcases Nat.lt_or_ge t k with e | e
    · have := ascBy_lt h k t (by omega) e
      omega
    · obtain rfl : t = k := by omega
      exact a
def posSe (es : List Se) (x : Int) (i : Nat) : Prop := i ≤ es.length ∧ (∀ t (h : t < es.length), t < i → es[t].pl < x) ∧ (∀ t (h : t < es.length), i ≤ t → x ≤ es[t].pl)
def foundSe (es : List Se) (y : Int) (i : Nat) : Prop := ∃ h : i < es.length, es[i].pl = y
theorem placeSe_any (e : Se) (w : World) : Calls Tryz.prog 273 #[e.val] w fun r w' => r = .returned (.int .i64 e.pl) ∧ Below w.heap.size w w' := by
  obtain ⟨x, wv, ho⟩ := e
  unfold Se.val
  simp only
  go_enter Tryz.func273, Tryz.ntmps273
  go_wp2
  go_ret
  exact ⟨rfl, (Below.refl _ _).alloc (Nat.le_refl _) _⟩
theorem againstSe_any (e : Se) (y : Int) (w : World) : Calls Tryz.prog 220 #[e.val, .int .i64 y] w fun r w' => r = .returned (.int .i64 (cmpI e.pl y)) ∧ Below w.heap.size w w' := by
  obtain ⟨x, wv, ho⟩ := e
  have PA := fun W => placeSe_any ⟨x, wv, ho⟩ W
  have CA := fun W => compare_any x y W
  generalize cmpI x y = c at *
  unfold Se.val at *
  simp only at *
  go_enter Tryz.func220, Tryz.ntmps220
  go_wp2_with fail
  refine (PA _).mono ?_
  rintro r w1 ⟨rfl, b1⟩
  have BB := bT ((Below.refl w.heap.size w).alloc (Nat.le_refl _) (.cells #[.int .i64 x, .string wv, .bool ho] 84)) b1
  clear b1 PA
  go_wp2_with (go_at_call 221; refine (CA _).mono ?_; rintro e w' ⟨rfl, rfl⟩)
  go_ret
  exact ⟨rfl, BB⟩
theorem searchSe_any (v : Value) (es : List Se) (y : Int) (w : World) (hv : Rw 3 Se.cl w v es) (ha : ascBy Se.pl es) (hl : es.length ≤ 1048576) :
    Calls Tryz.prog 219 #[v, .int .i64 y, .func (.func 220) #[] #[]] w fun r w' => (∃ (i : Nat) (b : Bool), r = .returned (.tuple #[.int .i64 (i : Int), .bool b]) ∧ posSe es y i ∧ (b = true ↔ foundSe es y i)) ∧ Below w.heap.size w w' := by
  have HV := dH fun W (hb : Below w.heap.size w W) => hv.below hb
  obtain ⟨-, va, vc, rfl, hcap, -⟩ := hv
  have HA := dH ha
  generalize hn : es.length = n at *
  have HN := dH hn
  clear hn ha
  go_enter Tryz.func219, Tryz.ntmps219
  go_wp2
  go_loopg [9, 10] n (fun kx s9 s10 wr => ∃ lo hi : Nat, s9 = .int .i64 lo ∧ s10 = .int .i64 hi ∧ lo ≤ hi ∧ hi ≤ n ∧ hi - lo ≤ kx ∧ Hid (Below w.heap.size w wr) ∧
    Hid ((∀ t (h : t < es.length), t < lo → es[t].pl < y) ∧ (∀ t (h : t < es.length), hi ≤ t → y ≤ es[t].pl)))
  case atStart => exact ⟨0, n, rfl, rfl, Nat.zero_le _, Nat.le_refl _, by omega, dH (Below.refl _ _), dH ⟨fun t h1 h2 => absurd h2 (Nat.not_lt_zero _), fun t h1 h2 => by have := dU HN; omega⟩⟩
  case round =>
    obtain ⟨lo, hi, rfl, rfl, hlh, hin, hg, B1, I⟩ := hrel
    by_cases hlt : lo < hi
    · have hm : (lo + hi) / 2 < es.length := by rw [dU HN]; omega
      have R := dU HV wr (dU B1)
      rw [show n = es.length from (dU HN).symm] at R
      obtain ⟨b, off, rfl, hc⟩ := Rw.atSe R hm
      obtain ⟨c0, c1, c2⟩ := hc _ hm
      clear R hc
      have hc := fun W => againstSe_any es[(lo + hi) / 2] y W
      have hneg := cmpI_neg es[(lo + hi) / 2].pl y
      generalize he : es[(lo + hi) / 2] = e at *
      have HE := dH he
      obtain ⟨x, wv, ho⟩ := e
      unfold Se.val at hc
      simp only at hc c0 c1 c2 hneg
      generalize cmpI x y = c at *
      clear he
      by_cases hyx : c < 0
      · have hxy := hneg.1 hyx
        clear hneg
        have hd : decide (c < 0) = true := decide_eq_true hyx
        go_wp2_with (go_at_call 220; refine (hc _).mono ?_; rintro e w' ⟨rfl, b1⟩)
        go_roundg (hi - ((lo + hi) / 2 + 1))
        case measure => omega
        case rel =>
          have AL := dU HA
          have HEo := dU HE
          refine ⟨(lo + hi) / 2 + 1, hi, by rw [show ((lo : Int) + (hi : Int)) / 2 + 1 = (((lo + hi) / 2 + 1 : Nat) : Int) by omega], rfl, by omega, hin, Nat.le_refl _, dH (bT (dU B1) b1), dH ⟨fun t ht htl => ?_, (dU I).2⟩⟩
          rcases Nat.lt_or_ge t ((lo + hi) / 2) with h1 | h1
          · have := ascBy_lt AL ((lo + hi) / 2) t hm h1
            rw [HEo] at this
            dsimp only at this
            omega
          · obtain rfl : t = (lo + hi) / 2 := by omega
            rw [HEo]
            exact hxy
      · have hxy : ¬ x < y := fun h => hyx (hneg.2 h)
        clear hneg
        have hd : decide (c < 0) = false := decide_eq_false hyx
        go_wp2_with (go_at_call 220; refine (hc _).mono ?_; rintro e w' ⟨rfl, b1⟩)
        go_roundg ((lo + hi) / 2 - lo)
        case measure => omega
        case rel =>
          have AL := dU HA
          have HEo := dU HE
          refine ⟨lo, (lo + hi) / 2, rfl, by rw [show ((lo : Int) + (hi : Int)) / 2 = (((lo + hi) / 2 : Nat) : Int) by omega], by omega, by omega, Nat.le_refl _, dH (bT (dU B1) b1), dH ⟨(dU I).1, fun t ht htl => ?_⟩⟩
          rcases Nat.eq_or_lt_of_le htl with h1 | h1
          · subst h1
            rw [HEo]
            dsimp only
            omega
          · have := ascBy_lt AL t ((lo + hi) / 2) ht h1
            rw [HEo] at this
            dsimp only at this
            omega
    · obtain rfl : hi = lo := by omega
      have IP : posSe es y hi := ⟨by rw [dU HN]; exact hin, (dU I).1, (dU I).2⟩
      have HP := dH IP
      clear IP I
      by_cases hn : hi < n
      · have hm : hi < es.length := by rw [dU HN]; exact hn
        have R := dU HV wr (dU B1)
        rw [show n = es.length from (dU HN).symm] at R
        obtain ⟨b, off, rfl, hc⟩ := Rw.atSe R hm
        obtain ⟨c0, c1, c2⟩ := hc _ hm
        clear R hc
        have hc := fun W => againstSe_any es[hi] y W
        have hz := cmpI_zero es[hi].pl y
        have FP : Hid (foundSe es y hi ↔ es[hi].pl = y) := ⟨fun h => h.2, fun h => ⟨hm, h⟩⟩
        generalize he : es[hi] = e at *
        obtain ⟨x, wv, ho⟩ := e
        unfold Se.val at hc
        simp only at hc c0 c1 c2 hz FP
        generalize cmpI x y = c at *
        clear he
        by_cases hyx : c = 0
        · have hxy := (dU FP).2 (hz.1 hyx)
          clear hz FP
          go_wp2_with (go_at_call 220; refine (hc _).mono ?_; rintro e w' ⟨rfl, b1⟩)
          go_ret2
          exact ⟨⟨hi, true, by simp [hyx], dU HP, fun _ => hxy, fun _ => rfl⟩, bT (dU B1) b1⟩
        · have hxy : ¬ foundSe es y hi := fun h => hyx (hz.2 ((dU FP).1 h))
          clear hz FP
          go_wp2_with (go_at_call 220; refine (hc _).mono ?_; rintro e w' ⟨rfl, b1⟩)
          go_ret2
          exact ⟨⟨hi, false, by simp [hyx], dU HP, fun h => (by cases h), fun h => absurd h hxy⟩, bT (dU B1) b1⟩
      · have hxy : ¬ foundSe es y hi := fun h => by have := h.1; rw [dU HN] at this; exact hn this
        go_wp2
        go_ret2
        exact ⟨⟨hi, false, by simp [hn], dU HP, fun h => (by cases h), fun h => absurd h hxy⟩, dU B1⟩
theorem findSe_any (v : Value) (es : List Se) (y : Int) (w : World) (hv : Rw 3 Se.cl w v es) (ha : ascBy Se.pl es) (hl : es.length ≤ 1048576) :
    Calls Tryz.prog 176 #[v, .int .i64 y] w fun r w' => (∃ (i : Nat) (b : Bool), r = .returned (.tuple #[.int .i64 (i : Int), .bool b]) ∧ posSe es y i ∧ (b = true ↔ foundSe es y i)) ∧ Below w.heap.size w w' := by
  have C := searchSe_any v es y w hv ha hl
  obtain ⟨-, va, vc, rfl, hcap, -⟩ := hv
  go_enter Tryz.func176, Tryz.ntmps176
  go_wp2_with fail
  refine C.mono ?_
  rintro r w1 ⟨⟨i, b, rfl, h1, h2⟩, b1⟩
  go_wp2
  go_ret2
  exact ⟨⟨i, b, rfl, h1, h2⟩, b1⟩
def trueE (sent : List Se) (e : Ev) : Prop := ∃ s ∈ sent, s.pl = e.pl ∧ s.data = e.data
theorem txt_ne {a b : ByteArray} (h : ¬ a = b) : (a.toList == b.toList) = false := by
 rw [beq_eq_false_iff_ne]
 intro e
 refine h ?_
 rw [ByteArray.toList_eq, ByteArray.toList_eq] at e
 obtain ⟨⟨x⟩⟩ := a
 obtain ⟨⟨y⟩⟩ := b
 simp at e
 rw [e]
theorem trueE_found {sent : List Se} (ha : ascBy Se.pl sent) {e : Ev} {i : Nat} (h : foundSe sent e.pl i) : trueE sent e ↔ (sent[i]'h.1).data = e.data := by
 obtain ⟨hi, hp⟩ := h
 constructor
 ·rintro ⟨s, hs, h1, h2⟩
  obtain ⟨j, hj, rfl⟩ := List.getElem_of_mem hs
  have : i = j := by
   rcases Nat.lt_trichotomy i j with q | q | q
   ·have := ascBy_lt ha j i hj q; omega
   ·exact q
   ·have := ascBy_lt ha i j hi q; omega
  subst this
  exact h2
 ·intro q
  exact ⟨sent[i], List.getElem_mem hi, hp, q⟩
theorem trueE_none {sent : List Se} (ha : ascBy Se.pl sent) {e : Ev} {i : Nat} (hp : posSe sent e.pl i) (h : ¬ foundSe sent e.pl i) : ¬ trueE sent e := by
 rintro ⟨s, hs, h1, h2⟩
 obtain ⟨j, hj, rfl⟩ := List.getElem_of_mem hs
 rcases Nat.lt_trichotomy j i with q | q | q
 ·have := hp.2.1 j hj q; omega
 ·subst q; exact h ⟨hj, h1⟩
 ·have a := hp.2.2 i (by omega) (Nat.le_refl _)
  have := ascBy_lt ha j i hj q
  omega
set_option maxHeartbeats 8000000 in
theorem true1_any (e : Ev) (b : Nat) (ta : Option Addr) (tc : Nat) (sent : List Se) (w : World) (XS : Bx w b [.slice ta sent.length tc]) (hs : RdSentS (.slice ta sent.length tc) sent w) (ha : ascBy Se.pl sent) (hl : sent.length ≤ 1048576) :
  Calls Tryz.prog 175 (#[e.val] ++ #[.pointer (some ⟨b, 0, none⟩)]) w fun r w' => RetB (trueE sent e) r ∧ Below w.heap.size w w' := by
 have ba : ∀ (w : World) o, Below w.heap.size w (w.alloc o) := fun w o => (Below.refl _ _).alloc (Nat.le_refl _) o
 have b1 := ba w (.cells #[.int .i64 e.kind, .int .i64 e.pl, .string e.data] 81)
 have C := dH (findSe_any (.slice ta sent.length tc) sent e.pl _ (RdSentS.below hs b1) ha hl)
 have HS := dH fun W (hW : Below w.heap.size w W) => RdSentS.below hs hW
 have TF : Hid (∀ i, (h : foundSe sent e.pl i) → (trueE sent e ↔ (sent[i]'h.1).data = e.data)) := fun i h => trueE_found ha h
 have TN : Hid (∀ i, posSe sent e.pl i → ¬ foundSe sent e.pl i → RetB (trueE sent e) (.returned (.bool false))) := fun i h1 h2 => RetB.no (trueE_none ha h1 h2)
 have XE := Bx.new w [.int .i64 e.kind, .int .i64 e.pl, .string e.data] 81
 replace XS := XS.below b1
 have k0 := XS 0 _ rfl
 have z1 := XE 1 _ rfl
 generalize trueE sent e = PQ at *
 obtain ⟨y0, y1, y2⟩ := e
 simp only at *
 show Calls Tryz.prog 175 #[.agg #[.int .i64 y0, .int .i64 y1, .string y2], .pointer (some ⟨b, 0, none⟩)] w _
 clear hs ha
 go_enter Tryz.func175, Tryz.ntmps175
 go_wp2_with fail
 refine (dU C).mono ?_
 rintro r w1 ⟨⟨i, q, rfl, hpos, hf⟩, b2⟩
 have B1 := bT b1 b2
 replace XS := XS.below b2
 replace XE := XE.below b2
 have k0' := XS 0 _ rfl
 have z2 := XE 2 _ rfl
 cases q
 ·have R := dH (dU TN i hpos fun h => by have := hf.2 h; cases this)
  clear TN TF hpos hf HS C XS XE k0 z1 b2
  go_wp2_with fail
  go_quiet (fail)
  go_wp2
  go_ret
  exact ⟨dU R, below_drewN B1 _⟩
 ·have hF := hf.1 rfl
  have hi := hF.1
  have RI : Hid (PQ ↔ sent[i].data = y2) := dU TF i hF
  obtain ⟨eb, eo, rfl, he⟩ := Rw.atSe (dU HS w1 B1) hi
  obtain ⟨c0, c1, c2⟩ := he i hi
  have hin : (i : Int) < (sent.length : Int) := by omega
  clear TN TF hpos hf HS C XS XE k0 z1 b2 hF he
  generalize sent[i] = s at *
  obtain ⟨s0, s1, s2⟩ := s
  simp only at c0 c1 c2 RI
  by_cases hd : s1 = y2
  ·have R := dH (RetB.yes ((dU RI).2 hd))
   subst hd
   clear RI
   go_wp2_with fail
   go_quiet (fail)
   go_wp2
   go_ret
   exact ⟨dU R, below_drewN B1 _⟩
  ·have R := dH (RetB.no (fun h => hd ((dU RI).1 h)) : RetB PQ (.returned (.bool false)))
   have hb := txt_ne hd
   clear RI hd
   go_wp2_with fail
   go_quiet (fail)
   go_wp2
   go_ret
   exact ⟨dU R, below_drewN B1 _⟩
def trueR (sent : List Se) (r : Rr) : Prop := ∀ e ∈ evK [1] r.out, trueE sent e
set_option maxHeartbeats 8000000 in
theorem tellsOnly_any (v tv : Value) (m : Rr) (sent : List Se) (w : World) (hv : RdReader v m w) (ht : RdSentS tv sent w) (hl : m.out.length ≤ 1048576) (ha : ascBy Se.pl sent) (hs : sent.length ≤ 1048576) :
  Calls Tryz.prog 120 #[v, tv] w fun e w' => RetB (trueR sent m) e ∧ Below w.heap.size w w' := by
 have ba : ∀ (w : World) o, Below w.heap.size w (w.alloc o) := fun w o => (Below.refl _ _).alloc (Nat.le_refl _) o
 have C := dH fun W (hb : Below w.heap.size w W) kv (hk : Ns W kv [1]) => events_any v kv m [1] W (hv.below hb) hk hl
 have HT := dH fun W (hb : Below w.heap.size w W) => RdSentS.below ht hb
 obtain ⟨sv, rfl, hes⟩ := hv
 obtain ⟨sa, sc, rfl, -⟩ := formEventS hes
 obtain ⟨ta, tc, rfl, -⟩ := formSentS ht
 have b1 := ba w (.cells #[.int .i64 m.epoch, .int .i64 m.off, .slice sa m.out.length sc] 62)
 have b2 := ba (w.alloc (.cells #[.int .i64 m.epoch, .int .i64 m.off, .slice sa m.out.length sc] 62)) (.cells #[.slice ta sent.length tc] 45)
 have b3 := ba ((w.alloc (.cells #[.int .i64 m.epoch, .int .i64 m.off, .slice sa m.out.length sc] 62)).alloc (.cells #[.slice ta sent.length tc] 45)) (.cells #[.int .i64 1] 3)
 have B0 := bT (bT b1 b2) b3
 have e1 : (w.alloc (.cells #[.int .i64 m.epoch, .int .i64 m.off, .slice sa m.out.length sc] 62)).heap.size = w.heap.size + 1 := by simp
 have e2 : ((w.alloc (.cells #[.int .i64 m.epoch, .int .i64 m.off, .slice sa m.out.length sc] 62)).alloc (.cells #[.slice ta sent.length tc] 45)).heap.size = w.heap.size + 1 + 1 := by simp
 have XS := (Bx.new (w.alloc (.cells #[.int .i64 m.epoch, .int .i64 m.off, .slice sa m.out.length sc] 62)) [.slice ta sent.length tc] 45).below b3
 have X0 := Bx.new ((w.alloc (.cells #[.int .i64 m.epoch, .int .i64 m.off, .slice sa m.out.length sc] 62)).alloc (.cells #[.slice ta sent.length tc] 45)) [.int .i64 1] 3
 rw [e1] at XS
 rw [e2] at X0
 have N0 : Hid (Ns (((w.alloc (.cells #[.int .i64 m.epoch, .int .i64 m.off, .slice sa m.out.length sc] 62)).alloc (.cells #[.slice ta sent.length tc] 45)).alloc (.cells #[.int .i64 1] 3)) (.slice (some ⟨w.heap.size + 1 + 1, 0, none⟩) 1 1) [1]) := ⟨by simp, _, 1, rfl, ⟨by simp, by omega⟩, .inr ⟨w.heap.size + 1 + 1, 0, rfl, fun i hi => by
  have : i = 0 := by simpa using hi
  subst this
  exact X0 0 _ rfl⟩⟩
 have PQ : Hid (trueR sent m ↔ ∀ e ∈ evK [1] m.out, trueE sent e) := Iff.rfl
 generalize trueR sent m = PK at *
 clear hes ht b1 b2 b3 e1 e2 X0
 go_enter Tryz.func120, Tryz.ntmps120
 go_wp2_with fail
 generalize ((w.alloc (.cells #[.int .i64 m.epoch, .int .i64 m.off, .slice sa m.out.length sc] 62)).alloc (.cells #[.slice ta sent.length tc] 45)).alloc (.cells #[.int .i64 1] 3) = w0 at *
 refine (dU C _ B0 _ (dU N0)).mono ?_
 rintro e w1 ⟨⟨u, rfl, hu⟩, b1⟩
 have B1 := bT B0 b1
 replace XS := XS.below b1
 have CE := dH (everyEvent_any u (evK [1] m.out) (fun v m _ => v = m.val) 175 #[.pointer (some ⟨w.heap.size + 1, 0, none⟩)] (trueE sent) w1 (by intro args w; rfl) hu.rdD (fun h _ => h) fun W hW u' x hx hu' => by
  subst hu'
  exact true1_any x (w.heap.size + 1) ta tc sent W (XS.below hW) (dU HT W (bT B1 hW)) ha hs)
 obtain ⟨ua, uc, rfl, -⟩ := formEventS hu
 clear hu b1 C N0 HT XS hl ha hs B0
 go_wp2_with fail
 refine (dU CE).mono ?_
 rintro e w2 ⟨⟨q, rfl, h⟩, b2⟩
 have R := dH (show RetB PK (.returned (.bool q)) from ⟨q, rfl, h.trans (dU PQ).symm⟩)
 have B2 := bT B1 b2
 clear CE h PQ b2
 cases q
 all_goals
  go_wp2
  go_ret
  exact ⟨dU R, B2⟩
theorem true2_any (v tv : Value) (bx : Nat) (m : Rr) (sent : List Se) (w : World) (hc : w.cell? ⟨bx, 9, none⟩ = some tv) (hv : RdReader v m w) (ht : RdSentS tv sent w) (hl : m.out.length ≤ 1048576) (ha : ascBy Se.pl sent) (hs : sent.length ≤ 1048576) :
  Calls Tryz.prog 119 (#[v] ++ #[.pointer (some ⟨bx, 0, none⟩)]) w fun e w' => RetB (trueR sent m) e ∧ Below w.heap.size w w' := by
 have C := dH fun W (hb : Below w.heap.size w W) => tellsOnly_any v tv m sent W (hv.below hb) (RdSentS.below ht hb) hl ha hs
 obtain ⟨sv, rfl, hes⟩ := hv
 obtain ⟨sa, sc, rfl, -⟩ := formEventS hes
 obtain ⟨ta, tc, rfl, -⟩ := formSentS ht
 have b1 : Below w.heap.size w (w.alloc (.cells #[.int .i64 m.epoch, .int .i64 m.off, .slice sa m.out.length sc] 62)) := (Below.refl _ _).alloc (Nat.le_refl _) _
 have c9 := (b1.cell (p := ⟨bx, 9, none⟩) (dCell_lt hc)).trans hc
 generalize trueR sent m = PK at *
 clear hes ht hl ha hs hc
 show Calls Tryz.prog 119 #[.agg #[.int .i64 m.epoch, .int .i64 m.off, .slice sa m.out.length sc], .pointer (some ⟨bx, 0, none⟩)] w _
 go_enter Tryz.func119, Tryz.ntmps119
 go_wp2_with fail
 refine (dU C _ b1).mono ?_
 rintro e w1 ⟨⟨q, rfl, h⟩, b2⟩
 have R := dH (show RetB PK (.returned (.bool q)) from ⟨q, rfl, h⟩)
 have B2 := bT b1 b2
 clear C h b2 c9
 cases q
 all_goals
  go_wp2
  go_ret
  exact ⟨dU R, B2⟩
theorem trueC_any (bx : Nat) (rv tv : Value) (l : List Rr) (sent : List Se) (w : World) (hc : w.cell? ⟨bx, 8, none⟩ = some rv) (hc9 : w.cell? ⟨bx, 9, none⟩ = some tv) (hr : RdReaderS rv l w) (ht : RdSentS tv sent w) (hl : ∀ r ∈ l, r.out.length ≤ 1048576) (ha : ascBy Se.pl sent) (hs : sent.length ≤ 1048576) :
  Calls Tryz.prog 118 #[.pointer (some ⟨bx, 0, none⟩)] w fun e w' => RetB (∀ r ∈ l, trueR sent r) e ∧ Below w.heap.size w w' := by
 have C1 := dH (everyReader_any _ l RdReader 119 #[.pointer (some ⟨bx, 0, none⟩)] (trueR sent) w (by intro args w; rfl) hr (fun h b => h.below b) fun W' hb' u x hx hu => true2_any u tv bx x sent W' ((hb'.cell (p := ⟨bx, 9, none⟩) (dCell_lt hc9)).trans hc9) hu (RdSentS.below ht hb') (hl x hx) ha hs)
 obtain ⟨ra, rc, rfl, -⟩ := formD hr
 clear hr hl ht ha hs hc9
 generalize l.length = n at *
 go_enter Tryz.func118, Tryz.ntmps118
 go_wp2_with fail
 refine (dU C1).mono ?_
 rintro e w1 ⟨⟨q, rfl, h⟩, b1⟩
 have R := dH (show RetB (∀ r ∈ l, trueR sent r) (.returned (.bool q)) from ⟨q, rfl, h⟩)
 clear C1 h
 cases q
 all_goals
  go_wp2
  go_ret
  exact ⟨dU R, b1⟩
theorem kept2_any (v tv : Value) (bx : Nat) (m : Rr) (sent : List Se) (tr : Int) (w : World) (hc : w.cell? ⟨bx, 9, none⟩ = some tv) (hc5 : w.cell? ⟨bx, 5, none⟩ = some (.int .i64 tr)) (hv : RdReader v m w) (ht : RdSentS tv sent w) (hl : m.out.length ≤ 1048576) (hp : plsR m) (sm : smallR m) (hs : ∀ s ∈ sent, -9223372036854775808 ≤ s.pl ∧ s.pl ≤ 9223372036854775807) :
  Calls Tryz.prog 122 (#[v] ++ #[.pointer (some ⟨bx, 0, none⟩)]) w fun e w' => RetB (keptR sent tr m) e ∧ Below w.heap.size w w' := by
 have C := dH fun W (hb : Below w.heap.size w W) => tellsSure_any v tv m sent tr W (hv.below hb) (RdSentS.below ht hb) hl hp sm hs
 obtain ⟨sv, rfl, hes⟩ := hv
 obtain ⟨sa, sc, rfl, -⟩ := formEventS hes
 obtain ⟨ta, tc, rfl, -⟩ := formSentS ht
 have b1 : Below w.heap.size w (w.alloc (.cells #[.int .i64 m.epoch, .int .i64 m.off, .slice sa m.out.length sc] 62)) := (Below.refl _ _).alloc (Nat.le_refl _) _
 have c9 := (b1.cell (p := ⟨bx, 9, none⟩) (dCell_lt hc)).trans hc
 have c5 := (b1.cell (p := ⟨bx, 5, none⟩) (dCell_lt hc5)).trans hc5
 generalize keptR sent tr m = PK at *
 clear hes ht hl hp sm hs hc hc5
 show Calls Tryz.prog 122 #[.agg #[.int .i64 m.epoch, .int .i64 m.off, .slice sa m.out.length sc], .pointer (some ⟨bx, 0, none⟩)] w _
 go_enter Tryz.func122, Tryz.ntmps122
 go_wp2_with fail
 refine (dU C _ b1).mono ?_
 rintro e w1 ⟨⟨q, rfl, h⟩, b2⟩
 have R := dH (show RetB PK (.returned (.bool q)) from ⟨q, rfl, h⟩)
 have B2 := bT b1 b2
 clear C h b2 c9 c5
 cases q
 all_goals
  go_wp2
  go_ret
  exact ⟨dU R, B2⟩
theorem keptC_any (bx : Nat) (rv tv : Value) (l : List Rr) (sent : List Se) (tr : Int) (w : World) (hc : w.cell? ⟨bx, 8, none⟩ = some rv) (hc9 : w.cell? ⟨bx, 9, none⟩ = some tv) (hc5 : w.cell? ⟨bx, 5, none⟩ = some (.int .i64 tr)) (hr : RdReaderS rv l w) (ht : RdSentS tv sent w) (hl : ∀ r ∈ l, r.out.length ≤ 1048576 ∧ plsR r ∧ smallR r) (hs : ∀ s ∈ sent, -9223372036854775808 ≤ s.pl ∧ s.pl ≤ 9223372036854775807) :
  Calls Tryz.prog 121 #[.pointer (some ⟨bx, 0, none⟩)] w fun e w' => RetB (∀ r ∈ l, keptR sent tr r) e ∧ Below w.heap.size w w' := by
 have C1 := dH (everyReader_any _ l RdReader 122 #[.pointer (some ⟨bx, 0, none⟩)] (keptR sent tr) w (by intro args w; rfl) hr (fun h b => h.below b) fun W' hb' u x hx hu => kept2_any u tv bx x sent tr W' ((hb'.cell (p := ⟨bx, 9, none⟩) (dCell_lt hc9)).trans hc9) ((hb'.cell (p := ⟨bx, 5, none⟩) (dCell_lt hc5)).trans hc5) hu (RdSentS.below ht hb') (hl x hx).1 (hl x hx).2.1 (hl x hx).2.2 hs)
 obtain ⟨ra, rc, rfl, -⟩ := formD hr
 clear hr hl ht hs hc9 hc5
 generalize l.length = n at *
 go_enter Tryz.func121, Tryz.ntmps121
 go_wp2_with fail
 refine (dU C1).mono ?_
 rintro e w1 ⟨⟨q, rfl, h⟩, b1⟩
 have R := dH (show RetB (∀ r ∈ l, keptR sent tr r) (.returned (.bool q)) from ⟨q, rfl, h⟩)
 clear C1 h
 cases q
 all_goals
  go_wp2
  go_ret
  exact ⟨dU R, b1⟩
end Go.Proofs.YtekgkjomdpjkbaaGreat
