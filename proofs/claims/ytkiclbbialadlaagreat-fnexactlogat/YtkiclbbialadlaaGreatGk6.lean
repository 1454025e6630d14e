/- Several texts in one: SeF, LgD. -/
import Derived.Test.YtkiclbbialadlaaGreatGbI
import Derived.Test.YtkiclbbialadlaaGreatGz18
import Derived.Deep.LoopGhost
import Derived.BigQuiet
import Derived.Test.YtkiclbbialadlaaGreatGk7
namespace Go.Proofs.YtkiclbbialadlaaGreat
open Go.ChangeShapes Go.WideShapes Go.ChangeAt Go.RowKit
set_option linter.unusedSimpArgs false
set_option linter.unusedVariables false
set_option maxRecDepth 100000
theorem ascBy_lt {α : Type} {f : α → Int} {l : List α} (h : ascBy f l) : ∀ k t (hk : k < l.length) (ht : t < k), f (l[t]'(by omega)) < f l[k]
  | 0, t, hk, ht => absurd ht (Nat.not_lt_zero _)
  | k + 1, t, hk, ht => by
    have a := h k hk
    rcases Nat.lt_or_ge t k with e | e
    · have := ascBy_lt h k t (by omega) e
      omega
    · obtain rfl : t = k := by omega
      exact a
def posSe (es : List Se) (x : Int) (i : Nat) : Prop := i ≤ es.length ∧ (∀ t (h : t < es.length), t < i → es[t].pl < x) ∧ (∀ t (h : t < es.length), i ≤ t → x ≤ es[t].pl)
def foundSe (es : List Se) (y : Int) (i : Nat) : Prop := ∃ h : i < es.length, es[i].pl = y
theorem placeSe_any (e : Se) (w : World) : Calls Tryz.prog 264 #[e.val] w fun r w' => r = .returned (.int .i64 e.pl) ∧ Below w.heap.size w w' := by
  obtain ⟨x, wv, ho⟩ := e
  unfold Se.val
  simp only
  go_enter Tryz.func264, Tryz.ntmps264
  go_wp2
  go_ret
  exact ⟨rfl, (Below.refl _ _).alloc (Nat.le_refl _) _⟩
theorem againstSe_any (e : Se) (y : Int) (w : World) : Calls Tryz.prog 96 #[e.val, .int .i64 y] w fun r w' => r = .returned (.int .i64 (cmpI e.pl y)) ∧ Below w.heap.size w w' := by
  obtain ⟨x, wv, ho⟩ := e
  have PA := fun W => placeSe_any ⟨x, wv, ho⟩ W
  have CA := fun W => compare_any x y W
  generalize cmpI x y = c at *
  unfold Se.val at *
  simp only at *
  go_enter Tryz.func96, Tryz.ntmps96
  go_wp2_with fail
  refine (PA _).mono ?_
  rintro r w1 ⟨rfl, b1⟩
  have BB := bT ((Below.refl w.heap.size w).alloc (Nat.le_refl _) (.cells #[.int .i64 x, .string wv, .bool ho] 68)) b1
  clear b1 PA
  go_wp2_with (go_at_call 97; refine (CA _).mono ?_; rintro e w' ⟨rfl, rfl⟩)
  go_ret
  exact ⟨rfl, BB⟩
theorem searchSe_any (v : Value) (es : List Se) (y : Int) (w : World) (hv : Rw 3 Se.cl w v es) (ha : ascBy Se.pl es) (hl : es.length ≤ 1048576) :
    Calls Tryz.prog 95 #[v, .int .i64 y, .func (.func 96) #[] #[]] w fun r w' => (∃ (i : Nat) (b : Bool), r = .returned (.tuple #[.int .i64 (i : Int), .bool b]) ∧ posSe es y i ∧ (b = true ↔ foundSe es y i)) ∧ Below w.heap.size w w' := by
  have HV := dH fun W (hb : Below w.heap.size w W) => hv.below hb
  obtain ⟨-, va, vc, rfl, hcap, -⟩ := hv
  have HA := dH ha
  generalize hn : es.length = n at *
  have HN := dH hn
  clear hn ha
  go_enter Tryz.func95, Tryz.ntmps95
  go_wp2
  go_loopg [9, 10] n (fun kx s9 s10 wr => ∃ lo hi : Nat, s9 = .int .i64 lo ∧ s10 = .int .i64 hi ∧ lo ≤ hi ∧ hi ≤ n ∧ hi - lo ≤ kx ∧ Hid (Below w.heap.size w wr) ∧
    Hid ((∀ t (h : t < es.length), t < lo → es[t].pl < y) ∧ (∀ t (h : t < es.length), hi ≤ t → y ≤ es[t].pl)))
  case atStart => exact ⟨0, n, rfl, rfl, Nat.zero_le _, Nat.le_refl _, by omega, dH (Below.refl _ _), dH ⟨fun t h1 h2 => absurd h2 (Nat.not_lt_zero _), fun t h1 h2 => by have := dU HN; omega⟩⟩
  case round =>
    obtain ⟨lo, hi, rfl, rfl, hlh, hin, hg, B1, I⟩ := hrel
    by_cases hlt : lo < hi
    · have hm : (lo + hi) / 2 < es.length := by rw [dU HN]; omega
      have R := dU HV wr (dU B1)
      rw [show n = es.length from (dU HN).symm] at R
      obtain ⟨b, off, rfl, hc⟩ := Rw.atSe R hm
      obtain ⟨c0, c1, c2⟩ := hc _ hm
      clear R hc
      have hc := fun W => againstSe_any es[(lo + hi) / 2] y W
      have hneg := cmpI_neg es[(lo + hi) / 2].pl y
      generalize he : es[(lo + hi) / 2] = e at *
      have HE := dH he
      obtain ⟨x, wv, ho⟩ := e
      unfold Se.val at hc
      simp only at hc c0 c1 c2 hneg
      generalize cmpI x y = c at *
      clear he
      by_cases hyx : c < 0
      · have hxy := hneg.1 hyx
        clear hneg
        have hd : decide (c < 0) = true := decide_eq_true hyx
        go_wp2_with (go_at_call 96; refine (hc _).mono ?_; rintro e w' ⟨rfl, b1⟩)
        go_roundg (hi - ((lo + hi) / 2 + 1))
        case measure => omega
        case rel =>
          have AL := dU HA
          have HEo := dU HE
          refine ⟨(lo + hi) / 2 + 1, hi, by rw [show ((lo : Int) + (hi : Int)) / 2 + 1 = (((lo + hi) / 2 + 1 : Nat) : Int) by omega], rfl, by omega, hin, Nat.le_refl _, dH (bT (dU B1) b1), dH ⟨fun t ht htl => ?_, (dU I).2⟩⟩
          rcases Nat.lt_or_ge t ((lo + hi) / 2) with h1 | h1
          · have := ascBy_lt AL ((lo + hi) / 2) t hm h1
            rw [HEo] at this
            dsimp only at this
            omega
          · obtain rfl : t = (lo + hi) / 2 := by omega
            rw [HEo]
            exact hxy
      · have hxy : ¬ x < y := fun h => hyx (hneg.2 h)
        clear hneg
        have hd : decide (c < 0) = false := decide_eq_false hyx
        go_wp2_with (go_at_call 96; refine (hc _).mono ?_; rintro e w' ⟨rfl, b1⟩)
        go_roundg ((lo + hi) / 2 - lo)
        case measure => omega
        case rel =>
          have AL := dU HA
          have HEo := dU HE
          refine ⟨lo, (lo + hi) / 2, rfl, by rw [show ((lo : Int) + (hi : Int)) / 2 = (((lo + hi) / 2 : Nat) : Int) by omega], by omega, by omega, Nat.le_refl _, dH (bT (dU B1) b1), dH ⟨(dU I).1, fun t ht htl => ?_⟩⟩
          rcases Nat.eq_or_lt_of_le htl with h1 | h1
          · subst h1
            rw [HEo]
            dsimp only
            omega
          · have := ascBy_lt AL t ((lo + hi) / 2) ht h1
            rw [HEo] at this
            dsimp only at this
            omega
    · obtain rfl : hi = lo := by omega
      have IP : posSe es y hi := ⟨by rw [dU HN]; exact hin, (dU I).1, (dU I).2⟩
      have HP := dH IP
      clear IP I
      by_cases hn : hi < n
      · have hm : hi < es.length := by rw [dU HN]; exact hn
        have R := dU HV wr (dU B1)
        rw [show n = es.length from (dU HN).symm] at R
        obtain ⟨b, off, rfl, hc⟩ := Rw.atSe R hm
        obtain ⟨c0, c1, c2⟩ := hc _ hm
        clear R hc
        have hc := fun W => againstSe_any es[hi] y W
        have hz := cmpI_zero es[hi].pl y
        have FP : Hid (foundSe es y hi ↔ es[hi].pl = y) := ⟨fun h => h.2, fun h => ⟨hm, h⟩⟩
        generalize he : es[hi] = e at *
        obtain ⟨x, wv, ho⟩ := e
        unfold Se.val at hc
        simp only at hc c0 c1 c2 hz FP
        generalize cmpI x y = c at *
        clear he
        by_cases hyx : c = 0
        · have hxy := (dU FP).2 (hz.1 hyx)
          clear hz FP
          go_wp2_with (go_at_call 96; refine (hc _).mono ?_; rintro e w' ⟨rfl, b1⟩)
          go_ret2
          exact ⟨⟨hi, true, by simp [hyx], dU HP, fun _ => hxy, fun _ => rfl⟩, bT (dU B1) b1⟩
        · have hxy : ¬ foundSe es y hi := fun h => hyx (hz.2 ((dU FP).1 h))
          clear hz FP
          go_wp2_with (go_at_call 96; refine (hc _).mono ?_; rintro e w' ⟨rfl, b1⟩)
          go_ret2
          exact ⟨⟨hi, false, by simp [hyx], dU HP, fun h => (by cases h), fun h => absurd h hxy⟩, bT (dU B1) b1⟩
      · have hxy : ¬ foundSe es y hi := fun h => by have := h.1; rw [dU HN] at this; exact hn this
        go_wp2
        go_ret2
        exact ⟨⟨hi, false, by simp [hn], dU HP, fun h => (by cases h), fun h => absurd h hxy⟩, dU B1⟩
theorem findSe_any (v : Value) (es : List Se) (y : Int) (w : World) (hv : Rw 3 Se.cl w v es) (ha : ascBy Se.pl es) (hl : es.length ≤ 1048576) :
    Calls Tryz.prog 55 #[v, .int .i64 y] w fun r w' => (∃ (i : Nat) (b : Bool), r = .returned (.tuple #[.int .i64 (i : Int), .bool b]) ∧ posSe es y i ∧ (b = true ↔ foundSe es y i)) ∧ Below w.heap.size w w' := by
  have C := searchSe_any v es y w hv ha hl
  obtain ⟨-, va, vc, rfl, hcap, -⟩ := hv
  go_enter Tryz.func55, Tryz.ntmps55
  go_wp2_with fail
  refine C.mono ?_
  rintro r w1 ⟨⟨i, b, rfl, h1, h2⟩, b1⟩
  go_wp2
  go_ret2
  exact ⟨⟨i, b, rfl, h1, h2⟩, b1⟩
theorem ascBy_snoc {α : Type} {f : α → Int} {l : List α} {y : α} (h : ascBy f l) (hy : ∀ x ∈ l, f x < f y) : ascBy f (l ++ [y]) := fun i hi => by
 rw [List.length_append, List.length_singleton] at hi
 by_cases e : i + 1 < l.length
 ·rw [List.getElem_append_left (by omega), List.getElem_append_left e]
  exact h i e
 ·rw [List.getElem_append_left (by omega), List.getElem_append_right (by omega)]
  simp only [List.getElem_singleton]
  exact hy _ (List.getElem_mem _)
theorem chrL_asc {trim : Int} {es : List Se} (h : ascBy Se.pl es) : ∀ k, k ≤ es.length → ascBy Se.pl (chrL (lastG trim es) k) ∧ ∀ x ∈ chrL (lastG trim es) k, ∀ j (hj : j < es.length), k ≤ j → x.pl < es[j].pl
 | 0, _ => ⟨fun i hi => absurd hi (by simp [chrL]), fun x hx => by simp [chrL] at hx⟩
 | k + 1, hk => by
  obtain ⟨h1, h2⟩ := chrL_asc h k (by omega)
  have hkl : k < es.length := by omega
  have e := lastG_at trim es k hkl
  cases hq : (lastG trim es k).2 with
  | false =>
   rw [chrL_no hq]
   exact ⟨h1, fun x hx j hj hkj => h2 x hx j hj (by omega)⟩
  | true =>
   rw [chrL_yes hq, e]
   refine ⟨ascBy_snoc h1 fun x hx => h2 x hx k hkl (Nat.le_refl _), fun x hx j hj hkj => ?_⟩
   rcases List.mem_append.1 hx with hx | hx
   ·exact h2 x hx j hj (by omega)
   ·obtain rfl : x = es[k] := by simpa using hx
    exact ascBy_lt h j k hj (by omega)
theorem logW_asc (m : Wo) : ascBy Se.pl (logW m) := by
 by_cases h : woP m
 ·rw [logW_yes h]
  exact (chrL_asc ((woP_iff m).1 h).2.2.2.2.2.2.2.2.2.1 _ (Nat.le_refl _)).1
 ·rw [logW_no h]
  exact fun i hi => absurd hi (by simp)
def atD (x : Int) (es : List Se) : ByteArray := ((es.find? fun e => e.pl == x).map Se.data).getD ⟨#[]⟩
def atB (x : Int) (es : List Se) : Bool := (es.find? fun e => e.pl == x).isSome
theorem at_found {x : Int} : ∀ (es : List Se) (k : Nat) (h : k < es.length), (∀ i (h : i < es.length), i < k → es[i].pl ≠ x) → es[k].pl = x → atD x es = es[k].data ∧ atB x es = true
 | [], k, h, _, _ => absurd h (Nat.not_lt_zero _)
 | e :: es, 0, h, _, hx => by
  simp only [List.getElem_cons_zero] at hx ⊢
  simp [atD, atB, List.find?_cons, hx]
 | e :: es, k + 1, h, hn, hx => by
  have h0 : e.pl ≠ x := hn 0 (by simp) (by omega)
  have hb : (e.pl == x) = false := by simpa using h0
  have r := at_found es k (by simpa using h) (fun i hi hik => hn (i + 1) (by simpa using hi) (by omega)) (by simpa using hx)
  simp only [List.getElem_cons_succ]
  unfold atD atB at *
  rw [List.find?_cons, hb]
  exact r
theorem at_none {x : Int} {es : List Se} (h : ∀ i (h : i < es.length), es[i].pl ≠ x) : atD x es = ⟨#[]⟩ ∧ atB x es = false := by
 have e : es.find? (fun e => e.pl == x) = none := by
  rw [List.find?_eq_none]
  intro y hy
  obtain ⟨i, hi, rfl⟩ := List.getElem_of_mem hy
  simpa using h i hi
 unfold atD atB
 rw [e]
 exact ⟨rfl, rfl⟩
set_option maxHeartbeats 8000000 in
theorem specLogAt_any (v : Value) (m : Wo) (x : Int) (w : World) (ok : okWorld m) (hs : sizWorld m ≤ 1048576) (hv : RdWorld v m w) :
  Calls Tryz.prog 15 #[v, .int .i64 x] w fun e w' => e = .returned (.tuple #[.string (atD x (logW m)), .bool (atB x (logW m))]) ∧ Below w.heap.size w w' := by
 have CW := dH fun W (hb : Below w.heap.size w W) => specLog_any v m W ok hs (hv.below hb)
 have hL := logW_len (m := m)
 have hsl : m.sent.length ≤ 1048576 := by unfold sizWorld sizSentS at hs; omega
 obtain ⟨da, dc, sa, sc, la, lc, ea, ec, wa, wc, na, nc, ra, rc', ta, tc, rfl, -, -, -, -, -, -, -, -⟩ := formWorld hv
 have YES := dH (at_found (x := x) (logW m))
 have NO := dH (at_none (x := x) (es := logW m))
 generalize logW m = L at *
 generalize atD x L = D at *
 generalize atB x L = B at *
 obtain ⟨n, hn⟩ : ∃ n, L.length = n := ⟨_, rfl⟩
 have HN := dH hn
 rw [hn] at hL
 obtain ⟨⟨ds, cop⟩, stores, lost, ⟨eras, trim⟩, writers, mends, readers, sent, torn⟩ := m
 simp only at *
 clear hv ok hs hn
 have B0 : Below w.heap.size w (w.alloc (.cells #[.slice da ds.length dc, .int .i64 cop, .slice sa stores.length sc, .slice la lost.length lc, .slice ea eras.length ec, .int .i64 trim, .slice wa writers.length wc, .slice na mends.length nc, .slice ra readers.length rc', .slice ta sent.length tc, .bool torn] 47)) := (Below.refl _ _).alloc (Nat.le_refl _) _
 go_enter Tryz.func15, Tryz.ntmps15
 go_wp2_with fail
 generalize w.alloc (.cells #[.slice da ds.length dc, .int .i64 cop, .slice sa stores.length sc, .slice la lost.length lc, .slice ea eras.length ec, .int .i64 trim, .slice wa writers.length wc, .slice na mends.length nc, .slice ra readers.length rc', .slice ta sent.length tc, .bool torn] 47) = w0 at *
 refine (dU CW _ B0).mono ?_
 rintro e w1 ⟨⟨o, rfl, O1⟩, b1⟩
 have B1 := dH (bT B0 b1)
 have HV := dH fun W (hb : Below w1.heap.size w1 W) => O1.rw.below hb
 obtain ⟨oa, oc, rfl⟩ : ∃ a c, o = .slice a n c := by
  obtain ⟨-, a, c, e, -⟩ := O1.rw
  exact ⟨a, c, by rw [e, dU HN]⟩
 clear O1 b1 B0 CW
 go_wp2
 go_loopw [7] (fun y wr => ∃ k : Nat, y = .int .i64 (k : Int) ∧ k ≤ n ∧ Hid (∀ i (h : i < L.length), i < k → L[i].pl ≠ x) ∧ wr = w1) (fun y _ => n - (intOf y).toNat)
 case atStart => exact ⟨0, rfl, Nat.zero_le _, fun i h h' => by omega, rfl⟩
 case round =>
  obtain ⟨k, rfl, hk, hinv, rfl⟩ := hrel
  by_cases hlt : (k : Int) < (n : Int)
  ·have hkl : k < L.length := by rw [dU HN]; omega
   have R := dU HV wr (Below.refl _ _)
   rw [show n = L.length from (dU HN).symm] at R
   obtain ⟨b, off, rfl, he⟩ := Rw.atSe R hkl
   obtain ⟨g0, g1, g2⟩ := he k hkl
   have H2 : Hid (L[k].pl ≠ x → ∀ i (h : i < L.length), i < k + 1 → L[i].pl ≠ x) := fun hh i h hi => by
    by_cases e : i = k
    ·subst e; exact hh
    ·exact dU hinv i h (by omega)
   have YK := dH (dU YES k hkl (fun i h hi => dU hinv i h hi))
   clear hinv he R
   generalize L[k] = s at *
   obtain ⟨s0, s1, s2⟩ := s
   simp only at g0 g1 g2 H2 YK
   by_cases h1 : s0 = x
   ·have hb1 : (s0 == x) = true := by simpa using h1
    obtain ⟨e1, e2⟩ := dU YK h1
    have E := dH (And.intro e1 e2)
    clear H2 YK h1 e1 e2 YES NO
    go_wp2
    go_ret2
    obtain ⟨rfl, rfl⟩ := dU E
    exact ⟨rfl, dU B1⟩
   ·have hb1 : (s0 == x) = false := by simpa using h1
    have H3 := dH (dU H2 h1)
    clear H2 YK h1
    go_wp2
    go_roundw
    case rel => exact ⟨k + 1, by go_num, by omega, H3, by first | trivial | rfl⟩
    case measure => simp [intOf]; omega
  ·have E := dH (dU NO fun i h => dU hinv i h (by rw [dU HN] at h; omega))
   clear hinv YES NO
   go_wp2
   go_ret2
   obtain ⟨rfl, rfl⟩ := dU E
   exact ⟨rfl, dU B1⟩
set_option maxHeartbeats 8000000 in
theorem implLogAt_any (v : Value) (m : Wo) (x : Int) (w : World) (ok : okWorld m) (hs : sizWorld m ≤ 1048576) (hv : RdWorld v m w) :
  Calls Tryz.prog 16 #[v, .int .i64 x] w fun e w' => e = .returned (.tuple #[.string (atD x (logW m)), .bool (atB x (logW m))]) ∧ Below w.heap.size w w' := by
 have CW := dH fun W (hb : Below w.heap.size w W) => implLog_any v m W ok hs (hv.below hb)
 have hL := logW_len (m := m)
 have hsl : m.sent.length ≤ 1048576 := by unfold sizWorld sizSentS at hs; omega
 obtain ⟨da, dc, sa, sc, la, lc, ea, ec, wa, wc, na, nc, ra, rc', ta, tc, rfl, -, -, -, -, -, -, -, -⟩ := formWorld hv
 have HA := logW_asc m
 have YES := dH (at_found (x := x) (logW m))
 have NO := dH (at_none (x := x) (es := logW m))
 generalize logW m = L at *
 generalize atD x L = D at *
 generalize atB x L = B at *
 have FO : Hid (∀ (i : Nat) (b : Bool), posSe L x i → (b = true ↔ foundSe L x i) → (b = true ∧ (∃ h : i < L.length, D = L[i].data ∧ B = true)) ∨ (b = false ∧ D = ⟨#[]⟩ ∧ B = false)) := fun i b hp hf => by
  cases b with
  | true =>
   obtain ⟨h, hx⟩ := hf.1 rfl
   exact .inl ⟨rfl, h, dU YES i h (fun t ht hti e => by have := hp.2.1 t ht hti; omega) hx⟩
  | false =>
   refine .inr ⟨rfl, dU NO fun t ht e => ?_⟩
   rcases Nat.lt_or_ge t i with h1 | h1
   ·have := hp.2.1 t ht h1
    omega
   ·have hi : i < L.length := by omega
    have h2 := hp.2.2 i hi (Nat.le_refl _)
    have h3 : L[i].pl ≤ L[t].pl := by
     rcases Nat.lt_or_ge i t with h4 | h4
     ·have := ascBy_lt HA t i ht h4
      omega
     ·obtain rfl : i = t := by omega
      exact Int.le_refl _
    have : false = true := hf.2 ⟨hi, by omega⟩
    cases this
 clear YES NO
 obtain ⟨n, hn⟩ : ∃ n, L.length = n := ⟨_, rfl⟩
 have HN := dH hn
 rw [hn] at hL
 obtain ⟨⟨ds, cop⟩, stores, lost, ⟨eras, trim⟩, writers, mends, readers, sent, torn⟩ := m
 simp only at *
 clear hv ok hs hn
 replace HA := dH HA
 have B0 : Below w.heap.size w (w.alloc (.cells #[.slice da ds.length dc, .int .i64 cop, .slice sa stores.length sc, .slice la lost.length lc, .slice ea eras.length ec, .int .i64 trim, .slice wa writers.length wc, .slice na mends.length nc, .slice ra readers.length rc', .slice ta sent.length tc, .bool torn] 47)) := (Below.refl _ _).alloc (Nat.le_refl _) _
 go_enter Tryz.func16, Tryz.ntmps16
 go_wp2_with fail
 generalize w.alloc (.cells #[.slice da ds.length dc, .int .i64 cop, .slice sa stores.length sc, .slice la lost.length lc, .slice ea eras.length ec, .int .i64 trim, .slice wa writers.length wc, .slice na mends.length nc, .slice ra readers.length rc', .slice ta sent.length tc, .bool torn] 47) = w0 at *
 refine (dU CW _ B0).mono ?_
 rintro e w1 ⟨⟨o, rfl, O1⟩, b1⟩
 have B1 := dH (bT B0 b1)
 have HV := dH fun W (hb : Below w1.heap.size w1 W) => O1.rw.below hb
 have CF := dH (findSe_any o L x w1 O1.rw (dU HA) (by rw [dU HN]; omega))
 obtain ⟨oa, oc, rfl⟩ : ∃ a c, o = .slice a n c := by
  obtain ⟨-, a, c, e, -⟩ := O1.rw
  exact ⟨a, c, by rw [e, dU HN]⟩
 clear O1 b1 B0 CW HA
 go_wp2_with fail
 refine (dU CF).mono ?_
 rintro e w2 ⟨⟨i, b, rfl, hp, hf⟩, b2⟩
 have B2 := dH (bT (dU B1) b2)
 have R := dU HV w2 b2
 have F := dU FO i b hp hf
 clear CF hp hf b2 B1 HV FO
 rcases F with ⟨rfl, hi, hD, rfl⟩ | ⟨rfl, rfl, rfl⟩
 ·have hil : i < n := by rw [dU HN] at hi; exact hi
  rw [show n = L.length from (dU HN).symm] at R
  obtain ⟨b, off, rfl, he⟩ := Rw.atSe R hi
  obtain ⟨g0, g1, g2⟩ := he i hi
  rw [← hD] at g1
  clear R he hD
  go_wp2
  go_ret2
  exact ⟨rfl, dU B2⟩
 ·clear R
  go_wp2
  go_ret2
  exact ⟨rfl, dU B2⟩
theorem bothLogAt_ (m0 : Wo) (m1 : Int) (ok0 : okWorld m0) (ok1 : okInt m1) (hs0 : sizWorld m0 ≤ 1048576) : ∃ (s0 : ByteArray) (s1 : Bool), (∀ W v0, RdWorld v0 m0 W → Calls Tryz.prog 15 #[v0, .int .i64 m1] W fun e w' => e = .returned (.tuple #[.string s0, .bool s1]) ∧ Below W.heap.size W w') ∧ (∀ W v0, RdWorld v0 m0 W → Calls Tryz.prog 16 #[v0, .int .i64 m1] W fun e w' => e = .returned (.tuple #[.string s0, .bool s1]) ∧ Below W.heap.size W w') :=
 ⟨_, _, fun W v0 h => specLogAt_any v0 m0 m1 W ok0 hs0 h, fun W v0 h => implLogAt_any v0 m0 m1 W ok0 hs0 h⟩
end Go.Proofs.YtkiclbbialadlaaGreat
