/- Several texts in one: ImFa, ImpCa, ImpCb, ImFd. -/
import Derived.Test.YtjkjmapibcfcdaaGreatGbF
import Derived.Test.YtjkjmapibcfcdaaGreatGbE
import Derived.Deep.LoopGhost
import Derived.BigQuiet
import Derived.Test.YtjkjmapibcfcdaaGreatGaT
import Derived.Test.YtjkjmapibcfcdaaGreatGaA
import Derived.Deep.RegionHeld3
import Derived.Deep.DeepCutAuto
namespace Go.Proofs.YtjkjmapibcfcdaaGreat
open Go.ChangeShapes Go.WideShapes Go.ChangeAt Go.RowKit
set_option linter.unusedSimpArgs false
set_option linter.unusedVariables false
set_option maxRecDepth 100000
theorem place_any (e : Ent) (w : World) : Calls Tryz.prog 206 #[e.val] w fun r w' => r = .returned (.int .i64 e.pl) ∧ Below w.heap.size w w' := by
  obtain ⟨x, wv, ho, d⟩ := e
  unfold Ent.val
  simp only
  go_enter Tryz.func206, Tryz.ntmps206
  go_wp2
  go_ret
  exact ⟨rfl, (Below.refl _ _).alloc (Nat.le_refl _) _⟩
theorem isNaN_any (x : Int) (w : World) : Calls Tryz.prog 166 #[.int .i64 x] w fun r w' => r = .returned (.bool false) ∧ w' = w := by
  go_enter Tryz.func166, Tryz.ntmps166
  go_wp2
  go_ret
  exact ⟨by simp, rfl⟩
def cmpI (x y : Int) : Int := if x < y then -1 else if y < x then 1 else 0
theorem cmpI_neg (x y : Int) : cmpI x y < 0 ↔ x < y := by unfold cmpI; split <;> (try split) <;> omega
theorem cmpI_zero (x y : Int) : cmpI x y = 0 ↔ x = y := by unfold cmpI; split <;> (try split) <;> omega
theorem compare_any (x y : Int) (w : World) : Calls Tryz.prog 152 #[.int .i64 x, .int .i64 y] w fun r w' => r = .returned (.int .i64 (cmpI x y)) ∧ w' = w := by
  by_cases h : x < y
  · have e : cmpI x y = -1 := if_pos h
    rw [e]
    clear e
    have hd : decide (x < y) = true := decide_eq_true h
    go_enter Tryz.func152, Tryz.ntmps152
    go_wp2_with (go_at_call 166; refine (isNaN_any _ _).mono ?_; rintro e w' ⟨rfl, rfl⟩)
    go_ret
    exact ⟨rfl, rfl⟩
  · by_cases h2 : y < x
    · have e : cmpI x y = 1 := (if_neg h).trans (if_pos h2)
      rw [e]
      clear e
      have hd : decide (x < y) = false := decide_eq_false h
      have hd2 : decide (y < x) = true := decide_eq_true h2
      go_enter Tryz.func152, Tryz.ntmps152
      go_wp2_with (go_at_call 166; refine (isNaN_any _ _).mono ?_; rintro e w' ⟨rfl, rfl⟩)
      go_ret
      exact ⟨rfl, rfl⟩
    · have e : cmpI x y = 0 := (if_neg h).trans (if_neg h2)
      rw [e]
      clear e
      have hd : decide (x < y) = false := decide_eq_false h
      have hd2 : decide (y < x) = false := decide_eq_false h2
      go_enter Tryz.func152, Tryz.ntmps152
      go_wp2_with (go_at_call 166; refine (isNaN_any _ _).mono ?_; rintro e w' ⟨rfl, rfl⟩)
      go_ret
      exact ⟨rfl, rfl⟩
theorem against_any (e : Ent) (y : Int) (w : World) : Calls Tryz.prog 151 #[e.val, .int .i64 y] w fun r w' => r = .returned (.int .i64 (cmpI e.pl y)) ∧ Below w.heap.size w w' := by
  obtain ⟨x, wv, ho, d⟩ := e
  have PA := fun W => place_any ⟨x, wv, ho, d⟩ W
  have CA := fun W => compare_any x y W
  generalize cmpI x y = c at *
  unfold Ent.val at *
  simp only at *
  go_enter Tryz.func151, Tryz.ntmps151
  go_wp2_with fail
  refine (PA _).mono ?_
  rintro r w1 ⟨rfl, b1⟩
  have BB := bT ((Below.refl w.heap.size w).alloc (Nat.le_refl _) (.cells #[.int .i64 x, .int .i64 wv, .bool ho, .string d] 36)) b1
  clear b1 PA
  go_wp2_with (go_at_call 152; refine (CA _).mono ?_; rintro e w' ⟨rfl, rfl⟩)
  go_ret
  exact ⟨rfl, BB⟩
def foundP (es : List Ent) (y : Int) (i : Nat) : Prop := ∃ h : i < es.length, es[i].pl = y
set_option maxHeartbeats 4000000 in
theorem search_any (v : Value) (es : List Ent) (y : Int) (w : World) (hv : Rw 4 Ent.cl w v es) (ha : ascE es) (hl : es.length ≤ 1048576) :
    Calls Tryz.prog 150 #[v, .int .i64 y, .func (.func 151) #[] #[]] w fun r w' => (∃ (i : Nat) (b : Bool), r = .returned (.tuple #[.int .i64 (i : Int), .bool b]) ∧ posP es y i ∧ (b = true ↔ foundP es y i)) ∧ Below w.heap.size w w' := by
  have HV := dH fun W (hb : Below w.heap.size w W) => hv.below hb
  obtain ⟨-, va, vc, rfl, hcap, -⟩ := hv
  have HA := dH ha
  generalize hn : es.length = n at *
  have HN := dH hn
  clear hn ha
  go_enter Tryz.func150, Tryz.ntmps150
  go_wp2
  go_loopg [9, 10] n (fun kx s9 s10 wr => ∃ lo hi : Nat, s9 = .int .i64 lo ∧ s10 = .int .i64 hi ∧ lo ≤ hi ∧ hi ≤ n ∧ hi - lo ≤ kx ∧ Hid (Below w.heap.size w wr) ∧
    Hid ((∀ t (h : t < es.length), t < lo → es[t].pl < y) ∧ (∀ t (h : t < es.length), hi ≤ t → y ≤ es[t].pl)))
  case atStart => exact ⟨0, n, rfl, rfl, Nat.zero_le _, Nat.le_refl _, by omega, dH (Below.refl _ _), dH ⟨fun t h1 h2 => absurd h2 (Nat.not_lt_zero _), fun t h1 h2 => by have := dU HN; omega⟩⟩
  case round =>
    obtain ⟨lo, hi, rfl, rfl, hlh, hin, hg, B1, I⟩ := hrel
    by_cases hlt : lo < hi
    · have hm : (lo + hi) / 2 < es.length := by rw [dU HN]; omega
      have R := dU HV wr (dU B1)
      rw [show n = es.length from (dU HN).symm] at R
      obtain ⟨b, off, rfl, hc⟩ := Rw.ent R hm
      obtain ⟨c0, c1, c2, c3⟩ := hc _ hm
      clear R hc
      have hc := fun W => against_any es[(lo + hi) / 2] y W
      have hneg := cmpI_neg es[(lo + hi) / 2].pl y
      generalize he : es[(lo + hi) / 2] = e at *
      have HE := dH he
      obtain ⟨x, wv, ho, d⟩ := e
      unfold Ent.val at hc
      simp only at hc c0 c1 c2 c3 hneg
      generalize cmpI x y = c at *
      clear he
      by_cases hyx : c < 0
      · have hxy := hneg.1 hyx
        clear hneg
        have hd : decide (c < 0) = true := decide_eq_true hyx
        go_wp2_with (go_at_call 151; refine (hc _).mono ?_; rintro e w' ⟨rfl, b1⟩)
        go_roundg (hi - ((lo + hi) / 2 + 1))
        case measure => omega
        case rel =>
          have AL := dU HA
          have HEo := dU HE
          refine ⟨(lo + hi) / 2 + 1, hi, by rw [show ((lo : Int) + (hi : Int)) / 2 + 1 = (((lo + hi) / 2 + 1 : Nat) : Int) by omega], rfl, by omega, hin, Nat.le_refl _, dH (bT (dU B1) b1), dH ⟨fun t ht htl => ?_, (dU I).2⟩⟩
          rcases Nat.lt_or_ge t ((lo + hi) / 2) with h1 | h1
          · have := ascE_lt AL ((lo + hi) / 2) t hm h1
            rw [HEo] at this
            dsimp only at this
            omega
          · obtain rfl : t = (lo + hi) / 2 := by omega
            rw [HEo]
            exact hxy
      · have hxy : ¬ x < y := fun h => hyx (hneg.2 h)
        clear hneg
        have hd : decide (c < 0) = false := decide_eq_false hyx
        go_wp2_with (go_at_call 151; refine (hc _).mono ?_; rintro e w' ⟨rfl, b1⟩)
        go_roundg ((lo + hi) / 2 - lo)
        case measure => omega
        case rel =>
          have AL := dU HA
          have HEo := dU HE
          refine ⟨lo, (lo + hi) / 2, rfl, by rw [show ((lo : Int) + (hi : Int)) / 2 = (((lo + hi) / 2 : Nat) : Int) by omega], by omega, by omega, Nat.le_refl _, dH (bT (dU B1) b1), dH ⟨(dU I).1, fun t ht htl => ?_⟩⟩
          rcases Nat.eq_or_lt_of_le htl with h1 | h1
          · subst h1
            rw [HEo]
            dsimp only
            omega
          · have := ascE_lt AL t ((lo + hi) / 2) ht h1
            rw [HEo] at this
            dsimp only at this
            omega
    · obtain rfl : hi = lo := by omega
      have IP : posP es y hi := ⟨by rw [dU HN]; exact hin, (dU I).1, (dU I).2⟩
      have HP := dH IP
      clear IP I
      by_cases hn : hi < n
      · have hm : hi < es.length := by rw [dU HN]; exact hn
        have R := dU HV wr (dU B1)
        rw [show n = es.length from (dU HN).symm] at R
        obtain ⟨b, off, rfl, hc⟩ := Rw.ent R hm
        obtain ⟨c0, c1, c2, c3⟩ := hc _ hm
        clear R hc
        have hc := fun W => against_any es[hi] y W
        have hz := cmpI_zero es[hi].pl y
        have FP : Hid (foundP es y hi ↔ es[hi].pl = y) := ⟨fun h => h.2, fun h => ⟨hm, h⟩⟩
        generalize he : es[hi] = e at *
        obtain ⟨x, wv, ho, d⟩ := e
        unfold Ent.val at hc
        simp only at hc c0 c1 c2 c3 hz FP
        generalize cmpI x y = c at *
        clear he
        by_cases hyx : c = 0
        · have hxy := (dU FP).2 (hz.1 hyx)
          clear hz FP
          go_wp2_with (go_at_call 151; refine (hc _).mono ?_; rintro e w' ⟨rfl, b1⟩)
          go_ret2
          exact ⟨⟨hi, true, by simp [hyx], dU HP, fun _ => hxy, fun _ => rfl⟩, bT (dU B1) b1⟩
        · have hxy : ¬ foundP es y hi := fun h => hyx (hz.2 ((dU FP).1 h))
          clear hz FP
          go_wp2_with (go_at_call 151; refine (hc _).mono ?_; rintro e w' ⟨rfl, b1⟩)
          go_ret2
          exact ⟨⟨hi, false, by simp [hyx], dU HP, fun h => (by cases h), fun h => absurd h hxy⟩, bT (dU B1) b1⟩
      · have hxy : ¬ foundP es y hi := fun h => by have := h.1; rw [dU HN] at this; exact hn this
        go_wp2
        go_ret2
        exact ⟨⟨hi, false, by simp [hn], dU HP, fun h => (by cases h), fun h => absurd h hxy⟩, dU B1⟩
theorem find_any (v : Value) (es : List Ent) (y : Int) (w : World) (hv : Rw 4 Ent.cl w v es) (ha : ascE es) (hl : es.length ≤ 1048576) :
    Calls Tryz.prog 120 #[v, .int .i64 y] w fun r w' => (∃ (i : Nat) (b : Bool), r = .returned (.tuple #[.int .i64 (i : Int), .bool b]) ∧ posP es y i ∧ (b = true ↔ foundP es y i)) ∧ Below w.heap.size w w' := by
  have C := search_any v es y w hv ha hl
  obtain ⟨-, va, vc, rfl, hcap, -⟩ := hv
  go_enter Tryz.func120, Tryz.ntmps120
  go_wp2_with fail
  refine C.mono ?_
  rintro r w1 ⟨⟨i, b, rfl, h1, h2⟩, b1⟩
  go_wp2
  go_ret2
  exact ⟨⟨i, b, rfl, h1, h2⟩, b1⟩
set_option maxHeartbeats 1000000 in
theorem waveOk_zero (x : Int) (h : Bool) (d : ByteArray) (w : World) :
  Calls Tryz.prog 61 #[.agg #[.int .i64 x, .int .i64 0, .bool h, .string d]] w fun e w' => e = .returned (.bool true) ∧ Below w.heap.size w w' := by
 go_enter Tryz.func61, Tryz.ntmps61
 go_wp2
 go_quiet (fail)
 go_wp2
 go_ret
 exact ⟨rfl, below_drewN ((Below.refl _ _).alloc (Nat.le_refl _) _) _⟩
set_option maxHeartbeats 1000000 in
theorem waveOk_above (x v : Int) (h : Bool) (d : ByteArray) (hp : isPl x) (v0 : v ≠ 0) (hv : x / 4294967296 < v) (w : World) :
  Calls Tryz.prog 61 #[.agg #[.int .i64 x, .int .i64 v, .bool h, .string d]] w fun e w' => e = .returned (.bool (decide (v ≤ 30))) ∧ Below w.heap.size w w' := by
 have C := dH (implEpoch_yes x hp)
 have hv0 : (v == 0) = false := beq_eq_false_iff_ne.2 v0
 clear hp v0
 go_enter Tryz.func61, Tryz.ntmps61
 go_wp2
 have F0 := Four.new w (.int .i64 x) (.int .i64 v) (.bool h) (.string d) 36
 have hw0 : Below w.heap.size w (w.alloc (.cells #[.int .i64 x, .int .i64 v, .bool h, .string d] 36)) := (Below.refl _ _).alloc (Nat.le_refl _) _
 generalize w.alloc (Obj.cells #[.int .i64 x, .int .i64 v, .bool h, .string d] 36) = w0 at *
 have HF := dH F0
 obtain ⟨c0, c1, c2, c3⟩ := F0
 go_region_held3 (fun W => W.cell? ⟨w.heap.size, 0, none⟩ = some (.int .i64 x) ∧ W.cell? ⟨w.heap.size, 1, none⟩ = some (.int .i64 v)) (go_keep)
  (first
   | (go_at_call 10; refine (dU C _).mono ?_; rintro e w1 ⟨rfl, b1⟩; obtain ⟨k0, k1, k2, k3⟩ := (dU HF).kept (bT (Below.refl _ _).drew b1); have hb1 := bT hw0 (bT (Below.refl _ _).drew b1)))
 go_wp2
 go_ret
 exact ⟨rfl, hb1⟩
set_option maxHeartbeats 1000000 in
theorem dataOk_data (x v : Int) (d : ByteArray) (w : World) :
  Calls Tryz.prog 62 #[.agg #[.int .i64 x, .int .i64 v, .bool false, .string d]] w fun e w' => e = .returned (.bool (decide ((d.size : Int) ≤ 40))) ∧ Below w.heap.size w w' := by
 go_enter Tryz.func62, Tryz.ntmps62
 go_wp2
 go_ret
 exact ⟨rfl, (Below.refl _ _).alloc (Nat.le_refl _) _⟩
set_option maxHeartbeats 1000000 in
theorem dataOk_hole0 (x v : Int) (d : ByteArray) (hv : ¬ 0 < v) (w : World) :
  Calls Tryz.prog 62 #[.agg #[.int .i64 x, .int .i64 v, .bool true, .string d]] w fun e w' => e = .returned (.bool false) ∧ Below w.heap.size w w' := by
 go_enter Tryz.func62, Tryz.ntmps62
 go_wp2
 go_ret
 exact ⟨rfl, (Below.refl _ _).alloc (Nat.le_refl _) _⟩
set_option maxHeartbeats 1000000 in
theorem dataOk_hole1 (x v : Int) (hv : 0 < v) (w : World) :
  Calls Tryz.prog 62 #[.agg #[.int .i64 x, .int .i64 v, .bool true, .string ⟨#[]⟩]] w fun e w' => e = .returned (.bool true) ∧ Below w.heap.size w w' := by
 go_enter Tryz.func62, Tryz.ntmps62
 go_wp2
 go_ret
 exact ⟨rfl, (Below.refl _ _).alloc (Nat.le_refl _) _⟩
set_option maxHeartbeats 1000000 in
theorem dataOk_hole2 (x v : Int) (d : ByteArray) (hv : 0 < v) (he : d.toList.isEmpty = false) (w : World) :
  Calls Tryz.prog 62 #[.agg #[.int .i64 x, .int .i64 v, .bool true, .string d]] w fun e w' => e = .returned (.bool false) ∧ Below w.heap.size w w' := by
 go_enter Tryz.func62, Tryz.ntmps62
 go_wp2
 go_ret
 exact ⟨rfl, (Below.refl _ _).alloc (Nat.le_refl _) _⟩
theorem implBetter_any (a b : Ent) (w : World) :
  Calls Tryz.prog 77 #[a.val, b.val] w fun r w' => r = .returned (better a b).val ∧ Below w.heap.size w w' := by
 obtain ⟨x, v, h, d⟩ := a
 obtain ⟨x', v', h', d'⟩ := b
 unfold better
 simp only
 by_cases hw : v < v'
 ·rw [if_pos hw]
  unfold Ent.val
  go_enter Tryz.func77, Tryz.ntmps77
  go_wp2
  go_returns
  exact ⟨rfl, by go_grown⟩
 ·rw [if_neg hw]
  unfold Ent.val
  go_enter Tryz.func77, Tryz.ntmps77
  go_wp2
  go_returns
  exact ⟨rfl, by go_grown⟩
set_option maxHeartbeats 1000000 in
theorem waveOk_below (x v : Int) (h : Bool) (d : ByteArray) (hp : isPl x) (v0 : v ≠ 0) (hv : v ≤ x / 4294967296) (w : World) :
  Calls Tryz.prog 61 #[.agg #[.int .i64 x, .int .i64 v, .bool h, .string d]] w fun e w' => e = .returned (.bool false) ∧ Below w.heap.size w w' := by
 have C := dH (implEpoch_yes x hp)
 have hv0 : (v == 0) = false := beq_eq_false_iff_ne.2 v0
 have hv1 : decide (x / 4294967296 < v) = false := decide_eq_false (by omega)
 clear hp v0
 go_enter Tryz.func61, Tryz.ntmps61
 go_wp2
 have F0 := Four.new w (.int .i64 x) (.int .i64 v) (.bool h) (.string d) 36
 have hw0 : Below w.heap.size w (w.alloc (.cells #[.int .i64 x, .int .i64 v, .bool h, .string d] 36)) := (Below.refl _ _).alloc (Nat.le_refl _) _
 generalize w.alloc (Obj.cells #[.int .i64 x, .int .i64 v, .bool h, .string d] 36) = w0 at *
 have HF := dH F0
 obtain ⟨c0, c1, c2, c3⟩ := F0
 refine wp_region_noPanic ?_
 refine wp_region_held_drew (S := fun W => W.cell? ⟨w.heap.size, 0, none⟩ = some (.int .i64 x) ∧ W.cell? ⟨w.heap.size, 1, none⟩ = some (.int .i64 v)) (by kernel_rfl) ?_ (fun hHeld => ?_)
 ·go_keep
 refine tY 0 (v := ?_) rfl (by kernel_rfl) (.inl ⟨by rfl, ?_⟩) ‹_› ?_
 rotate_left 1
 ·intro w hSw
  (try dsimp only at hSw)
  first | (go_simp; done) | (go_simp; with_reducible rfl)
 try simp only [Act.put, sA, sB, sC]
 refine tY 1 (v := ?_) rfl (by kernel_rfl) (.inl ⟨by rfl, ?_⟩) ‹_› ?_
 rotate_left 1
 ·intro w hSw
  (try dsimp only at hSw)
  first | (go_simp; done) | (go_simp; with_reducible rfl)
 try simp only [Act.put, sA, sB, sC]
 refine tY 2 (v := ?_) rfl (by kernel_rfl) (.inl ⟨by rfl, ?_⟩) ‹_› ?_
 rotate_left 1
 ·intro w hSw
  (try dsimp only at hSw)
  first | (go_simp; done) | (go_simp; with_reducible rfl)
 try simp only [Act.put, sA, sB, sC]
 refine tY 3 (v := ?_) rfl (by kernel_rfl) (.inl ⟨by rfl, ?_⟩) ‹_› ?_
 rotate_left 1
 ·intro w hSw
  (try dsimp only at hSw)
  first | (go_simp; done) | (go_simp; with_reducible rfl)
 try simp only [Act.put, sA, sB, sC]
 refine tY 4 (v := ?_) rfl (by kernel_rfl) (.inl ⟨by rfl, ?_⟩) ‹_› ?_
 rotate_left 1
 ·intro w hSw
  (try dsimp only at hSw)
  first | (go_simp; done) | (go_simp; with_reducible rfl)
 try simp only [Act.put, sA, sB, sC]
 refine tY 5 (v := ?_) rfl (by kernel_rfl) (.inl ⟨by rfl, ?_⟩) ‹_› ?_
 rotate_left 1
 ·intro w hSw
  (try dsimp only at hSw)
  first | (go_simp; done) | (go_simp; with_reducible rfl)
 try simp only [Act.put, sA, sB, sC]
 refine tY 6 (v := ?_) rfl (by kernel_rfl) (.inl ⟨by rfl, ?_⟩) ‹_› ?_
 rotate_left 1
 ·intro w hSw
  (try dsimp only at hSw)
  first | (go_simp; done) | (go_simp; with_reducible rfl)
 try simp only [Act.put, sA, sB, sC]
 refine tY 7 (v := ?_) rfl (by kernel_rfl) (.inl ⟨by rfl, ?_⟩) ‹_› ?_
 rotate_left 1
 ·intro w hSw
  (try dsimp only at hSw)
  first | (go_simp; done) | (go_simp; with_reducible rfl)
 try simp only [Act.put, sA, sB, sC]
 refine wpAnyH_ready (rs := [8]) (by kernel_rfl) (by simp) ?_
 refine rC rfl (fun K hK => ?_) AllReadyH.nil
 go_simp
 refine (dU C _).mono ?_
 rintro e w1 ⟨rfl, b1⟩
 obtain ⟨k0, k1, k2, k3⟩ := (dU HF).kept (bT (Below.refl _ _).drew b1)
 have hb1 := bT hw0 (bT (Below.refl _ _).drew b1)
 (try go_wp2_with fail)
 refine hK.out _ _ ?_ (fun hHeld => ?_)
 ·go_keep
 clear hK K
 try simp only [Act.put, sA, sB, sC]
 refine tY 9 (v := ?_) rfl (by kernel_rfl) (.inl ⟨by rfl, ?_⟩) ‹_› ?_
 rotate_left 1
 ·intro w hSw
  (try dsimp only at hSw)
  first | (go_simp; done) | (go_simp; with_reducible rfl)
 try simp only [Act.put, sA, sB, sC]
 refine tY 10 (v := ?_) rfl (by kernel_rfl) (.inl ⟨by rfl, ?_⟩) ‹_› ?_
 rotate_left 1
 ·intro w hSw
  (try dsimp only at hSw)
  first | (go_simp; done) | (go_simp; with_reducible rfl)
 try simp only [Act.put, sA, sB, sC]
 refine tY 11 rfl (by kernel_rfl) (.inr ⟨by rfl, rfl⟩) ‹_› ?_
 try simp only [Act.put, sA, sB, sC]
 refine tY 12 rfl (by kernel_rfl) (.inr ⟨by rfl, rfl⟩) ‹_› ?_
 try simp only [Act.put, sA, sB, sC]
 refine tY 13 rfl (by kernel_rfl) (.inr ⟨by rfl, rfl⟩) ‹_› ?_
 try simp only [Act.put, sA, sB, sC]
 refine tY 14 (v := ?_) rfl (by kernel_rfl) (.inl ⟨by rfl, ?_⟩) ‹_› ?_
 rotate_left 1
 ·intro w hSw
  (try dsimp only at hSw)
  first | (go_simp; done) | (go_simp; with_reducible rfl)
 try simp only [Act.put, sA, sB, sC]
 refine tY 15 (v := ?_) rfl (by kernel_rfl) (.inl ⟨by rfl, ?_⟩) ‹_› ?_
 rotate_left 1
 ·intro w hSw
  (try dsimp only at hSw)
  first | (go_simp; done) | (go_simp; with_reducible rfl)
 try simp only [Act.put, sA, sB, sC]
 refine tY 16 (v := ?_) rfl (by kernel_rfl) (.inl ⟨by rfl, ?_⟩) ‹_› ?_
 rotate_left 1
 ·intro w hSw
  (try dsimp only at hSw)
  first | (go_simp; done) | (go_simp; with_reducible rfl)
 try simp only [Act.put, sA, sB, sC]
 refine wpAnyH_done (by kernel_rfl) ?_ _
 refine NoPanic.normal ?_
 go_wp2
 go_ret
 exact ⟨rfl, hb1⟩
theorem implEntOk_noP (x v : Int) (h : Bool) (d : ByteArray) (l : -9223372036854775808 ≤ x) (u : x ≤ 9223372036854775807) (hp : ¬ isPl x) (w : World) :
  Calls Tryz.prog 19 #[.agg #[.int .i64 x, .int .i64 v, .bool h, .string d]] w fun e w' => e = .returned (.bool false) ∧ Below w.heap.size w w' := by
 have C := dH (implOk_no x l u hp)
 clear hp
 go_enter Tryz.func19, Tryz.ntmps19
 go_wp2_with fail
 have hw0 : Below w.heap.size w (w.alloc (.cells #[.int .i64 x, .int .i64 v, .bool h, .string d] 36)) := (Below.refl _ _).alloc (Nat.le_refl _) _
 refine (dU C _).mono ?_
 rintro e w1 ⟨rfl, b1⟩
 have hb1 := bT hw0 b1
 clear b1 hw0
 go_wp2
 go_ret
 exact ⟨rfl, hb1⟩
theorem implEntOk_P (x v : Int) (h : Bool) (d : ByteArray) (hp : isPl x) (b1 b2 : Bool)
  (h1 : ∀ w, Calls Tryz.prog 61 #[.agg #[.int .i64 x, .int .i64 v, .bool h, .string d]] w fun e w' => e = .returned (.bool b1) ∧ Below w.heap.size w w')
  (h2 : b1 = true → ∀ w, Calls Tryz.prog 62 #[.agg #[.int .i64 x, .int .i64 v, .bool h, .string d]] w fun e w' => e = .returned (.bool b2) ∧ Below w.heap.size w w') (w : World) :
  Calls Tryz.prog 19 #[.agg #[.int .i64 x, .int .i64 v, .bool h, .string d]] w fun e w' => e = .returned (.bool (b1 && b2)) ∧ Below w.heap.size w w' := by
 have C := dH (implOk_yes x hp)
 have C1 := dH h1
 clear h1 hp
 cases b1 with
 | false =>
  clear h2
  go_enter Tryz.func19, Tryz.ntmps19
  go_wp2_with fail
  have F0 := Four.new w (.int .i64 x) (.int .i64 v) (.bool h) (.string d) 36
  have hw0 : Below w.heap.size w (w.alloc (.cells #[.int .i64 x, .int .i64 v, .bool h, .string d] 36)) := (Below.refl _ _).alloc (Nat.le_refl _) _
  refine (dU C _).mono ?_
  rintro e w1 ⟨rfl, b1⟩
  have F1 := F0.kept b1
  have hb1 := bT hw0 b1
  obtain ⟨k0, k1, k2, k3⟩ := F1
  clear b1 hw0 F0
  go_wp2_with fail
  refine (dU C1 _).mono ?_
  rintro e w2 ⟨rfl, b2⟩
  have hb2 := bT hb1 b2
  clear b2 hb1
  go_wp2
  go_ret
  exact ⟨rfl, hb2⟩
 | true =>
  have C2 := dH (h2 rfl)
  clear h2
  go_enter Tryz.func19, Tryz.ntmps19
  go_wp2_with fail
  have F0 := Four.new w (.int .i64 x) (.int .i64 v) (.bool h) (.string d) 36
  have hw0 : Below w.heap.size w (w.alloc (.cells #[.int .i64 x, .int .i64 v, .bool h, .string d] 36)) := (Below.refl _ _).alloc (Nat.le_refl _) _
  refine (dU C _).mono ?_
  rintro e w1 ⟨rfl, b1⟩
  have F1 := F0.kept b1
  have hb1 := bT hw0 b1
  have HF1 := dH F1
  obtain ⟨k0, k1, k2, k3⟩ := F1
  clear b1 hw0 F0
  go_wp2_with fail
  refine (dU C1 _).mono ?_
  rintro e w2 ⟨rfl, b2⟩
  have F2 := (dU HF1).kept b2
  have hb2 := bT hb1 b2
  obtain ⟨q0, q1, q2, q3⟩ := F2
  clear b2 hb1 HF1 k0 k1 k2 k3
  go_wp2_with fail
  refine (dU C2 _).mono ?_
  rintro e w3 ⟨rfl, b3⟩
  have hb3 := bT hb2 b3
  clear b3 hb2
  go_wp2
  go_ret
  exact ⟨by simp, hb3⟩
theorem implEntOk_yes (e : Ent) (hf : e.fits) (h : entP e) (w : World) :
  Calls Tryz.prog 19 #[e.val] w fun r w' => r = .returned (.bool true) ∧ Below w.heap.size w w' := by
 obtain ⟨x, v, h0, d⟩ := e
 obtain ⟨hp, v0, v1, hv, hd, hh⟩ := h
 simp only at hp v0 v1 hv hd hh
 unfold Ent.val
 simp only
 have hp' := hp
 obtain ⟨p0, p1, p2, p3, p4⟩ := hp'
 have e30 : decide (v ≤ 30) = true := decide_eq_true v1
 have e40 : decide ((d.size : Int) ≤ 40) = true := decide_eq_true (by omega)
 rcases Int.lt_or_le 0 v with hv0 | hv0
 ·have hv' := hv hv0
  have h1 := waveOk_above x v h0 d hp (by omega) hv'
  rw [e30] at h1
  cases h0 with
  | false =>
   have h2 := dataOk_data x v d
   rw [e40] at h2
   exact implEntOk_P x v false d hp true true h1 (fun _ => h2) w
  | true =>
   obtain rfl := bytes_nil d (hh rfl).2
   exact implEntOk_P x v true _ hp true true h1 (fun _ => dataOk_hole1 x v hv0) w
 ·obtain rfl : v = 0 := by omega
  cases h0 with
  | false =>
   have h2 := dataOk_data x 0 d
   rw [e40] at h2
   exact implEntOk_P x 0 false d hp true true (waveOk_zero x false d) (fun _ => h2) w
  | true => exact absurd (hh rfl).1 (by omega)
theorem implEntOk_no (e : Ent) (hf : e.fits) (h : ¬ entP e) (w : World) :
  Calls Tryz.prog 19 #[e.val] w fun r w' => r = .returned (.bool false) ∧ Below w.heap.size w w' := by
 obtain ⟨x, v, h0, d⟩ := e
 obtain ⟨f1, f2, f3, f4, f5⟩ := hf
 simp only at f1 f2 f3 f4 f5
 unfold entP at h
 unfold Ent.val
 simp only at h ⊢
 by_cases hp : isPl x
 ·have hp' := hp
  obtain ⟨p0, p1, p2, p3, p4⟩ := hp'
  have D : ∀ v', (v' = 0 ∨ (0 < v' ∧ v' ≤ 30 ∧ x / 4294967296 < v')) → v = v' → ∀ w, Calls Tryz.prog 62 #[.agg #[.int .i64 x, .int .i64 v, .bool h0, .string d]] w fun e w' => e = .returned (.bool false) ∧ Below w.heap.size w w' := by
   rintro v' hv' rfl W
   cases h0 with
   | false =>
    have h2 := dataOk_data x v d W
    by_cases hd : (d.size : Int) ≤ 40
    ·refine absurd ⟨hp, by omega, by omega, fun _ => by omega, by omega, fun h => by cases h⟩ h
    ·rw [decide_eq_false hd] at h2
     exact h2
   | true =>
    by_cases hv0 : 0 < v
    ·refine dataOk_hole2 x v d hv0 (bytes_ne d fun h1 => ?_) W
     exact h ⟨hp, by omega, by omega, fun _ => by omega, by omega, fun _ => ⟨hv0, h1⟩⟩
    ·exact dataOk_hole0 x v d hv0 W
  by_cases hv0 : v = 0
  ·subst hv0
   exact implEntOk_P x 0 h0 d hp true false (waveOk_zero x h0 d) (fun _ => D 0 (.inl rfl) rfl) w
  ·by_cases hv : x / 4294967296 < v
   ·have h1 := waveOk_above x v h0 d hp hv0 hv
    by_cases h30 : v ≤ 30
    ·rw [decide_eq_true h30] at h1
     exact implEntOk_P x v h0 d hp true false h1 (fun _ => D v (.inr ⟨by omega, h30, hv⟩) rfl) w
    ·rw [decide_eq_false h30] at h1
     exact implEntOk_P x v h0 d hp false false h1 (fun h => by cases h) w
   ·exact implEntOk_P x v h0 d hp false false (waveOk_below x v h0 d hp hv0 (by omega)) (fun h => by cases h) w
 ·exact implEntOk_noP x v h0 d f1 f2 hp w
theorem implEntOk_any (e : Ent) (hf : e.fits) (w : World) : Calls Tryz.prog 19 #[e.val] w fun r w' => RetB (entP e) r ∧ Below w.heap.size w w' := by
 by_cases h : entP e
 ·exact (implEntOk_yes e hf h w).mono fun r w' ⟨h1, h2⟩ => ⟨h1 ▸ RetB.yes h, h2⟩
 ·exact (implEntOk_no e hf h w).mono fun r w' ⟨h1, h2⟩ => ⟨h1 ▸ RetB.no h, h2⟩
set_option maxHeartbeats 4000000 in
theorem ascending_any (v : Value) (es : List Ent) (w : World) (hv : Rw 4 Ent.cl w v es) :
  Calls Tryz.prog 126 #[v] w fun e w' => RetB (ascE es) e ∧ Below w.heap.size w w' := by
 have HV := dH fun W (hb : Below w.heap.size w W) => hv.below hb
 obtain ⟨h0, a, cap, rfl, -, -⟩ := hv
 go_enter Tryz.func126, Tryz.ntmps126
 go_wp2
 go_loopw [3] (fun x wr => ∃ k : Nat, x = .int .i64 ((k + 1 : Nat) : Int) ∧ (k ≤ es.length) ∧ Hid (∀ i (h : i + 1 < es.length), i < k → es[i].pl < es[i + 1].pl) ∧ Below w.heap.size w wr) (fun x _ => es.length + 1 - (intOf x).toNat)
 case atStart => exact ⟨0, rfl, Nat.zero_le _, (fun i h h' => by omega), Below.refl _ _⟩
 case round =>
  obtain ⟨k, rfl, hk, hinv, hb⟩ := hrel
  by_cases hlt : ((k + 1 : Nat) : Int) < (es.length : Int)
  ·have hkl : k + 1 < es.length := by omega
   obtain ⟨b, off, rfl, hc⟩ := (dU HV wr hb).ent hkl
   have EA := hc k (by omega)
   have EB := hc (k + 1) hkl
   have hst : Hid (es[k].pl < es[k + 1].pl → ∀ i (h : i + 1 < es.length), i < k + 1 → es[i].pl < es[i + 1].pl) := fun he i h h' => by
    rcases Nat.lt_or_ge i k with hlt' | hge
    ·exact dU hinv i h hlt'
    ·obtain rfl : i = k := by omega
     exact he
   have hno : Hid (¬ es[k].pl < es[k + 1].pl → ¬ ascE es) := fun he h => he (h k hkl)
   have PA := dH fun W => place_any es[k] W
   have PB := dH fun W => place_any es[k + 1] W
   generalize es[k] = ea at *
   generalize es[k + 1] = eb at *
   obtain ⟨x, wv, ho, d⟩ := ea
   obtain ⟨y, wv', ho', d'⟩ := eb
   unfold Ent.val at PA PB
   simp only at *
   have HEA := dH EA
   have HEB := dH EB
   obtain ⟨k0, k1, k2, k3⟩ := EA
   obtain ⟨j0, j1, j2, j3⟩ := EB
   simp only at k0 k1 k2 k3 j0 j1 j2 j3
   generalize hm : k + 1 = m at *
   have HM := dH hm
   have t1 : (0 : Int) ≤ (k : Int) := by omega
   have t2 : (k : Int) < (es.length : Int) := by omega
   have t3 : IntKind.i64.wrap ((m : Int) - 1) = (k : Int) := by rw [IntKind.wrap_i64]; omega
   have t4 : (0 : Int) ≤ (m : Int) := by omega
   clear hc hinv HV hm
   go_wp2
   go_region_held3 (fun W => W.cell? ⟨b, off + k * 4, none⟩ = some (.int .i64 x) ∧ W.cell? ⟨b, off + k * 4 + 1, none⟩ = some (.int .i64 wv) ∧ W.cell? ⟨b, off + k * 4 + 2, none⟩ = some (.bool ho) ∧ W.cell? ⟨b, off + k * 4 + 3, none⟩ = some (.string d) ∧ W.cell? ⟨b, off + m * 4, none⟩ = some (.int .i64 y) ∧ W.cell? ⟨b, off + m * 4 + 1, none⟩ = some (.int .i64 wv') ∧ W.cell? ⟨b, off + m * 4 + 2, none⟩ = some (.bool ho') ∧ W.cell? ⟨b, off + m * 4 + 3, none⟩ = some (.string d')) (first | exact ⟨q0, q1, q2, q3, r0, r1, r2, r3⟩ | exact ⟨p0, p1, p2, p3, s0, s1, s2, s3⟩ | go_keep)
    (first
     | (go_at_call 206; refine (dU PA _).mono ?_; rintro e w2 ⟨rfl, b2⟩; have hb2 := bT hb1 b2; obtain ⟨q0, q1, q2, q3⟩ := (dU HEA).below hb2; obtain ⟨r0, r1, r2, r3⟩ := (dU HEB).below hb2)
     | (go_at_call 206; refine (dU PB _).mono ?_; rintro e w2 ⟨rfl, b2⟩; have hb2 := bT hb1 b2; obtain ⟨q0, q1, q2, q3⟩ := (dU HEA).below hb2; obtain ⟨r0, r1, r2, r3⟩ := (dU HEB).below hb2)
     | (go_at_call 206; refine (dU PA _).mono ?_; rintro e w1 ⟨rfl, b1⟩; have hb1 := bT (Below.refl wr.heap.size wr).drew b1; obtain ⟨p0, p1, p2, p3⟩ := (dU HEA).below hb1; obtain ⟨s0, s1, s2, s3⟩ := (dU HEB).below hb1)
     | (go_at_call 206; refine (dU PB _).mono ?_; rintro e w1 ⟨rfl, b1⟩; have hb1 := bT (Below.refl wr.heap.size wr).drew b1; obtain ⟨p0, p1, p2, p3⟩ := (dU HEA).below hb1; obtain ⟨s0, s1, s2, s3⟩ := (dU HEB).below hb1))
   all_goals
    have BB := bT hb hb2
    clear hb1 b2 b1 q0 q1 q2 q3 r0 r1 r2 r3 p0 p1 p2 p3 s0 s1 s2 s3 k0 k1 k2 k3 j0 j1 j2 j3 HEA HEB PA PB hb hb2
    by_cases hxy : y ≤ x
    ·have hd : decide (y ≤ x) = true := decide_eq_true hxy
     have R := dH (dU hno (by omega))
     go_wp2
     go_ret
     exact ⟨RetB.no (dU R), BB⟩
    ·have hd : decide (y ≤ x) = false := decide_eq_false hxy
     have R := dH (dU hst (by omega))
     go_wp2
     go_roundw
     case rel => have := dU HM; subst this; exact ⟨k + 1, by go_num, by omega, R, BB⟩
     case measure => have := dU HM; subst this; simp [intOf]; omega
  ·have hyes : Hid (ascE es) := fun i h => dU hinv i h (by omega)
   clear hinv HV
   go_wp2
   go_ret
   exact ⟨RetB.yes (dU hyes), hb⟩
end Go.Proofs.YtjkjmapibcfcdaaGreat
