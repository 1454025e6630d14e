/- Several texts in one: ImpDc, ImpDf. -/
import Derived.Test.YtjkjmapibcfcdaaGreatGaG
import Derived.Test.YtjkjmapibcfcdaaGreatShelf
import Derived.Sort.OwnSortedInts
import Derived.Sort.OwnSorted
namespace Go.Proofs.YtjkjmapibcfcdaaGreat
open Go.ChangeShapes Go.WideShapes Go.ChangeAt Go.RowKit
set_option linter.unusedVariables false
theorem sort_perm {ms xs : List Int} (hp : ms.Perm xs) (ha : xs.Pairwise (· < ·)) : ms.mergeSort (fun x y => decide (x ≤ y)) = xs := by
 have tr : ∀ a b c : Int, decide (a ≤ b) = true → decide (b ≤ c) = true → decide (a ≤ c) = true := fun a b c h1 h2 => by simp only [decide_eq_true_eq] at *; omega
 have tto : ∀ a b : Int, (decide (a ≤ b) || decide (b ≤ a)) = true := fun a b => by simp only [Bool.or_eq_true, decide_eq_true_eq]; omega
 refine List.Perm.eq_of_pairwise (le := fun a b : Int => a ≤ b) (fun a b _ _ h1 h2 => by omega) ?_ (ha.imp fun {a b} h => by omega) ((List.mergeSort_perm ms _).trans hp)
 have := List.pairwise_mergeSort tr tto ms
 exact this.imp fun {a b} h => of_decide_eq_true h
theorem rowN_ne_iter {w : World} {b r : Nat} {xs ys : List Int} {base n : Nat} {v : Value} {cs : List Value} (h : w.ownsRow base 3 1 v n cs) (hr : RangeN w b r xs ys) : some r ≠ v.ownBlock := by
 obtain ⟨-, -, -, -, D, left, cnt, h5, -⟩ := hr
 exact row_ne_iter h h5
theorem sortN (base g cap : Nat) (ms xs : List Int) (w : World) (hrow : w.ownsRow base 3 1 (.slice (some ⟨g, 0, none⟩) ms.length cap) ms.length (ncells ms)) (hp : ms.Perm xs) (ha : xs.Pairwise (· < ·)) (hl : ms.length ≤ 1048576) :
  Calls Tryz.prog 139 #[.slice (some ⟨g, 0, none⟩) ms.length cap] w fun e w' => e = .returned (.tuple #[]) ∧ OwnN w' base (.slice (some ⟨g, 0, none⟩) ms.length cap) xs ∧ w.grownBy w' (some g) ∧ base ≤ g := by
 rcases hrow.2 with ⟨hnil, _⟩ | ⟨g', cap', cur, hv, hbase, hbk, h1, h2, h3, h4⟩
 ·cases hnil
 cases hv
 have hH : Go.Sort.Holds (Value.int .i64) w g 0 ms.toArray := holds_of_blockI hbk (by simpa [ncells] using h4)
 have hgl : g < w.heap.size := (Array.getElem?_eq_some_iff.1 hbk).1
 refine (Tryz.slices_Sort_int g 0 cap ms w hH hgl (by omega)).mono ?_
 rintro e w' ⟨rfl, nn, os, rfl⟩
 refine ⟨rfl, ?_, grownBy_sortedI _, hbase⟩
 have q := ownsRow_sortedI (n := nn) (os := os) (ts := ms.mergeSort (fun x y => decide (x ≤ y))) (ss := ms) (by simp) hbase hbk h1 h2 h3
 rw [sort_perm hp ha] at q
 rw [sort_perm hp ha]
 have hpl := hp.length_eq
 exact ownN_of_row q
set_option maxHeartbeats 2000000 in
theorem setSorted_any (b : Nat) (xs : List Int) (w : World) (hx : SetN w b xs) (ha : xs.Pairwise (· < ·)) (hl : xs.length ≤ 1048576) :
  Calls Tryz.prog 114 #[.map (some b)] w fun e w' => (∃ o, e = .returned o ∧ OwnN w' w.heap.size o xs) ∧ Below w.heap.size w w' := by
 obtain ⟨i0, hi, hz0, hz1, hz2⟩ := info_parts infoI
 have hbl := dH hx.lt
 have hh := dH hx
 have HA := dH ha
 have I0 := dH hi
 have Z0 := dH hz0
 have Z1 := dH hz1
 have Z2 := dH hz2
 clear hx ha hi hz0 hz1 hz2
 go_enter Tryz.func114, Tryz.ntmps114
 go_wp2_with (first
  | (at_len; refine wp_setLen _ rfl _ rfl b xs rfl (dU hh) ?_)
  | (at_make; refine wpList_make_own _ rfl _ _ 24 rfl w.heap.size 3 i0 (.int .i64 0) 1 Tryz.underlying24 (dU I0) (dU Z0) (dU Z1) _ _ _ xs.length rfl rfl rfl (by rw [dU Z2]; omega) (by unfold maxLen; omega) (Nat.le_refl _) ?_; intro w1 hrow1 hg1)
  | (at_range; refine wp_setRange _ rfl _ rfl b xs rfl ((dU hh).kept hg1 (by simp)) ?_; intro w0 hrg0 hg0 hs0)
  | go_in)
 go_frame
 have hb0 : Below w.heap.size w w0 := ((Below.refl _ _).grown hg1 (Nat.le_refl _) (fun j hj => by cases hj)).grown hg0 hg1.size (fun j hj => by cases hj)
 have hrow0 : w0.ownsRow w.heap.size 3 1 (.slice (some ⟨w.heap.size, 0, none⟩) 0 xs.length) 0 [] := hrow1.kept hg0 (Or.inr (by simp [Value.ownBlock]))
 have S1 := dH hg1.size
 obtain ⟨r, hr⟩ : ∃ r, r = w1.heap.size := ⟨_, rfl⟩
 rw [← hr] at hrg0 hs0 S1 ⊢
 clear hs0 hrow1 hg0 hg1 hr
 go_loopw [3] (fun v wr => ∃ ms, RangeN wr b r xs ms ∧ wr.ownsRow w.heap.size 3 1 v ms.length (ncells ms) ∧ v ≠ .slice none 0 0 ∧ Below w.heap.size w wr) (fun _ wr => wr.rangeLeft b r)
 case atStart => exact ⟨[], hrg0, hrow0, by simp, hb0⟩
 case round =>
  obtain ⟨ms, hrg, hrow, hnn, hb⟩ := hrel
  clear hrg0 hrow0 hb0
  have hml := dH hrg
  have hlen := len_le_of_sub hrg.2.2.1 xs hrg.2.2.2.1
  go_wp2_with (first
   | (at_next; refine wp_setNext _ rfl _ rfl b r xs ms rfl hrg ?_ ?_)
   | go_in)
  ·intro hp
   rcases hrow.2 with ⟨hnil, _⟩ | ⟨g, cap, cur, rfl, hbase, hbk, h1, h2, h3, h4⟩
   ·exact absurd hnil hnn
   have hc := dH (sortN w.heap.size g cap ms xs wr hrow hp (dU HA) (by omega))
   clear hp HA hrow hml hnn hbk h4 hrg
   go_wp2_with (go_at_call 139; refine (dU hc).mono ?_; rintro e w' ⟨rfl, q, hgw, hbg⟩)
   go_ret
   exact ⟨⟨_, rfl, q⟩, hb.grown hgw hb.size (fun j hj => by cases hj; exact hbg)⟩
  ·intro x w2 hx hxm hrg2 hlt hg2 hen
   have hrow2 := hrow.kept hg2 (Or.inr (rowN_ne_iter hrow hrg).symm)
   have hb2 : Below w.heap.size w w2 := hb.grown hg2 hb.size (fun j hj => by cases hj; exact dU S1)
   have HL := dH hlt
   have HR := dH hrg2
   have hrl := dH hrow2.lt
   have hlen' := len_le_of_sub hrg2.2.2.1 xs hrg2.2.2.2.1
   have hl1 : ms.length ≤ 1048576 := by omega
   clear hx hxm hrg hg2 hb hlt hrg2 hrow hml hnn hlen hlen'
   go_wp2_with (at_builtin; refine appN _ rfl _ _ rfl w.heap.size _ ms rfl (hrow2.alloc _) ⟨w2.heap.size, 0, none⟩ 1 1 [x] rfl rfl (one_int _ _ _) ?c3 ?c4 ?_)
   case c3 => simp; omega
   case c4 => have := hb2.size; simp; omega
   intro v' w3 hown3 hg3
   have n1 := row_ne_low hrow2 (dU hbl)
   have n2 := rowN_ne_iter hrow2 (dU HR)
   have hrg3 := ((dU HR).alloc (.cells #[.int .i64 x] 3)).kept hg3 n1 n2
   have HL3 := dH (((dU HR).alloc (.cells #[.int .i64 x] 3)).left_kept hg3 n1 n2)
   have HL4 := dH ((dU HR).left_kept (World.grownBy_alloc w2 (.cells #[.int .i64 x] 3) none) (by simp) (by simp))
   have hb3 : Below w.heap.size w w3 := (hb2.alloc hb2.size _).grown hg3 (by have := hb2.size; simp; omega) (fun k hk => (dU hrl k hk).1)
   have hown4 := own_lenN hown3
   have hnn4 : Hid (v' ≠ .slice none 0 0) := fun hv => by
    rcases hown4.2 with ⟨-, hn⟩ | ⟨g, cap, cur, hv', -⟩
    ·simp at hn
    ·rw [hv'] at hv
     cases hv
   clear hown3 hg3 n1 n2 hrow2 hen hb2
   go_wp2
   go_roundw
   case rel => exact ⟨_, hrg3, hown4, dU hnn4, hb3⟩
   case measure => rw [dU HL3, dU HL4]; exact dU HL
theorem less_asc {set list : List Int} (h : set.Pairwise (· < ·)) : (lessL set list).Pairwise (· < ·) := h.filter _
theorem implRest_yes (sv u v : Value) (ds xs ys : List Int) (cop : Int) (w : World) (hd : Ns w sv ds) (hu : Ns w u xs) (hv : Ns w v ys) (had : allInt ds) (hax : allInt xs) (hay : allInt ys) (hld : ds.length ≤ 1048576) (hlx : xs.length ≤ 1048576) (hly : ys.length ≤ 1048576) (c0 : -9223372036854775808 ≤ cop) (c1 : cop ≤ 9223372036854775807) (hn : nodesP ds cop xs) (hm : nodesP ds cop ys) :
  Calls Tryz.prog 66 #[.agg #[sv, .int .i64 cop], u, v] w fun e w' => (∃ o, e = .returned o ∧ OwnN w' w.heap.size o (lessL xs ys)) ∧ Below w.heap.size w w' := by
 have hb0 : ∀ o, Below w.heap.size w (w.alloc o) := fun o => (Below.refl _ _).alloc (Nat.le_refl _) o
 have C1 := dH fun W (hb : Below w.heap.size w W) => implNodes_any sv u ds xs cop W (hd.below hb) (hu.below hb) had hax hld hlx c0 c1
 have C2 := dH fun W (hb : Below w.heap.size w W) => implNodes_any sv v ds ys cop W (hd.below hb) (hv.below hb) had hay hld hly c0 c1
 have C3 := dH fun W (hb : Below w.heap.size w W) => setOf_any u xs W (hu.below hb) hax hlx
 rw [dedL_nodes hn] at C3
 have C4 := dH fun W (hb : Below w.heap.size w W) => setOf_any v ys W (hv.below hb) hay hly
 rw [dedL_nodes hm] at C4
 have C5 := dH fun b c W hb hc => setWithout_any b c xs ys W hb hc hlx
 have C6 := dH fun b W hb => setSorted_any b (lessL xs ys) W hb (less_asc (nodes_asc hn)) (Nat.le_trans (lessL_len _ _) hlx)
 have HN := dH hn
 have HM := dH hm
 clear hn hm had hax hay
 obtain ⟨h0, a, cap, rfl, -, -⟩ := hd
 obtain ⟨h0', a', cap', rfl, -, -⟩ := hu
 obtain ⟨h0'', a'', cap'', rfl, -, -⟩ := hv
 go_enter Tryz.func66, Tryz.ntmps66
 go_wp2_with fail
 have T0 := Two.new w (.slice a ds.length cap) (.int .i64 cop) 26
 refine (dU C1 _ (hb0 _)).mono ?_
 rintro e w1 ⟨hr, b1⟩
 obtain rfl := hr.of_yes (dU HN)
 obtain ⟨k0, k1⟩ := T0.kept b1
 have B1 := bT (hb0 _) b1
 clear hr b1 hb0 C1 T0
 go_wp2_with fail
 refine (dU C2 _ B1).mono ?_
 rintro e w2 ⟨hr, b2⟩
 obtain rfl := hr.of_yes (dU HM)
 have B2 := bT B1 b2
 clear hr b2 B1 C2 k0 k1
 go_wp2_with fail
 refine (dU C3 _ B2).mono ?_
 rintro e w3 ⟨rfl, s3, b3⟩
 have B3 := bT B2 b3
 clear b3 C3
 go_wp2_with fail
 refine (dU C4 _ B3).mono ?_
 rintro e w4 ⟨rfl, s4, b4⟩
 have B4 := bT B3 b4
 have S3 := s3.below b4
 clear b4 C4 s3
 go_wp2_with fail
 refine (dU C5 _ _ _ S3 s4).mono ?_
 rintro e w5 ⟨rfl, s5, b5⟩
 have B5 := bT B4 b5
 clear b5 C5 S3 s4
 go_wp2_with fail
 refine (dU C6 _ _ s5).mono ?_
 rintro e w6 ⟨⟨o, rfl, o6⟩, b6⟩
 have B6 := bT B5 b6
 have q6 := dH (o6.mono B5.size)
 clear o6 b6 C6 s5 B5
 go_wp2
 go_ret
 exact ⟨⟨_, rfl, dU q6⟩, B6⟩
end Go.Proofs.YtjkjmapibcfcdaaGreat
