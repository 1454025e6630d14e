/- impl's Rest. -/
import Derived.Test.YtajoncomhdimnaaGreatGaG
import Derived.Test.YtajoncomhdimnaaGreatImpDc
namespace Go.Proofs.YtajoncomhdimnaaGreat
open Go.ChangeShapes Go.WideShapes Go.ChangeAt Go.RowKit
set_option linter.unusedVariables false

theorem less_asc {set list : List Int} (h : set.Pairwise (· < ·)) : (lessL set list).Pairwise (· < ·) := h.filter _
theorem implRest_yes (sv u v : Value) (ds xs ys : List Int) (cop : Int) (w : World) (hd : Ns w sv ds) (hu : Ns w u xs) (hv : Ns w v ys) (had : allInt ds) (hax : allInt xs) (hay : allInt ys) (hld : ds.length ≤ 1048576) (hlx : xs.length ≤ 1048576) (hly : ys.length ≤ 1048576) (c0 : -9223372036854775808 ≤ cop) (c1 : cop ≤ 9223372036854775807) (hn : nodesP ds cop xs) (hm : nodesP ds cop ys) :
  Calls Tryz.prog 78 #[.agg #[sv, .int .i64 cop], u, v] w fun e w' => (∃ o, e = .returned o ∧ OwnN w' w.heap.size o (lessL xs ys)) ∧ Below w.heap.size w w' := by
 have hb0 : ∀ o, Below w.heap.size w (w.alloc o) := fun o => (Below.refl _ _).alloc (Nat.le_refl _) o
 have C1 := dH fun W (hb : Below w.heap.size w W) => implNodes_any sv u ds xs cop W (hd.below hb) (hu.below hb) had hax hld hlx c0 c1
 have C2 := dH fun W (hb : Below w.heap.size w W) => implNodes_any sv v ds ys cop W (hd.below hb) (hv.below hb) had hay hld hly c0 c1
 have C3 := dH fun W (hb : Below w.heap.size w W) => setOf_any u xs W (hu.below hb) hax hlx
 rw [dedL_nodes hn] at C3
 have C4 := dH fun W (hb : Below w.heap.size w W) => setOf_any v ys W (hv.below hb) hay hly
 rw [dedL_nodes hm] at C4
 have C5 := dH fun b c W hb hc => setWithout_any b c xs ys W hb hc hlx
 have C6 := dH fun b W hb => setSorted_any b (lessL xs ys) W hb (less_asc (nodes_asc hn)) (Nat.le_trans (lessL_len _ _) hlx)
 have HN := dH hn
 have HM := dH hm
 clear hn hm had hax hay
 obtain ⟨h0, a, cap, rfl, -, -⟩ := hd
 obtain ⟨h0', a', cap', rfl, -, -⟩ := hu
 obtain ⟨h0'', a'', cap'', rfl, -, -⟩ := hv
 go_enter Tryz.func78, Tryz.ntmps78
 go_wp2_with fail
 have T0 := Two.new w (.slice a ds.length cap) (.int .i64 cop) 26
 refine (dU C1 _ (hb0 _)).mono ?_
 rintro e w1 ⟨hr, b1⟩
 obtain rfl := hr.of_yes (dU HN)
 obtain ⟨k0, k1⟩ := T0.kept b1
 have B1 := bT (hb0 _) b1
 clear hr b1 hb0 C1 T0
 go_wp2_with fail
 refine (dU C2 _ B1).mono ?_
 rintro e w2 ⟨hr, b2⟩
 obtain rfl := hr.of_yes (dU HM)
 have B2 := bT B1 b2
 clear hr b2 B1 C2 k0 k1
 go_wp2_with fail
 refine (dU C3 _ B2).mono ?_
 rintro e w3 ⟨rfl, s3, b3⟩
 have B3 := bT B2 b3
 clear b3 C3
 go_wp2_with fail
 refine (dU C4 _ B3).mono ?_
 rintro e w4 ⟨rfl, s4, b4⟩
 have B4 := bT B3 b4
 have S3 := s3.below b4
 clear b4 C4 s3
 go_wp2_with fail
 refine (dU C5 _ _ _ S3 s4).mono ?_
 rintro e w5 ⟨rfl, s5, b5⟩
 have B5 := bT B4 b5
 clear b5 C5 S3 s4
 go_wp2_with fail
 refine (dU C6 _ _ s5).mono ?_
 rintro e w6 ⟨⟨o, rfl, o6⟩, b6⟩
 have B6 := bT B5 b6
 have q6 := dH (o6.mono B5.size)
 clear o6 b6 C6 s5 B5
 go_wp2
 go_ret
 exact ⟨⟨_, rfl, dU q6⟩, B6⟩
end Go.Proofs.YtajoncomhdimnaaGreat
