/- impl's Rest. -/
import Derived.Test.YtapfdmmfhfkhkaaGreatGaG
import Derived.Test.YtapfdmmfhfkhkaaGreatImpDc
namespace Go.Proofs.YtapfdmmfhfkhkaaGreat
open Go.ChangeShapes Go.WideShapes Go.ChangeAt Go.RowKit
set_option linter.unusedVariables false

theorem less_asc {set list : List Int} (h : set.Pairwise (· < ·)) : (lessL set list).Pairwise (· < ·) := h.filter _
/-- Rest of what is right. -/
theorem implRest_yes (sv u v : Value) (ds xs ys : List Int) (cop : Int) (w : World) (hd : Ns w sv ds) (hu : Ns w u xs) (hv : Ns w v ys) (had : allInt ds) (hax : allInt xs) (hay : allInt ys) (hld : ds.length ≤ 1048576) (hlx : xs.length ≤ 1048576) (hly : ys.length ≤ 1048576) (c0 : -9223372036854775808 ≤ cop) (c1 : cop ≤ 9223372036854775807) (hn : nodesP ds cop xs) (hm : nodesP ds cop ys) :
    Calls Tryz.prog 111 #[.agg #[sv, .int .i64 cop], u, v] w fun e w' => (∃ o, e = .returned o ∧ OwnN w' w.heap.size o (lessL xs ys)) ∧ Below w.heap.size w w' := by
  have hb0 : ∀ o, Below w.heap.size w (w.alloc o) := fun o => (Below.refl _ _).alloc (Nat.le_refl _) o
  have C1 := dHide fun W (hb : Below w.heap.size w W) => implNodes_any sv u ds xs cop W (hd.below hb) (hu.below hb) had hax hld hlx c0 c1
  have C2 := dHide fun W (hb : Below w.heap.size w W) => implNodes_any sv v ds ys cop W (hd.below hb) (hv.below hb) had hay hld hly c0 c1
  have C3 := dHide fun W (hb : Below w.heap.size w W) => setOf_any u xs W (hu.below hb) hax hlx
  rw [dedL_nodes hn] at C3
  have C4 := dHide fun W (hb : Below w.heap.size w W) => setOf_any v ys W (hv.below hb) hay hly
  rw [dedL_nodes hm] at C4
  have C5 := dHide fun b c W hb hc => setWithout_any b c xs ys W hb hc hlx
  have C6 := dHide fun b W hb => setSorted_any b (lessL xs ys) W hb (less_asc (nodes_asc hn)) (Nat.le_trans (lessL_len _ _) hlx)
  have HN := dHide hn
  have HM := dHide hm
  clear hn hm had hax hay
  obtain ⟨h0, a, cap, rfl, -, -⟩ := hd
  obtain ⟨h0', a', cap', rfl, -, -⟩ := hu
  obtain ⟨h0'', a'', cap'', rfl, -, -⟩ := hv
  go_enter Tryz.func111, Tryz.ntmps111
  go_wp2_with fail
  have T0 := Two.new w (.slice a ds.length cap) (.int .i64 cop) 26
  refine (dUnhide C1 _ (hb0 _)).mono ?_
  rintro e w1 ⟨hr, b1⟩
  obtain rfl := hr.of_yes (dUnhide HN)
  obtain ⟨k0, k1⟩ := T0.kept b1
  have B1 := belowThen (hb0 _) b1
  clear hr b1 hb0 C1 T0
  go_wp2_with fail
  refine (dUnhide C2 _ B1).mono ?_
  rintro e w2 ⟨hr, b2⟩
  obtain rfl := hr.of_yes (dUnhide HM)
  have B2 := belowThen B1 b2
  clear hr b2 B1 C2 k0 k1
  go_wp2_with fail
  refine (dUnhide C3 _ B2).mono ?_
  rintro e w3 ⟨rfl, s3, b3⟩
  have B3 := belowThen B2 b3
  clear b3 C3
  go_wp2_with fail
  refine (dUnhide C4 _ B3).mono ?_
  rintro e w4 ⟨rfl, s4, b4⟩
  have B4 := belowThen B3 b4
  have S3 := s3.below b4
  clear b4 C4 s3
  go_wp2_with fail
  refine (dUnhide C5 _ _ _ S3 s4).mono ?_
  rintro e w5 ⟨rfl, s5, b5⟩
  have B5 := belowThen B4 b5
  clear b5 C5 S3 s4
  go_wp2_with fail
  refine (dUnhide C6 _ _ s5).mono ?_
  rintro e w6 ⟨⟨o, rfl, o6⟩, b6⟩
  have B6 := belowThen B5 b6
  have q6 := dHide (o6.mono B5.size)
  clear o6 b6 C6 s5 B5
  go_wp2
  go_ret
  exact ⟨⟨_, rfl, dUnhide q6⟩, B6⟩
theorem ownN_nil (w : World) (base : Nat) : OwnN w base (.slice none 0 0) [] := ⟨by simp, _, _, rfl, by simp, .inl rfl⟩
theorem implRest_no (sv u v : Value) (ds xs ys : List Int) (cop : Int) (w : World) (hd : Ns w sv ds) (hu : Ns w u xs) (hv : Ns w v ys) (had : allInt ds) (hax : allInt xs) (hay : allInt ys) (hld : ds.length ≤ 1048576) (hlx : xs.length ≤ 1048576) (hly : ys.length ≤ 1048576) (c0 : -9223372036854775808 ≤ cop) (c1 : cop ≤ 9223372036854775807) (hn : ¬ (nodesP ds cop xs ∧ nodesP ds cop ys)) :
    Calls Tryz.prog 111 #[.agg #[sv, .int .i64 cop], u, v] w fun e w' => (∃ o, e = .returned o ∧ OwnN w' w.heap.size o []) ∧ Below w.heap.size w w' := by
  have hb0 : ∀ o, Below w.heap.size w (w.alloc o) := fun o => (Below.refl _ _).alloc (Nat.le_refl _) o
  have C1 := dHide fun W (hb : Below w.heap.size w W) => implNodes_any sv u ds xs cop W (hd.below hb) (hu.below hb) had hax hld hlx c0 c1
  have C2 := dHide fun W (hb : Below w.heap.size w W) => implNodes_any sv v ds ys cop W (hd.below hb) (hv.below hb) had hay hld hly c0 c1
  clear had hax hay
  obtain ⟨h0, a, cap, rfl, -, -⟩ := hd
  obtain ⟨h0', a', cap', rfl, -, -⟩ := hu
  obtain ⟨h0'', a'', cap'', rfl, -, -⟩ := hv
  by_cases h1 : nodesP ds cop xs
  · have HN := dHide h1
    have HM := dHide fun h => hn ⟨h1, h⟩
    clear h1 hn
    go_enter Tryz.func111, Tryz.ntmps111
    go_wp2_with fail
    have T0 := Two.new w (.slice a ds.length cap) (.int .i64 cop) 26
    refine (dUnhide C1 _ (hb0 _)).mono ?_
    rintro e w1 ⟨hr, b1⟩
    obtain rfl := hr.of_yes (dUnhide HN)
    obtain ⟨k0, k1⟩ := T0.kept b1
    have B1 := belowThen (hb0 _) b1
    clear hr b1 hb0 C1 T0
    go_wp2_with fail
    refine (dUnhide C2 _ B1).mono ?_
    rintro e w2 ⟨hr, b2⟩
    obtain rfl := hr.of_no (dUnhide HM)
    have B2 := belowThen B1 b2
    clear hr b2 B1 C2 k0 k1
    go_wp2
    go_ret
    exact ⟨⟨_, rfl, ownN_nil _ _⟩, B2⟩
  · have HN := dHide h1
    clear h1 hn
    go_enter Tryz.func111, Tryz.ntmps111
    go_wp2_with fail
    refine (dUnhide C1 _ (hb0 _)).mono ?_
    rintro e w1 ⟨hr, b1⟩
    obtain rfl := hr.of_no (dUnhide HN)
    have B1 := belowThen (hb0 _) b1
    clear hr b1 hb0 C1
    go_wp2
    go_ret
    exact ⟨⟨_, rfl, ownN_nil _ _⟩, B1⟩
end Go.Proofs.YtapfdmmfhfkhkaaGreat
