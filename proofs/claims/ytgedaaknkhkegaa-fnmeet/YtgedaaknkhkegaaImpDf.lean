/- impl's Holds, Rest. -/
import Derived.Test.YtgedaaknkhkegaaImpDe
namespace Go.Proofs.Ytgedaaknkhkegaa
open Go.ChangeShapes Go.WideShapes Go.ChangeAt Go.RowKit
set_option linter.unusedVariables false

set_option maxHeartbeats 2000000 in
theorem implHolds_any (sv v : Value) (ds xs : List Int) (cop : Int) (w : World) (hd : Ns w sv ds) (hv : Ns w v xs) (had : allInt ds) (hax : allInt xs) (hld : ds.length ≤ 1048576) (hlx : xs.length ≤ 1048576) (c0 : -9223372036854775808 ≤ cop) (c1 : cop ≤ 9223372036854775807) :
    Calls Try.prog 16 #[.agg #[sv, .int .i64 cop], v] w fun e w' => RetB (holdsP ds cop xs) e ∧ Below w.heap.size w w' := by
  have hb0 : ∀ o, Below w.heap.size w (w.alloc o) := fun o => (Below.refl _ _).alloc (Nat.le_refl _) o
  have C1 := dHide fun W (hb : Below w.heap.size w W) => implNodes_any sv v ds xs cop W (hd.below hb) (hv.below hb) had hax hld hlx c0 c1
  have C2 := dHide fun W (hb : Below w.heap.size w W) hn => implSpan_yes sv v ds xs cop W (hd.below hb) (hv.below hb) had hax hld hlx c0 c1 hn
  clear had hax
  obtain ⟨h0, a, cap, rfl, -, -⟩ := hd
  obtain ⟨h0', a', cap', rfl, -, -⟩ := hv
  by_cases hn : nodesP ds cop xs
  · have HN := dHide hn
    have C2 := dHide fun W hb => dUnhide C2 W hb hn
    have R : RetB (holdsP ds cop xs) (.returned (.bool (decide (cop ≤ (spanN ds xs : Int))))) := ⟨_, rfl, fun h => ⟨hn, of_decide_eq_true h⟩, fun h => decide_eq_true h.2⟩
    clear hn
    generalize (spanN ds xs : Int) = N at *
    go_enter Try.func16, Try.ntmps16
    go_wp2
    have T0 := Two.new w (.slice a ds.length cap) (.int .i64 cop) 26
    have B0 := hb0 (.cells #[.slice a ds.length cap, .int .i64 cop] 26)
    generalize hW : w.alloc (.cells #[.slice a ds.length cap, .int .i64 cop] 26) = w0 at *
    clear hW hb0
    have HT := dHide T0
    obtain ⟨k0, k1⟩ := T0
    have hbr := Below.refl w0.heap.size w0
    go_region_held3 (fun W => W.cell? ⟨w.heap.size, 0, none⟩ = some (.slice a ds.length cap) ∧ W.cell? ⟨w.heap.size, 1, none⟩ = some (.int .i64 cop)) (go_keep)
      (first
        | (go_at_call 25; refine (dUnhide C1 _ (belowThen B0 hbr.drew)).mono ?_; rintro e w1 ⟨hr, b1⟩; obtain rfl := hr.of_yes (dUnhide HN); have hb1 := belowThen hbr.drew b1; obtain ⟨q0, q1⟩ := (dUnhide HT).kept hb1)
        | (go_at_call 26; refine (dUnhide C2 _ (belowThen B0 hb1)).mono ?_; rintro e w2 ⟨rfl, b2⟩; have hb2 := belowThen hb1 b2; obtain ⟨q0, q1⟩ := (dUnhide HT).kept hb2))
    all_goals
      go_wp2
      go_ret
      exact ⟨R, belowThen B0 hb2⟩
  · have HN := dHide hn
    have R : RetB (holdsP ds cop xs) (.returned (.bool false)) := RetB.no fun h => hn h.1
    clear hn C2
    go_enter Try.func16, Try.ntmps16
    go_wp2
    have T0 := Two.new w (.slice a ds.length cap) (.int .i64 cop) 26
    have B0 := hb0 (.cells #[.slice a ds.length cap, .int .i64 cop] 26)
    generalize hW : w.alloc (.cells #[.slice a ds.length cap, .int .i64 cop] 26) = w0 at *
    clear hW hb0
    have HT := dHide T0
    obtain ⟨k0, k1⟩ := T0
    have hbr := Below.refl w0.heap.size w0
    refine wp_region_noPanic ?_
    refine wp_region_held_drew (S := fun W => W.cell? ⟨w.heap.size, 0, none⟩ = some (.slice a ds.length cap) ∧ W.cell? ⟨w.heap.size, 1, none⟩ = some (.int .i64 cop)) (by kernel_rfl) ?_ (fun hHeld => ?_)
    · go_keep
    refine wpAnyH_take (i := 0) (oi := { dst := some 5, op := Op.load 26 (Operand.tmp 2), type := 26, pos := "l04_domain.go:108", after := #[], guard := none }) (v := ?_) rfl (by kernel_rfl) (by kernel_rfl) (by kernel_rfl) (fun _ _ _ h => h) (Or.inl ⟨by rfl, ?_⟩) (by assumption) ?_
    rotate_left 1
    · intro w hSw
      (try dsimp only at hSw)
      first | (go_simp; done) | (go_simp; with_reducible rfl)
    try simp only [Act.put, List.setIfInBounds_toArray, List.set_cons_zero, List.set_cons_succ]
    refine wpAnyH_take (i := 1) (oi := { dst := some 6, op := Op.move (Operand.tmp 1), type := 24, pos := "l04_domain.go:108", after := #[], guard := none }) (v := ?_) rfl (by kernel_rfl) (by kernel_rfl) (by kernel_rfl) (fun _ _ _ h => h) (Or.inl ⟨by rfl, ?_⟩) (by assumption) ?_
    rotate_left 1
    · intro w hSw
      (try dsimp only at hSw)
      first | (go_simp; done) | (go_simp; with_reducible rfl)
    try simp only [Act.put, List.setIfInBounds_toArray, List.set_cons_zero, List.set_cons_succ]
    refine wpAnyH_ready (rs := [2]) (by kernel_rfl) (by simp) ?_
    refine AllReadyH.cons (o := { dst := some 7, op := Op.call { callee := Callee.value (Operand.func 25), args := #[Operand.tmp 5, Operand.tmp 6], argTypes := #[26, 24] }, type := 4, pos := "l04_domain.go:108", after := #[{ on := 0, ground := Ground.data }, { on := 1, ground := Ground.data }], guard := none }) rfl (fun K hK => ?_) AllReadyH.nil
    go_simp
    refine (dUnhide C1 _ (belowThen B0 hbr.drew)).mono ?_
    rintro e w1 ⟨hr, b1⟩
    obtain rfl := hr.of_no (dUnhide HN)
    have hb1 := belowThen hbr.drew b1
    obtain ⟨q0, q1⟩ := (dUnhide HT).kept hb1
    (try go_wp2_with fail)
    refine hK.out _ _ ?_ (fun hHeld => ?_)
    · go_keep
    clear hK K
    try simp only [Act.put, List.setIfInBounds_toArray, List.set_cons_zero, List.set_cons_succ]
    refine wpAnyH_take (i := 3) (oi := { dst := some 8, op := Op.move (Operand.tmp 7), type := 4, pos := "l04_domain.go:108", after := #[{ on := 2, ground := Ground.data }, { on := 2, ground := Ground.chain }], guard := none }) (v := ?_) rfl (by kernel_rfl) (by kernel_rfl) (by kernel_rfl) (fun _ _ _ h => h) (Or.inl ⟨by rfl, ?_⟩) (by assumption) ?_
    rotate_left 1
    · intro w hSw
      (try dsimp only at hSw)
      first | (go_simp; done) | (go_simp; with_reducible rfl)
    try simp only [Act.put, List.setIfInBounds_toArray, List.set_cons_zero, List.set_cons_succ]
    refine wpAnyH_take (i := 4) (oi := { dst := some 9, op := Op.load 26 (Operand.tmp 2), type := 26, pos := "l04_domain.go:108", after := #[{ on := 3, ground := Ground.guard }], guard := some (3, true) }) (v := undef) rfl (by kernel_rfl) (by kernel_rfl) (by kernel_rfl) (fun _ _ _ h => h) (Or.inr ⟨by rfl, rfl⟩) (by assumption) ?_
    try simp only [Act.put, List.setIfInBounds_toArray, List.set_cons_zero, List.set_cons_succ]
    refine wpAnyH_take (i := 5) (oi := { dst := some 10, op := Op.move (Operand.tmp 1), type := 24, pos := "l04_domain.go:108", after := #[{ on := 3, ground := Ground.guard }], guard := some (3, true) }) (v := undef) rfl (by kernel_rfl) (by kernel_rfl) (by kernel_rfl) (fun _ _ _ h => h) (Or.inr ⟨by rfl, rfl⟩) (by assumption) ?_
    try simp only [Act.put, List.setIfInBounds_toArray, List.set_cons_zero, List.set_cons_succ]
    refine wpAnyH_take (i := 6) (oi := { dst := some 11, op := Op.call { callee := Callee.value (Operand.func 26), args := #[Operand.tmp 9, Operand.tmp 10], argTypes := #[26, 24] }, type := 3, pos := "l04_domain.go:108", after := #[{ on := 4, ground := Ground.data }, { on := 5, ground := Ground.data }, { on := 3, ground := Ground.chain }, { on := 3, ground := Ground.guard }], guard := some (3, true) }) (v := undef) rfl (by kernel_rfl) (by kernel_rfl) (by kernel_rfl) (fun _ _ _ h => h) (Or.inr ⟨by rfl, rfl⟩) (by assumption) ?_
    try simp only [Act.put, List.setIfInBounds_toArray, List.set_cons_zero, List.set_cons_succ]
    refine wpAnyH_take (i := 7) (oi := { dst := some 12, op := Op.fieldAddr 26 (Operand.tmp 2) 1, type := 0, pos := "l04_domain.go:108", after := #[{ on := 3, ground := Ground.guard }], guard := some (3, true) }) (v := undef) rfl (by kernel_rfl) (by kernel_rfl) (by kernel_rfl) (fun _ _ _ h => h) (Or.inr ⟨by rfl, rfl⟩) (by assumption) ?_
    try simp only [Act.put, List.setIfInBounds_toArray, List.set_cons_zero, List.set_cons_succ]
    refine wpAnyH_take (i := 8) (oi := { dst := some 13, op := Op.load 3 (Operand.tmp 12), type := 3, pos := "l04_domain.go:108", after := #[{ on := 7, ground := Ground.data }, { on := 3, ground := Ground.guard }], guard := some (3, true) }) (v := undef) rfl (by kernel_rfl) (by kernel_rfl) (by kernel_rfl) (fun _ _ _ h => h) (Or.inr ⟨by rfl, rfl⟩) (by assumption) ?_
    try simp only [Act.put, List.setIfInBounds_toArray, List.set_cons_zero, List.set_cons_succ]
    refine wpAnyH_take (i := 9) (oi := { dst := some 14, op := Op.binOp BinOp.geq 3 (Operand.tmp 11) (Operand.tmp 13) 3, type := 4, pos := "l04_domain.go:108", after := #[{ on := 6, ground := Ground.data }, { on := 8, ground := Ground.data }, { on := 3, ground := Ground.guard }], guard := some (3, true) }) (v := undef) rfl (by kernel_rfl) (by kernel_rfl) (by kernel_rfl) (fun _ _ _ h => h) (Or.inr ⟨by rfl, rfl⟩) (by assumption) ?_
    try simp only [Act.put, List.setIfInBounds_toArray, List.set_cons_zero, List.set_cons_succ]
    refine wpAnyH_take (i := 10) (oi := { dst := some 15, op := Op.pick (Operand.tmp 8) (Operand.tmp 14) (Operand.const (Value.bool false)), type := 4, pos := "l04_domain.go:108", after := #[{ on := 3, ground := Ground.data }, { on := 9, ground := Ground.data }], guard := none }) (v := ?_) rfl (by kernel_rfl) (by kernel_rfl) (by kernel_rfl) (fun _ _ _ h => h) (Or.inl ⟨by rfl, ?_⟩) (by assumption) ?_
    rotate_left 1
    · intro w hSw
      (try dsimp only at hSw)
      first | (go_simp; done) | (go_simp; with_reducible rfl)
    try simp only [Act.put, List.setIfInBounds_toArray, List.set_cons_zero, List.set_cons_succ]
    refine wpAnyH_take (i := 11) (oi := { dst := some 4, op := Op.assign (Operand.tmp 15), type := 4, pos := "l04_domain.go:108", after := #[{ on := 10, ground := Ground.data }, { on := 6, ground := Ground.chain }, { on := 0, ground := Ground.phase }, { on := 1, ground := Ground.phase }, { on := 2, ground := Ground.phase }, { on := 3, ground := Ground.phase }, { on := 4, ground := Ground.phase }, { on := 5, ground := Ground.phase }, { on := 6, ground := Ground.phase }, { on := 7, ground := Ground.phase }, { on := 8, ground := Ground.phase }, { on := 9, ground := Ground.phase }, { on := 10, ground := Ground.phase }], guard := none }) (v := ?_) rfl (by kernel_rfl) (by kernel_rfl) (by kernel_rfl) (fun _ _ _ h => h) (Or.inl ⟨by rfl, ?_⟩) (by assumption) ?_
    rotate_left 1
    · intro w hSw
      (try dsimp only at hSw)
      first | (go_simp; done) | (go_simp; with_reducible rfl)
    try simp only [Act.put, List.setIfInBounds_toArray, List.set_cons_zero, List.set_cons_succ]
    refine wpAnyH_done (by kernel_rfl) ?_ _
    refine NoPanic.normal ?_
    go_wp2
    go_ret
    exact ⟨R, belowThen B0 hb1⟩
theorem less_asc {set list : List Int} (h : set.Pairwise (· < ·)) : (lessL set list).Pairwise (· < ·) := h.filter _
/-- Rest of what is right. -/
theorem implRest_yes (sv u v : Value) (ds xs ys : List Int) (cop : Int) (w : World) (hd : Ns w sv ds) (hu : Ns w u xs) (hv : Ns w v ys) (had : allInt ds) (hax : allInt xs) (hay : allInt ys) (hld : ds.length ≤ 1048576) (hlx : xs.length ≤ 1048576) (hly : ys.length ≤ 1048576) (c0 : -9223372036854775808 ≤ cop) (c1 : cop ≤ 9223372036854775807) (hn : nodesP ds cop xs) (hm : nodesP ds cop ys) :
    Calls Try.prog 20 #[.agg #[sv, .int .i64 cop], u, v] w fun e w' => (∃ o, e = .returned o ∧ OwnN w' w.heap.size o (lessL xs ys)) ∧ Below w.heap.size w w' := by
  have hb0 : ∀ o, Below w.heap.size w (w.alloc o) := fun o => (Below.refl _ _).alloc (Nat.le_refl _) o
  have C1 := dHide fun W (hb : Below w.heap.size w W) => implNodes_any sv u ds xs cop W (hd.below hb) (hu.below hb) had hax hld hlx c0 c1
  have C2 := dHide fun W (hb : Below w.heap.size w W) => implNodes_any sv v ds ys cop W (hd.below hb) (hv.below hb) had hay hld hly c0 c1
  have C3 := dHide fun W (hb : Below w.heap.size w W) => setOf_any u xs W (hu.below hb) hax hlx
  rw [dedL_nodes hn] at C3
  have C4 := dHide fun W (hb : Below w.heap.size w W) => setOf_any v ys W (hv.below hb) hay hly
  rw [dedL_nodes hm] at C4
  have C5 := dHide fun b c W hb hc => setWithout_any b c xs ys W hb hc hlx
  have C6 := dHide fun b W hb => setSorted_any b (lessL xs ys) W hb (less_asc (nodes_asc hn)) (Nat.le_trans (lessL_len _ _) hlx)
  have HN := dHide hn
  have HM := dHide hm
  clear hn hm had hax hay
  obtain ⟨h0, a, cap, rfl, -, -⟩ := hd
  obtain ⟨h0', a', cap', rfl, -, -⟩ := hu
  obtain ⟨h0'', a'', cap'', rfl, -, -⟩ := hv
  go_enter Try.func20, Try.ntmps20
  go_wp2_with fail
  have T0 := Two.new w (.slice a ds.length cap) (.int .i64 cop) 26
  refine (dUnhide C1 _ (hb0 _)).mono ?_
  rintro e w1 ⟨hr, b1⟩
  obtain rfl := hr.of_yes (dUnhide HN)
  obtain ⟨k0, k1⟩ := T0.kept b1
  have B1 := belowThen (hb0 _) b1
  clear hr b1 hb0 C1 T0
  go_wp2_with fail
  refine (dUnhide C2 _ B1).mono ?_
  rintro e w2 ⟨hr, b2⟩
  obtain rfl := hr.of_yes (dUnhide HM)
  have B2 := belowThen B1 b2
  clear hr b2 B1 C2 k0 k1
  go_wp2_with fail
  refine (dUnhide C3 _ B2).mono ?_
  rintro e w3 ⟨rfl, s3, b3⟩
  have B3 := belowThen B2 b3
  clear b3 C3
  go_wp2_with fail
  refine (dUnhide C4 _ B3).mono ?_
  rintro e w4 ⟨rfl, s4, b4⟩
  have B4 := belowThen B3 b4
  have S3 := s3.below b4
  clear b4 C4 s3
  go_wp2_with fail
  refine (dUnhide C5 _ _ _ S3 s4).mono ?_
  rintro e w5 ⟨rfl, s5, b5⟩
  have B5 := belowThen B4 b5
  clear b5 C5 S3 s4
  go_wp2_with fail
  refine (dUnhide C6 _ _ s5).mono ?_
  rintro e w6 ⟨⟨o, rfl, o6⟩, b6⟩
  have B6 := belowThen B5 b6
  have q6 := dHide (o6.mono B5.size)
  clear o6 b6 C6 s5 B5
  go_wp2
  go_ret
  exact ⟨⟨_, rfl, dUnhide q6⟩, B6⟩
theorem ownN_nil (w : World) (base : Nat) : OwnN w base (.slice none 0 0) [] := ⟨by simp, _, _, rfl, by simp, .inl rfl⟩
theorem implRest_no (sv u v : Value) (ds xs ys : List Int) (cop : Int) (w : World) (hd : Ns w sv ds) (hu : Ns w u xs) (hv : Ns w v ys) (had : allInt ds) (hax : allInt xs) (hay : allInt ys) (hld : ds.length ≤ 1048576) (hlx : xs.length ≤ 1048576) (hly : ys.length ≤ 1048576) (c0 : -9223372036854775808 ≤ cop) (c1 : cop ≤ 9223372036854775807) (hn : ¬ (nodesP ds cop xs ∧ nodesP ds cop ys)) :
    Calls Try.prog 20 #[.agg #[sv, .int .i64 cop], u, v] w fun e w' => (∃ o, e = .returned o ∧ OwnN w' w.heap.size o []) ∧ Below w.heap.size w w' := by
  have hb0 : ∀ o, Below w.heap.size w (w.alloc o) := fun o => (Below.refl _ _).alloc (Nat.le_refl _) o
  have C1 := dHide fun W (hb : Below w.heap.size w W) => implNodes_any sv u ds xs cop W (hd.below hb) (hu.below hb) had hax hld hlx c0 c1
  have C2 := dHide fun W (hb : Below w.heap.size w W) => implNodes_any sv v ds ys cop W (hd.below hb) (hv.below hb) had hay hld hly c0 c1
  clear had hax hay
  obtain ⟨h0, a, cap, rfl, -, -⟩ := hd
  obtain ⟨h0', a', cap', rfl, -, -⟩ := hu
  obtain ⟨h0'', a'', cap'', rfl, -, -⟩ := hv
  by_cases h1 : nodesP ds cop xs
  · have HN := dHide h1
    have HM := dHide fun h => hn ⟨h1, h⟩
    clear h1 hn
    go_enter Try.func20, Try.ntmps20
    go_wp2_with fail
    have T0 := Two.new w (.slice a ds.length cap) (.int .i64 cop) 26
    refine (dUnhide C1 _ (hb0 _)).mono ?_
    rintro e w1 ⟨hr, b1⟩
    obtain rfl := hr.of_yes (dUnhide HN)
    obtain ⟨k0, k1⟩ := T0.kept b1
    have B1 := belowThen (hb0 _) b1
    clear hr b1 hb0 C1 T0
    go_wp2_with fail
    refine (dUnhide C2 _ B1).mono ?_
    rintro e w2 ⟨hr, b2⟩
    obtain rfl := hr.of_no (dUnhide HM)
    have B2 := belowThen B1 b2
    clear hr b2 B1 C2 k0 k1
    go_wp2
    go_ret
    exact ⟨⟨_, rfl, ownN_nil _ _⟩, B2⟩
  · have HN := dHide h1
    clear h1 hn
    go_enter Try.func20, Try.ntmps20
    go_wp2_with fail
    refine (dUnhide C1 _ (hb0 _)).mono ?_
    rintro e w1 ⟨hr, b1⟩
    obtain rfl := hr.of_no (dUnhide HN)
    have B1 := belowThen (hb0 _) b1
    clear hr b1 hb0 C1
    go_wp2
    go_ret
    exact ⟨⟨_, rfl, ownN_nil _ _⟩, B1⟩
end Go.Proofs.Ytgedaaknkhkegaa
