/- impl's NodesOk, SpanOf, Holds, Rest. -/
import Derived.Test.YtognmmmplmideaaImpDd
import Derived.Deep.RegionHeld3
namespace Go.Proofs.Ytognmmmplmideaa
open Go.ChangeShapes Go.WideShapes Go.ChangeAt Go.RowKit
set_option linter.unusedVariables false

/-- How many numbers a set has, as a step of a region that draws. -/
theorem step_setLen {ops : Array Oper} {o : Oper} {a : Act} {w : World} {K : Act → World → Prop} {Q : Exit → Act → World → Prop} {E : Prop}
    (hg : o.guard = none) (m : Operand) (hop : o.op = .call { callee := .builtin .len, args := #[m], argTypes := #[140] })
    (b : Nat) (xs : List Int) (hm : a.eval m = .map (some b)) (h : SetN w b xs) (hK : K (a.put o.dst (.int .i64 (xs.length : Int))) w) :
    if Region.wanted o (yielded ops a.tmps) = true then Oper.wp Try.prog o a w K Q else E := by
  have hw : Region.wanted o (yielded ops a.tmps) = true := by simp [Region.wanted, hg]
  rw [if_pos hw]
  obtain ⟨h1, h2, D, h3, h4, h5⟩ := h
  have hr := h3.len Try.underlying140 o.type
  rw [h4] at hr
  unfold Oper.wp
  simp [execOp, hop, resolve, invoke, builtin, hm, hr, Result.andThen]
  exact hK
set_option maxHeartbeats 2000000 in
theorem implNodes_any (sv v : Value) (ds xs : List Int) (cop : Int) (w : World) (hd : Ns w sv ds) (hv : Ns w v xs) (had : allInt ds) (hax : allInt xs) (hld : ds.length ≤ 1048576) (hlx : xs.length ≤ 1048576) (c0 : -9223372036854775808 ≤ cop) (c1 : cop ≤ 9223372036854775807) :
    Calls Try.prog 108 #[.agg #[sv, .int .i64 cop], v] w fun e w' => RetB (nodesP ds cop xs) e ∧ Below w.heap.size w w' := by
  have hb0 : ∀ o, Below w.heap.size w (w.alloc o) := fun o => (Below.refl _ _).alloc (Nat.le_refl _) o
  have C1 := dHide fun o => implCfg_any sv ds cop (w.alloc o) (hd.below (hb0 o)) had hld c0 c1
  have C2 := dHide fun W (hb : Below w.heap.size w W) => ascBelow_any v xs (ds.length : Int) W (hv.below hb)
  obtain ⟨h0, a, cap, rfl, -, -⟩ := hd
  obtain ⟨h0', a', cap', rfl, -, -⟩ := hv
  clear had hax
  go_enter Try.func108, Try.ntmps108
  go_wp2_with fail
  refine (dUnhide C1 _).mono ?_
  rintro e w1 ⟨⟨b, rfl, hbb⟩, b1⟩
  have B1 := belowThen (hb0 _) b1
  have k0 : w1.cell? ⟨w.heap.size, 0, none⟩ = some (.slice a ds.length cap) := (b1.cell (p := ⟨w.heap.size, 0, none⟩) (by simp)).trans (by simp)
  clear b1 hb0 C1
  cases b
  · have hno : Hid (¬ nodesP ds cop xs) := fun h => by have := hbb.2 h.1; cases this
    clear hbb
    go_wp2
    go_ret
    exact ⟨RetB.no (dUnhide hno), B1⟩
  · have hyes := hbb.1 rfl
    have HY := dHide hyes
    clear hbb hyes
    go_wp2_with fail
    refine (dUnhide C2 _ B1).mono ?_
    rintro e w2 ⟨⟨b, rfl, hbb⟩, rfl⟩
    have R : RetB (nodesP ds cop xs) (.returned (.bool b)) := ⟨b, rfl, fun h => ⟨dUnhide HY, hbb.1 h⟩, fun h => hbb.2 h.2⟩
    clear hbb C2 k0 HY
    cases b
    · go_wp2
      go_ret
      exact ⟨R, B1⟩
    · go_wp2
      go_ret
      exact ⟨R, B1⟩
theorem nodes_asc {ds xs : List Int} {cop : Int} (h : nodesP ds cop xs) : xs.Pairwise (· < ·) := ((ascP_iff _ _ _).1 h.2).1
theorem nodup_of_asc {xs : List Int} (h : xs.Pairwise (· < ·)) : xs.Nodup := h.imp fun {a b} h e => by omega
theorem dedL_nodes {ds xs : List Int} {cop : Int} (h : nodesP ds cop xs) : dedL xs = xs := dedL_nodup (nodup_of_asc (nodes_asc h))
set_option maxHeartbeats 2000000 in
theorem implSpan_yes (sv v : Value) (ds xs : List Int) (cop : Int) (w : World) (hd : Ns w sv ds) (hv : Ns w v xs) (had : allInt ds) (hax : allInt xs) (hld : ds.length ≤ 1048576) (hlx : xs.length ≤ 1048576) (c0 : -9223372036854775808 ≤ cop) (c1 : cop ≤ 9223372036854775807) (hn : nodesP ds cop xs) :
    Calls Try.prog 109 #[.agg #[sv, .int .i64 cop], v] w fun e w' => e = .returned (.int .i64 (spanN ds xs : Int)) ∧ Below w.heap.size w w' := by
  have hb0 : ∀ o, Below w.heap.size w (w.alloc o) := fun o => (Below.refl _ _).alloc (Nat.le_refl _) o
  have C1 := dHide fun o => implNodes_any sv v ds xs cop (w.alloc o) (hd.below (hb0 o)) (hv.below (hb0 o)) had hax hld hlx c0 c1
  have C2 := dHide fun W (hb : Below w.heap.size w W) => setOf_any v xs W (hv.below hb) hax hlx
  rw [dedL_nodes hn] at C2
  have C3 := dHide fun b W (hb : Below w.heap.size w W) hs => domainsOf_any sv b ds xs cop W (hd.below hb) hs hn hlx
  have HN := dHide hn
  clear hn had hax
  have hsp : (spanN ds xs : Int) = ((domsOf ds xs).length : Int) := rfl
  have HSP := dHide hsp
  clear hsp
  obtain ⟨h0, a, cap, rfl, -, -⟩ := hd
  obtain ⟨h0', a', cap', rfl, -, -⟩ := hv
  go_enter Try.func109, Try.ntmps109
  go_wp2_with fail
  have T0 := Two.new w (.slice a ds.length cap) (.int .i64 cop) 43
  refine (dUnhide C1 _).mono ?_
  rintro e w1 ⟨hr, b1⟩
  obtain rfl := hr.of_yes (dUnhide HN)
  have T1 := T0.kept b1
  have HT := dHide T1
  obtain ⟨k0, k1⟩ := T1
  have B1 := belowThen (hb0 _) b1
  clear hr b1 hb0 C1 T0
  generalize domsOf ds xs = L at *
  go_wp2_with fail
  have hbr := Below.refl w1.heap.size w1
  refine wp_region_noPanic ?_
  refine wp_region_held_drew (S := (fun W => W.cell? ⟨w.heap.size, 0, none⟩ = some (.slice a ds.length cap) ∧ W.cell? ⟨w.heap.size, 1, none⟩ = some (.int .i64 cop))) (by kernel_rfl) ?_ (fun hHeld => ?_)
  · go_keep
  refine wpAnyH_take (i := 0) (oi := { dst := some 9, op := Op.load 43 (Operand.tmp 2), type := 43, pos := "l04_domain.go:103", after := #[], guard := none }) (v := ?_) rfl (by kernel_rfl) (by kernel_rfl) (by kernel_rfl) (fun _ _ _ h => h) (Or.inl ⟨by rfl, ?_⟩) (by assumption) ?_
  rotate_left 1
  · intro w hSw
    (try dsimp only at hSw)
    first | (go_simp; done) | (go_simp; with_reducible rfl)
  try simp only [Act.put, List.setIfInBounds_toArray, List.set_cons_zero, List.set_cons_succ]
  refine wpAnyH_take (i := 1) (oi := { dst := some 10, op := Op.move (Operand.tmp 1), type := 34, pos := "l04_domain.go:103", after := #[], guard := none }) (v := ?_) rfl (by kernel_rfl) (by kernel_rfl) (by kernel_rfl) (fun _ _ _ h => h) (Or.inl ⟨by rfl, ?_⟩) (by assumption) ?_
  rotate_left 1
  · intro w hSw
    (try dsimp only at hSw)
    first | (go_simp; done) | (go_simp; with_reducible rfl)
  try simp only [Act.put, List.setIfInBounds_toArray, List.set_cons_zero, List.set_cons_succ]
  refine wpAnyH_ready (rs := [2]) (by kernel_rfl) (by simp) ?_
  refine AllReadyH.cons (o := { dst := some 11, op := Op.call { callee := Callee.value (Operand.func 115), args := #[Operand.tmp 10], argTypes := #[34] }, type := 140, pos := "l04_domain.go:103", after := #[{ on := 1, ground := Ground.data }], guard := none }) rfl (fun K hK => ?_) AllReadyH.nil
  go_simp
  refine (dUnhide C2 _ (belowThen B1 hbr.drew)).mono ?_
  rintro e w2 ⟨rfl, s2, b2⟩
  have hb2 := belowThen hbr.drew b2
  obtain ⟨q0, q1⟩ := (dUnhide HT).kept hb2
  (try go_wp2_with fail)
  refine hK.out _ _ ?_ (fun hHeld => ?_)
  · go_keep
  clear hK K
  try simp only [Act.put, List.setIfInBounds_toArray, List.set_cons_zero, List.set_cons_succ]
  refine wpAnyH_ready (rs := [3]) (by kernel_rfl) (by simp) ?_
  refine AllReadyH.cons (o := { dst := some 12, op := Op.call { callee := Callee.value (Operand.func 114), args := #[Operand.tmp 9, Operand.tmp 11], argTypes := #[43, 140] }, type := 140, pos := "l04_domain.go:103", after := #[{ on := 0, ground := Ground.data }, { on := 2, ground := Ground.data }, { on := 2, ground := Ground.chain }], guard := none }) rfl (fun K hK => ?_) AllReadyH.nil
  go_simp
  refine (dUnhide C3 _ _ (belowThen B1 hb2) s2).mono ?_
  rintro e w3 ⟨rfl, s3, b3⟩
  have hb3 := belowThen hb2 b3
  obtain ⟨q0, q1⟩ := (dUnhide HT).kept hb3
  (try go_wp2_with fail)
  refine hK.out _ _ ?_ (fun hHeld => ?_)
  · go_keep
  clear hK K
  try simp only [Act.put, List.setIfInBounds_toArray, List.set_cons_zero, List.set_cons_succ]
  refine wpAnyH_ready (rs := [4]) (by kernel_rfl) (by simp) ?_
  refine AllReadyH.cons (o := { dst := some 13, op := Op.call { callee := Callee.builtin Builtin.len, args := #[Operand.tmp 12], argTypes := #[140] }, type := 3, pos := "l04_domain.go:103", after := #[{ on := 3, ground := Ground.data }, { on := 3, ground := Ground.chain }], guard := none }) rfl (fun K hK => ?_) AllReadyH.nil
  refine step_setLen rfl _ rfl _ L rfl s3 ?_
  refine hK.out _ _ ?_ (fun hHeld => ?_)
  · go_keep
  clear hK K
  try simp only [Act.put, List.setIfInBounds_toArray, List.set_cons_zero, List.set_cons_succ]
  refine wpAnyH_take (i := 5) (oi := { dst := some 4, op := Op.assign (Operand.tmp 13), type := 3, pos := "l04_domain.go:103", after := #[{ on := 4, ground := Ground.data }, { on := 4, ground := Ground.chain }, { on := 0, ground := Ground.phase }, { on := 1, ground := Ground.phase }, { on := 2, ground := Ground.phase }, { on := 3, ground := Ground.phase }, { on := 4, ground := Ground.phase }], guard := none }) (v := ?_) rfl (by kernel_rfl) (by kernel_rfl) (by kernel_rfl) (fun _ _ _ h => h) (Or.inl ⟨by rfl, ?_⟩) (by assumption) ?_
  rotate_left 1
  · intro w hSw
    (try dsimp only at hSw)
    first | (go_simp; done) | (go_simp; with_reducible rfl)
  try simp only [Act.put, List.setIfInBounds_toArray, List.set_cons_zero, List.set_cons_succ]
  refine wpAnyH_done (by kernel_rfl) ?_ _
  refine NoPanic.normal ?_
  go_wp2
  go_ret
  exact ⟨by rw [dUnhide HSP]; rfl, belowThen B1 hb3⟩
theorem implSpan_no (sv v : Value) (ds xs : List Int) (cop : Int) (w : World) (hd : Ns w sv ds) (hv : Ns w v xs) (had : allInt ds) (hax : allInt xs) (hld : ds.length ≤ 1048576) (hlx : xs.length ≤ 1048576) (c0 : -9223372036854775808 ≤ cop) (c1 : cop ≤ 9223372036854775807) (hn : ¬ nodesP ds cop xs) :
    Calls Try.prog 109 #[.agg #[sv, .int .i64 cop], v] w fun e w' => e = .returned (.int .i64 (-1)) ∧ Below w.heap.size w w' := by
  have hb0 : ∀ o, Below w.heap.size w (w.alloc o) := fun o => (Below.refl _ _).alloc (Nat.le_refl _) o
  have C1 := dHide fun o => implNodes_any sv v ds xs cop (w.alloc o) (hd.below (hb0 o)) (hv.below (hb0 o)) had hax hld hlx c0 c1
  have HN := dHide hn
  clear hn had hax
  obtain ⟨h0, a, cap, rfl, -, -⟩ := hd
  obtain ⟨h0', a', cap', rfl, -, -⟩ := hv
  go_enter Try.func109, Try.ntmps109
  go_wp2_with fail
  refine (dUnhide C1 _).mono ?_
  rintro e w1 ⟨hr, b1⟩
  obtain rfl := hr.of_no (dUnhide HN)
  have B1 := belowThen (hb0 _) b1
  clear hr b1 hb0 C1
  go_wp2
  go_ret
  exact ⟨rfl, B1⟩
end Go.Proofs.Ytognmmmplmideaa
