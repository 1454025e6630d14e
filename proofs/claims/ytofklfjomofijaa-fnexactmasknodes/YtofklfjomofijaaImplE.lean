/- impl's Choose. -/
import Derived.Test.YtofklfjomofijaaImpEb
import Derived.Test.YtofklfjomofijaaImpDc
import Derived.Test.YtofklfjomofijaaImpDh
import Derived.Test.YtofklfjomofijaaDrawB
namespace Go.Proofs.Ytofklfjomofijaa
open Go.ChangeShapes Go.WideShapes Go.ChangeAt Go.RowKit Go.Shelf
set_option linter.unusedVariables false
attribute [local go_sem] Oper.semAt_some

theorem putA_perm {x : Int} {l : List Int} (hl : l.Nodup) (hn : x ∉ l) (ha : (putA x l).Nodup) : (l ++ [x]).Perm (putA x l) := by
  refine (List.perm_ext_iff_of_nodup (List.nodup_append.2 ⟨hl, by simp, fun a h b hb e => ?_⟩) ha).2 fun y => ?_
  · obtain rfl : b = x := by simpa using hb
    exact hn (e ▸ h)
  · rw [mem_putA, List.mem_append]
    simp [or_comm]
theorem nodup_domsOf (ds xs : List Int) : (domsOf ds xs).Nodup := by
  unfold domsOf
  have : ∀ (l acc : List Int), acc.Nodup → (l.foldl addD acc).Nodup := fun l => by
    induction l with
    | nil => intro acc h; exact h
    | cons a l ih => intro acc h; exact ih _ (nodup_addD h)
  exact this _ _ List.nodup_nil
theorem doms_put_perm (ds : List Int) (x : Int) (l : List Int) : (addD (domsOf ds l) (domAt ds x)).Perm (domsOf ds (putA x l)) := by
  refine (List.perm_ext_iff_of_nodup (nodup_addD (nodup_domsOf ds l)) (nodup_domsOf ds _)).2 fun y => ?_
  rw [← domsOf_snoc1, mem_domsOf, mem_domsOf]
  constructor
  · rintro ⟨z, hz, e⟩
    exact ⟨z, mem_putA.2 (by rcases List.mem_append.1 hz with h | h; exact .inr h; exact .inl (by simpa using h)), e⟩
  · rintro ⟨z, hz, e⟩
    exact ⟨z, List.mem_append.2 (by rcases mem_putA.1 hz with h | h; exact .inr (by simp [h]); exact .inl h), e⟩
/-- What has been chosen lies in a set, its domains in another. -/
structure ChoAt (w0 : World) (C B : Nat) (sv : Value) (ds : List Int) (cop : Int) (acc : List Int) (W : World) : Prop where
  cfg : Two W C sv (.int .i64 cop)
  ch : W.cell? ⟨B + 1 + 1, 0, none⟩ = some (.map (some B))
  dm : W.cell? ⟨B + 1 + 1 + 1, 0, none⟩ = some (.map (some (B + 1)))
  s0 : SetN W B acc
  s1 : SetN W (B + 1) (domsOf ds acc)
  below : Below w0.heap.size w0 W
theorem ChoAt.own {w0 : World} {C B n₀ : Nat} {sv : Value} {ds : List Int} {cop : Int} {β : Type} (f : β → List Int) (G : β → Prop) (hn : B + 1 < n₀) (h0 : w0.heap.size ≤ n₀) : OwnFrom n₀ (fun s W => ChoAt w0 C B sv ds cop (f s) W ∧ G s) := by
  rintro s X Y row ⟨h, hG⟩ hg hr
  have hc : ∀ {p : Addr} {v : Value}, X.cell? p = some v → Y.cell? p = some v := fun h => cell_kept h hg (fun r e => (hr r e).2)
  exact ⟨⟨⟨hc h.cfg.1, hc h.cfg.2⟩, hc h.ch, hc h.dm, h.s0.kept hg (fun e => by have := (hr _ e.symm).1; omega), h.s1.kept hg (fun e => by have := (hr _ e.symm).1; omega), h.below.grown hg h.below.size (fun k e => Nat.le_trans h0 (hr k e).1)⟩, hG⟩
theorem keepsFrom_below {n₀ : Nat} {A B : World} (h : Below A.heap.size A B) : KeepsFrom n₀ A B := KeepsFrom.of_grownBy (grownBy_of_below h) (fun j e => by cases e)
theorem SetN.len {w : World} {b : Nat} {xs : List Int} (h : SetN w b xs) (ty : TypeId) : (Builtin.len_ #[63] ty #[.map (some b)]).run Try.prog w = .ok (.int .i64 (xs.length : Int)) w := by
  obtain ⟨h1, h2, D, h3, h4, h5⟩ := h
  have hr := h3.len Try.underlying63 ty
  rw [h4] at hr
  exact hr
theorem OwnN.turn {w : World} {base D : Nat} {v : Value} {bs : List Int} (h : OwnN w base v bs) (hD : D < base) (o : Obj) : OwnN (w.putObj D o) base v bs := by
  obtain ⟨h0, a, cap, rfl, hcap, h⟩ := h
  refine ⟨h0, a, cap, rfl, hcap, ?_⟩
  rcases h with h | ⟨b, off, rfl, hbb, hc⟩
  · exact .inl h
  · have hb : (w.putObj D o).heap[b]? = w.heap[b]? := World.putObj_heap_other (by omega)
    exact .inr ⟨b, off, rfl, hbb, fun i hi => ⟨(World.cell?_of_block (w' := w.putObj D o) (a := ⟨b, off + i, none⟩) hb).trans (hc i hi).1, (World.frozen?_of_block (w' := w.putObj D o) (a := ⟨b, off + i, none⟩) hb).trans (hc i hi).2⟩⟩
set_option maxHeartbeats 8000000 in
set_option maxRecDepth 100000 in
theorem implChoose_yes (sv v : Value) (ds xs : List Int) (cop : Int) (F : Nat) (w : World) (hd : Ns w sv ds) (hv : Ns w v xs) (had : allInt ds) (hax : allInt xs) (hld : ds.length ≤ 1048576) (hlx : xs.length ≤ 1048576) (c0 : -9223372036854775808 ≤ cop) (c1 : cop ≤ 9223372036854775807)
    (hF : F ≤ 9223372036854775807) (hh : holdsP ds cop xs) :
    Calls Try.prog 17 #[.agg #[sv, .int .i64 cop], v, .int .i64 (F : Int)] w fun e w' => (∃ o, e = .returned (.tuple #[o, .bool true]) ∧ OwnN w' w.heap.size o (chooseL ds cop xs F)) ∧ Below w.heap.size w w' := by
  have hb0 : ∀ o, Below w.heap.size w (w.alloc o) := fun o => (Below.refl _ _).alloc (Nat.le_refl _) o
  have CH := dHide fun o => (callsIn_wide (n := 8)).2 (implHolds_any sv v ds xs cop (w.alloc o) (hd.below (hb0 o)) (hv.below (hb0 o)) had hax hld hlx c0 c1)
  have HH := dHide hh
  have hcop : 1 ≤ cop := hh.1.1.2.1.1
  have hcop4 : cop ≤ 4 := hh.1.1.2.1.2
  have hd1 : 0 < ds.length := by have := hh.1.1.1.1; omega
  have hx1 : 0 < xs.length := by
    have h1 := hh.2
    have h2 : spanN ds xs ≤ xs.length := domsOf_le ds xs
    omega
  obtain ⟨h0, a, cap, rfl, -, hd⟩ := hd
  obtain ⟨h0', a', cap', rfl, -, hv⟩ := hv
  obtain ⟨b', off, rfl, hc⟩ : ∃ b off, a = some ⟨b, off, none⟩ ∧ ∀ i (h : i < ds.length), w.cell? ⟨b, off + i, none⟩ = some (.int .i64 ds[i]) := orN_of_lt hd (k := 0) hd1
  obtain ⟨b'', off'', rfl, hc'⟩ : ∃ b off, a' = some ⟨b, off, none⟩ ∧ ∀ i (h : i < xs.length), w.cell? ⟨b, off + i, none⟩ = some (.int .i64 xs[i]) := orN_of_lt hv (k := 0) hx1
  have HC := dHide hc
  have HC' := dHide hc'
  have CA := dHide fun W => around_in 8 (some ⟨b'', off'', none⟩) xs.length cap' (F : Int) W
  clear had hax hh hd hv hc hc'
  have hmm := @run_makeMap Try.prog
  have hF0 : decide ((F : Int) < 0) = false := decide_eq_false (by omega)
  refine (callsIn_wide (n := 9)).1 ?_
  have f1 : Fence.wide.fn 20 := trivial
  have f2 : Fence.wide.fn 40 := trivial
  have f3 : Fence.wide.fn 42 := trivial
  refine callsIn_of_wp_marks Try.func17 rfl trivial ?_ rfl
  simp only [Try.ntmps17, List.size_toArray, List.length_cons, List.length_nil, Nat.reduceAdd, Nat.reduceSub, Array.replicate_succ, Array.replicate_zero, List.push_toArray, List.append_toArray, List.nil_append, List.cons_append]
  gi_wp2_with (first
    | (gi_at_call 20; refine (dUnhide CH _).mono ?_; rintro e w1 ⟨hr, b1⟩; obtain rfl := hr.of_yes (dUnhide HH))
    | (gi_at_call 40; refine (dUnhide CA _).mono ?_; rintro e w2 ⟨rfl, rfl⟩))
  have T0 := (Two.new w (.slice (some ⟨b', off, none⟩) ds.length cap) (.int .i64 cop) 31).kept b1
  have B1 := belowThen (hb0 _) b1
  have hsz : w.heap.size < w1.heap.size := by have := b1.size; simp at this; omega
  clear hr b1 hb0 CH CA
  have hm1 := ((((((SetN.made w1).alloc (.map #[] 0)).alloc (.cells #[.map (some w1.heap.size)] 63)).alloc (.cells #[.map (some (w1.heap.size + 1))] 63)).alloc (.cells #[.slice (some ⟨b'', off'', none⟩) xs.length cap'] 25)).alloc (.cells #[.int .i64 (F : Int)] 3))
  have hm2 := (((((SetN.made (w1.alloc (.map #[] 0))).alloc (.cells #[.map (some w1.heap.size)] 63)).alloc (.cells #[.map (some (w1.heap.size + 1))] 63)).alloc (.cells #[.slice (some ⟨b'', off'', none⟩) xs.length cap'] 25)).alloc (.cells #[.int .i64 (F : Int)] 3))
  rw [World.size_alloc] at hm2
  have hBW : Below w1.heap.size w1 ((((((w1.alloc (.map #[] 0)).alloc (.map #[] 0)).alloc (.cells #[.map (some w1.heap.size)] 63)).alloc (.cells #[.map (some (w1.heap.size + 1))] 63)).alloc (.cells #[.slice (some ⟨b'', off'', none⟩) xs.length cap'] 25)).alloc (.cells #[.int .i64 (F : Int)] 3)) :=
    ((((((Below.refl _ w1).alloc (Nat.le_refl _) _).alloc (by simp) _).alloc (by simp; omega) _).alloc (by simp; omega) _).alloc (by simp; omega) _).alloc (by simp; omega) _
  have z1 := ((((Boxed.new ((w1.alloc (.map #[] 0)).alloc (.map #[] 0)) 63 (.map (some w1.heap.size))).alloc (.cells #[.map (some (w1.heap.size + 1))] 63)).alloc (.cells #[.slice (some ⟨b'', off'', none⟩) xs.length cap'] 25)).alloc (.cells #[.int .i64 (F : Int)] 3)).cell
  simp only [World.size_alloc] at z1
  have z2 := (((Boxed.new (((w1.alloc (.map #[] 0)).alloc (.map #[] 0)).alloc (.cells #[.map (some w1.heap.size)] 63)) 63 (.map (some (w1.heap.size + 1)))).alloc (.cells #[.slice (some ⟨b'', off'', none⟩) xs.length cap'] 25)).alloc (.cells #[.int .i64 (F : Int)] 3)).cell
  simp only [World.size_alloc] at z2
  have z3 := ((Boxed.new ((((w1.alloc (.map #[] 0)).alloc (.map #[] 0)).alloc (.cells #[.map (some w1.heap.size)] 63)).alloc (.cells #[.map (some (w1.heap.size + 1))] 63)) 25 (.slice (some ⟨b'', off'', none⟩) xs.length cap')).alloc (.cells #[.int .i64 (F : Int)] 3)).cell
  simp only [World.size_alloc] at z3
  have z4 := (Boxed.new (((((w1.alloc (.map #[] 0)).alloc (.map #[] 0)).alloc (.cells #[.map (some w1.heap.size)] 63)).alloc (.cells #[.map (some (w1.heap.size + 1))] 63)).alloc (.cells #[.slice (some ⟨b'', off'', none⟩) xs.length cap'] 25)) 3 (.int .i64 (F : Int))).cell
  simp only [World.size_alloc] at z4
  have z5 : ((((((w1.alloc (.map #[] 0)).alloc (.map #[] 0)).alloc (.cells #[.map (some w1.heap.size)] 63)).alloc (.cells #[.map (some (w1.heap.size + 1))] 63)).alloc (.cells #[.slice (some ⟨b'', off'', none⟩) xs.length cap'] 25)).alloc (.cells #[.int .i64 (F : Int)] 3)).heap.size = w1.heap.size + 6 := by simp
  generalize hW0 : ((((((w1.alloc (.map #[] 0)).alloc (.map #[] 0)).alloc (.cells #[.map (some w1.heap.size)] 63)).alloc (.cells #[.map (some (w1.heap.size + 1))] 63)).alloc (.cells #[.slice (some ⟨b'', off'', none⟩) xs.length cap'] 25)).alloc (.cells #[.int .i64 (F : Int)] 3)) = W0 at *
  clear hW0
  have B0 := belowThen B1 hBW
  have A0 : ChoAt w w.heap.size w1.heap.size (.slice (some ⟨b', off, none⟩) ds.length cap) ds cop [] W0 := ⟨T0.kept hBW, z1, z2, hm1, hm2, B0⟩
  have hseq := around_stops 8 (w1.heap.size + 1 + 1 + 1 + 1) (w1.heap.size + 1 + 1 + 1 + 1 + 1) b'' off'' cap' xs F hlx hF W0 (by omega) (by omega) (by have := dCell_lt (dUnhide HC' 0 hx1); omega) z3 z4 (fun i h => (B0.cell (p := ⟨b'', off'' + i, none⟩) (dCell_lt (dUnhide HC' i h))).trans (dUnhide HC' i h))
  clear T0 B1 hm1 hm2 hBW z1 z2 z3 z4 HC'
  refine wpIn_rangeFunc_ownG rfl (by omega) (gf := 56) (lb := #[.pointer (some ⟨w1.heap.size + 1 + 1 + 1 + 1, 0, none⟩), .pointer (some ⟨w1.heap.size + 1 + 1 + 1 + 1 + 1, 0, none⟩)]) rfl trivial (enters_of Try.func56 (by kernel_rfl) rfl)
    hseq KeepC.trans (keepC_b (Nat.le_refl _)) (Below.refl _ _) (fun _ => rfl)
    (fun pre W => ChoAt w w.heap.size w1.heap.size (.slice (some ⟨b', off, none⟩) ds.length cap) ds cop (choL ds cop (pre.map Subtype.val)) W ∧ ((choL ds cop (pre.map Subtype.val)).length : Int) < cop)
    (fun c pre W => ChoAt w w.heap.size w1.heap.size (.slice (some ⟨b', off, none⟩) ds.length cap) ds cop (choL ds cop (pre.map Subtype.val)) W ∧ (c = .exit 0 ∧ cop ≤ ((choL ds cop (pre.map Subtype.val)).length : Int)))
    (ChoAt.own (n₀ := W0.heap.size) (fun pre : List (NodeOf xs) => choL ds cop (pre.map Subtype.val)) (fun pre => ((choL ds cop (pre.map Subtype.val)).length : Int) < cop) (by omega) (by omega))
    (fun c => ChoAt.own (n₀ := W0.heap.size) (fun pre : List (NodeOf xs) => choL ds cop (pre.map Subtype.val)) (fun pre => c = .exit 0 ∧ cop ≤ ((choL ds cop (pre.map Subtype.val)).length : Int)) (by omega) (by omega))
    ⟨A0, by simp [choL]; omega⟩
    (fun x => { tmps := #[.agg #[.slice (some ⟨b', off, none⟩) ds.length cap, .int .i64 cop], .slice (some ⟨b'', off'', none⟩) xs.length cap', .int .i64 (F : Int), .pointer (some ⟨w.heap.size, 0, none⟩), undef, undef, .slice none 0 0, .bool false, .pointer (some ⟨w1.heap.size + 1 + 1, 0, none⟩), .pointer (some ⟨w1.heap.size + 1 + 1 + 1, 0, none⟩), .int .i64 x.1, .int .i64 (F : Int), .bool false, .bool false, .agg #[.slice (some ⟨b', off, none⟩) ds.length cap, .int .i64 cop], .slice (some ⟨b'', off'', none⟩) xs.length cap', .bool true, .bool false, .bool false, .map (some w1.heap.size), .map (some (w1.heap.size + 1)), .slice (some ⟨b'', off'', none⟩) xs.length cap', .int .i64 (F : Int), .func (.func 56) #[] #[.pointer (some ⟨w1.heap.size + 1 + 1 + 1 + 1, 0, none⟩), .pointer (some ⟨w1.heap.size + 1 + 1 + 1 + 1 + 1, 0, none⟩)], .int .i64 x.1, undef, undef, undef, undef, undef, undef, undef, undef, undef, undef, undef, undef, undef, undef, undef, undef, undef, undef, undef, undef, undef, undef, undef, undef, undef, undef], defers := [] }) ?assign ?body ?done ?stop
  case assign =>
    intro l x W K hK
    gi_wp2
    exact hK
  case body =>
    rintro l pre ⟨x, hxm⟩ W ⟨hat, hlc⟩ hlt
    dsimp only
    have hst : Hid (choL ds cop ((pre ++ [(⟨x, hxm⟩ : NodeOf xs)]).map Subtype.val) = choStep ds cop (choL ds cop (pre.map Subtype.val)) x) := by rw [Hid, List.map_append, choL, List.foldl_append]; rfl
    have hinv : ChoInv ds cop xs (choL ds cop (pre.map Subtype.val)) := choL_inv (by omega) (pre.map Subtype.val) [] (fun y hy => by obtain ⟨q, -, rfl⟩ := List.mem_map.1 hy; exact q.2) (ChoInv.nil (by omega))
    generalize hL : (pre ++ [(⟨x, hxm⟩ : NodeOf xs)]) = pre' at *
    clear hL
    generalize choL ds cop (pre.map Subtype.val) = acc at *
    obtain ⟨k, hkl, hk⟩ := List.getElem_of_mem hxm
    obtain ⟨i, d, e1, hil, e2, hd8, e3⟩ := domAt_in (dUnhide HH).1 k hkl
    obtain rfl : x = (i : Int) := by rw [← hk, e1]
    rw [hk] at e3
    have HI := dHide hinv
    have k4 : W.cell? ⟨b', off + i, none⟩ = some (.int .i64 (d : Int)) := by rw [← e2]; exact (hat.below.cell (p := ⟨b', off + i, none⟩) (dCell_lt (dUnhide HC i hil))).trans (dUnhide HC i hil)
    have HAT := dHide hat
    have k0 := hat.cfg.1
    have k1 := hat.cfg.2
    have k2 := hat.ch
    have k3 := hat.dm
    have s1 := hat.s1
    have hal : acc.length ≤ 1048576 := by omega
    have hdl2 : (domsOf ds acc).length ≤ 1048576 := Nat.le_trans (domsOf_le ds acc) hal
    have i1 : (0 : Int) ≤ (i : Int) := by omega
    have i2 : (i : Int) < (ds.length : Int) := by omega
    have E3 := dHide e3
    clear hat hinv hk e1 e2 e3 HC hseq A0
    obtain ⟨L, hLd⟩ : ∃ L, domsOf ds acc = L := ⟨_, rfl⟩
    rw [hLd] at s1 hdl2
    have HL := dHide hLd
    clear hLd
    have hbr := Below.refl W.heap.size W
    gi_wp2
    refine wpIn_region_round (S := fun W => W.cell? ⟨w.heap.size, 0, none⟩ = some (.slice (some ⟨b', off, none⟩) ds.length cap) ∧ W.cell? ⟨w1.heap.size + 1 + 1, 0, none⟩ = some (.map (some w1.heap.size)) ∧ W.cell? ⟨w1.heap.size + 1 + 1 + 1, 0, none⟩ = some (.map (some (w1.heap.size + 1))) ∧ W.cell? ⟨b', off + i, none⟩ = some (.int .i64 (d : Int))) (by kernel_rfl) (calm_of (by kernel_rfl)) ?_ (fun hHeld => ?_)
    · go_keep
    refine wpAnyH_take (i := 0) (oi := { dst := some 25, op := Op.load 63 (Operand.tmp 9), type := 63, pos := "l05_choose.go:57", after := #[], guard := none }) (v := ?_) rfl (by kernel_rfl) (by kernel_rfl) (by kernel_rfl) (fun _ _ _ h => h) (Or.inl ⟨by rfl, ?_⟩) (by assumption) ?_
    rotate_left 1
    · intro w hSw
      (try dsimp only at hSw)
      first | (go_simp; done) | (go_simp; with_reducible rfl)
    try simp only [Act.put, List.setIfInBounds_toArray, List.set_cons_zero, List.set_cons_succ]
    refine wpAnyH_take (i := 1) (oi := { dst := some 26, op := Op.fieldAddr 31 (Operand.tmp 3) 0, type := 0, pos := "l05_choose.go:57", after := #[], guard := none }) (v := ?_) rfl (by kernel_rfl) (by kernel_rfl) (by kernel_rfl) (fun _ _ _ h => h) (Or.inl ⟨by rfl, ?_⟩) (by assumption) ?_
    rotate_left 1
    · intro w hSw
      (try dsimp only at hSw)
      first | (go_simp; done) | (go_simp; with_reducible rfl)
    try simp only [Act.put, List.setIfInBounds_toArray, List.set_cons_zero, List.set_cons_succ]
    refine wpAnyH_take (i := 2) (oi := { dst := some 27, op := Op.load 25 (Operand.tmp 26), type := 25, pos := "l05_choose.go:57", after := #[{ on := 1, ground := Ground.data }], guard := none }) (v := ?_) rfl (by kernel_rfl) (by kernel_rfl) (by kernel_rfl) (fun _ _ _ h => h) (Or.inl ⟨by rfl, ?_⟩) (by assumption) ?_
    rotate_left 1
    · intro w hSw
      (try dsimp only at hSw)
      first | (go_simp; done) | (go_simp; with_reducible rfl)
    try simp only [Act.put, List.setIfInBounds_toArray, List.set_cons_zero, List.set_cons_succ]
    refine wpAnyH_take (i := 3) (oi := { dst := some 28, op := Op.move (Operand.tmp 10), type := 3, pos := "l05_choose.go:57", after := #[], guard := none }) (v := ?_) rfl (by kernel_rfl) (by kernel_rfl) (by kernel_rfl) (fun _ _ _ h => h) (Or.inl ⟨by rfl, ?_⟩) (by assumption) ?_
    rotate_left 1
    · intro w hSw
      (try dsimp only at hSw)
      first | (go_simp; done) | (go_simp; with_reducible rfl)
    try simp only [Act.put, List.setIfInBounds_toArray, List.set_cons_zero, List.set_cons_succ]
    refine wpAnyH_take (i := 4) (oi := { dst := some 29, op := Op.indexAddr 25 (Operand.tmp 27) (Operand.tmp 28), type := 0, pos := "l05_choose.go:57", after := #[{ on := 2, ground := Ground.data }, { on := 3, ground := Ground.data }], guard := none }) (v := ?_) rfl (by kernel_rfl) (by kernel_rfl) (by kernel_rfl) (fun _ _ _ h => h) (Or.inl ⟨by rfl, ?_⟩) (by assumption) ?_
    rotate_left 1
    · intro w hSw
      (try dsimp only at hSw)
      first | (go_simp; done) | (go_simp; with_reducible rfl)
    try simp only [Act.put, List.setIfInBounds_toArray, List.set_cons_zero, List.set_cons_succ]
    refine wpAnyH_take (i := 5) (oi := { dst := some 30, op := Op.load 3 (Operand.tmp 29), type := 3, pos := "l05_choose.go:57", after := #[{ on := 4, ground := Ground.data }], guard := none }) (v := ?_) rfl (by kernel_rfl) (by kernel_rfl) (by kernel_rfl) (fun _ _ _ h => h) (Or.inl ⟨by rfl, ?_⟩) (by assumption) ?_
    rotate_left 1
    · intro w hSw
      (try dsimp only at hSw)
      first | (go_simp; done) | (go_simp; with_reducible rfl)
    try simp only [Act.put, List.setIfInBounds_toArray, List.set_cons_zero, List.set_cons_succ]
    refine wpAnyH_ready (rs := [6]) (by kernel_rfl) (by simp) ?_
    refine AllReadyH.cons (o := { dst := some 31, op := Op.call { callee := Callee.value (Operand.func 41), args := #[Operand.tmp 25, Operand.tmp 30], argTypes := #[63, 3] }, type := 4, pos := "l05_choose.go:57", after := #[{ on := 0, ground := Ground.data }, { on := 5, ground := Ground.data }], guard := none }) rfl (fun K hK => ?_) AllReadyH.nil
    go_simp
    refine (setHas_any (w1.heap.size + 1) L (d : Int) _ (s1.below hbr.drew) (by omega)).mono ?_
    rintro e w3 ⟨⟨bb, rfl, hbb⟩, b3⟩
    have hb3 := belowThen hbr.drew b3
    have q0 := (hb3.cell (p := ⟨w.heap.size, 0, none⟩) (dCell_lt k0)).trans k0
    have q1 := (hb3.cell (p := ⟨w1.heap.size + 1 + 1, 0, none⟩) (dCell_lt k2)).trans k2
    have q2 := (hb3.cell (p := ⟨w1.heap.size + 1 + 1 + 1, 0, none⟩) (dCell_lt k3)).trans k3
    have q3 := (hb3.cell (p := ⟨b', off + i, none⟩) (dCell_lt k4)).trans k4
    (try go_wp2_with fail)
    refine hK.out _ _ ?_ (fun hHeld => ?_)
    · go_keep
    clear hK K
    try simp only [Act.put, List.setIfInBounds_toArray, List.set_cons_zero, List.set_cons_succ]
    refine wpAnyH_done (by kernel_rfl) ?_ _
    refine OnlyN.normal ?_
    have kF := keepsFrom_below (n₀ := W0.heap.size) hb3
    have kC := keepC_below (n₀ := W0.heap.size) hb3
    have A3 : ChoAt w w.heap.size w1.heap.size (.slice (some ⟨b', off, none⟩) ds.length cap) ds cop acc w3 := ⟨(dUnhide HAT).cfg.kept hb3, q1, q2, (dUnhide HAT).s0.below hb3, (dUnhide HAT).s1.below hb3, belowThen (dUnhide HAT).below hb3⟩
    have k1' := A3.cfg.2
    clear hHeld HAT s1 k0 k1 k2 k3 k4 b3
    cases bb
    · have hdn : (d : Int) ∉ L := fun h => by have := hbb.2 h; cases this
      clear hbb
      have HA3 := dHide A3
      have hbr := Below.refl w3.heap.size w3
      have s0' : SetN w3.drew w1.heap.size acc := A3.s0.below hbr.drew
      have s1' : SetN w3.drew (w1.heap.size + 1) L := by rw [← dUnhide HL]; exact A3.s1.below hbr.drew
      clear A3
      gi_wp2
      refine wpIn_region_round (S := fun W => W.cell? ⟨w.heap.size, 0, none⟩ = some (.slice (some ⟨b', off, none⟩) ds.length cap) ∧ W.cell? ⟨w1.heap.size + 1 + 1, 0, none⟩ = some (.map (some w1.heap.size)) ∧ W.cell? ⟨w1.heap.size + 1 + 1 + 1, 0, none⟩ = some (.map (some (w1.heap.size + 1))) ∧ W.cell? ⟨b', off + i, none⟩ = some (.int .i64 (d : Int))) (by kernel_rfl) (calm_of (by kernel_rfl)) ?_ (fun hHeld => ?_)
      · go_keep
      refine wpAnyH_take (i := 0) (oi := { dst := some 32, op := Op.load 63 (Operand.tmp 8), type := 63, pos := "l05_choose.go:60", after := #[], guard := none }) (v := ?_) rfl (by kernel_rfl) (by kernel_rfl) (by kernel_rfl) (fun _ _ _ h => h) (Or.inl ⟨by rfl, ?_⟩) (by assumption) ?_
      rotate_left 1
      · intro w hSw
        (try dsimp only at hSw)
        first | (go_simp; done) | (go_simp; with_reducible rfl)
      try simp only [Act.put, List.setIfInBounds_toArray, List.set_cons_zero, List.set_cons_succ]
      refine wpAnyH_take (i := 1) (oi := { dst := some 33, op := Op.move (Operand.tmp 10), type := 3, pos := "l05_choose.go:60", after := #[], guard := none }) (v := ?_) rfl (by kernel_rfl) (by kernel_rfl) (by kernel_rfl) (fun _ _ _ h => h) (Or.inl ⟨by rfl, ?_⟩) (by assumption) ?_
      rotate_left 1
      · intro w hSw
        (try dsimp only at hSw)
        first | (go_simp; done) | (go_simp; with_reducible rfl)
      try simp only [Act.put, List.setIfInBounds_toArray, List.set_cons_zero, List.set_cons_succ]
      refine wpAnyH_take (i := 2) (oi := { dst := some 34, op := Op.load 63 (Operand.tmp 9), type := 63, pos := "l05_choose.go:60", after := #[{ on := 10, ground := Ground.gcOnly Departure.lateStores }], guard := none }) (v := ?_) rfl (by kernel_rfl) (by kernel_rfl) (by kernel_rfl) (fun _ _ _ h => h) (Or.inl ⟨by rfl, ?_⟩) (by assumption) ?_
      rotate_left 1
      · intro w hSw
        (try dsimp only at hSw)
        first | (go_simp; done) | (go_simp; with_reducible rfl)
      try simp only [Act.put, List.setIfInBounds_toArray, List.set_cons_zero, List.set_cons_succ]
      refine wpAnyH_take (i := 3) (oi := { dst := some 35, op := Op.fieldAddr 31 (Operand.tmp 3) 0, type := 0, pos := "l05_choose.go:60", after := #[], guard := none }) (v := ?_) rfl (by kernel_rfl) (by kernel_rfl) (by kernel_rfl) (fun _ _ _ h => h) (Or.inl ⟨by rfl, ?_⟩) (by assumption) ?_
      rotate_left 1
      · intro w hSw
        (try dsimp only at hSw)
        first | (go_simp; done) | (go_simp; with_reducible rfl)
      try simp only [Act.put, List.setIfInBounds_toArray, List.set_cons_zero, List.set_cons_succ]
      refine wpAnyH_take (i := 4) (oi := { dst := some 36, op := Op.load 25 (Operand.tmp 35), type := 25, pos := "l05_choose.go:60", after := #[{ on := 3, ground := Ground.data }], guard := none }) (v := ?_) rfl (by kernel_rfl) (by kernel_rfl) (by kernel_rfl) (fun _ _ _ h => h) (Or.inl ⟨by rfl, ?_⟩) (by assumption) ?_
      rotate_left 1
      · intro w hSw
        (try dsimp only at hSw)
        first | (go_simp; done) | (go_simp; with_reducible rfl)
      try simp only [Act.put, List.setIfInBounds_toArray, List.set_cons_zero, List.set_cons_succ]
      refine wpAnyH_take (i := 5) (oi := { dst := some 37, op := Op.move (Operand.tmp 10), type := 3, pos := "l05_choose.go:60", after := #[], guard := none }) (v := ?_) rfl (by kernel_rfl) (by kernel_rfl) (by kernel_rfl) (fun _ _ _ h => h) (Or.inl ⟨by rfl, ?_⟩) (by assumption) ?_
      rotate_left 1
      · intro w hSw
        (try dsimp only at hSw)
        first | (go_simp; done) | (go_simp; with_reducible rfl)
      try simp only [Act.put, List.setIfInBounds_toArray, List.set_cons_zero, List.set_cons_succ]
      refine wpAnyH_take (i := 6) (oi := { dst := some 38, op := Op.indexAddr 25 (Operand.tmp 36) (Operand.tmp 37), type := 0, pos := "l05_choose.go:60", after := #[{ on := 4, ground := Ground.data }, { on := 5, ground := Ground.data }], guard := none }) (v := ?_) rfl (by kernel_rfl) (by kernel_rfl) (by kernel_rfl) (fun _ _ _ h => h) (Or.inl ⟨by rfl, ?_⟩) (by assumption) ?_
      rotate_left 1
      · intro w hSw
        (try dsimp only at hSw)
        first | (go_simp; done) | (go_simp; with_reducible rfl)
      try simp only [Act.put, List.setIfInBounds_toArray, List.set_cons_zero, List.set_cons_succ]
      refine wpAnyH_take (i := 7) (oi := { dst := some 39, op := Op.load 3 (Operand.tmp 38), type := 3, pos := "l05_choose.go:60", after := #[{ on := 6, ground := Ground.data }], guard := none }) (v := ?_) rfl (by kernel_rfl) (by kernel_rfl) (by kernel_rfl) (fun _ _ _ h => h) (Or.inl ⟨by rfl, ?_⟩) (by assumption) ?_
      rotate_left 1
      · intro w hSw
        (try dsimp only at hSw)
        first | (go_simp; done) | (go_simp; with_reducible rfl)
      try simp only [Act.put, List.setIfInBounds_toArray, List.set_cons_zero, List.set_cons_succ]
      refine wpAnyH_take (i := 8) (oi := { dst := some 40, op := Op.build 65 #[], type := 65, pos := "l05_choose.go:60", after := #[], guard := none }) (v := ?_) rfl (by kernel_rfl) (by kernel_rfl) (by kernel_rfl) (fun _ _ _ h => h) (Or.inl ⟨by rfl, ?_⟩) (by assumption) ?_
      rotate_left 1
      · intro w hSw
        (try dsimp only at hSw)
        first | (go_simp; done) | (go_simp; with_reducible rfl)
      try simp only [Act.put, List.setIfInBounds_toArray, List.set_cons_zero, List.set_cons_succ]
      refine wpAnyH_take (i := 9) (oi := { dst := some 41, op := Op.build 65 #[], type := 65, pos := "l05_choose.go:60", after := #[], guard := none }) (v := ?_) rfl (by kernel_rfl) (by kernel_rfl) (by kernel_rfl) (fun _ _ _ h => h) (Or.inl ⟨by rfl, ?_⟩) (by assumption) ?_
      rotate_left 1
      · intro w hSw
        (try dsimp only at hSw)
        first | (go_simp; done) | (go_simp; with_reducible rfl)
      try simp only [Act.put, List.setIfInBounds_toArray, List.set_cons_zero, List.set_cons_succ]
      refine wpAnyH_ready (rs := [10]) (by kernel_rfl) (by simp) ?_
      refine AllReadyH.cons (o := { dst := none, op := Op.mapUpdate 63 (Operand.tmp 32) (Operand.tmp 33) (Operand.tmp 40), type := 0, pos := "l05_choose.go:60", after := #[{ on := 0, ground := Ground.data }, { on := 1, ground := Ground.data }, { on := 8, ground := Ground.data }, { on := 0, ground := Ground.phase }, { on := 1, ground := Ground.phase }, { on := 2, ground := Ground.textOnly Departure.lateStores }, { on := 3, ground := Ground.textOnly Departure.lateStores }, { on := 4, ground := Ground.textOnly Departure.lateStores }, { on := 5, ground := Ground.textOnly Departure.lateStores }, { on := 6, ground := Ground.textOnly Departure.lateStoresUnsure }, { on := 7, ground := Ground.phase }, { on := 8, ground := Ground.phase }, { on := 9, ground := Ground.textOnly Departure.lateStoresUnsure }], guard := none }) rfl (fun K hK => ?_) AllReadyH.nil
      refine step_setPut rfl _ _ _ rfl w1.heap.size acc (i : Int) rfl s0' rfl (by omega) rfl (by omega) ?_
      intro w4 s4 g4
      have p0 := s0'.cells g4 q0
      have p1 := s0'.cells g4 q1
      have p2 := s0'.cells g4 q2
      have p3 := s0'.cells g4 q3
      have s4' := s1'.kept g4 (by simp)
      refine hK.out _ _ ?_ (fun hHeld => ?_)
      · go_keep
      clear hK K
      try simp only [Act.put]
      refine wpAnyH_ready (rs := [11]) (by kernel_rfl) (by simp) ?_
      refine AllReadyH.cons (o := { dst := some 42, op := Op.mapEntry 63 (Operand.tmp 34) (Operand.tmp 39), type := 0, pos := "l05_choose.go:60", after := #[{ on := 2, ground := Ground.data }, { on := 7, ground := Ground.data }, { on := 10, ground := Ground.chain }, { on := 0, ground := Ground.phase }, { on := 1, ground := Ground.phase }, { on := 2, ground := Ground.textOnly Departure.tupleMapEntryFirst }, { on := 3, ground := Ground.textOnly Departure.tupleMapEntryFirst }, { on := 4, ground := Ground.textOnly Departure.tupleMapEntryFirst }, { on := 5, ground := Ground.textOnly Departure.tupleMapEntryFirst }, { on := 6, ground := Ground.textOnly Departure.lateStoresUnsure }, { on := 7, ground := Ground.phase }, { on := 8, ground := Ground.phase }, { on := 9, ground := Ground.textOnly Departure.lateStoresUnsure }, { on := 10, ground := Ground.phase }], guard := none }) rfl (fun K hK => ?_) AllReadyH.nil
      refine step_setEntry rfl _ _ rfl (w1.heap.size + 1) L (d : Int) rfl s4' rfl (by omega) hdn (by omega) ?_
      rintro w5 st s5 g5 ⟨w6, r6, s6, g6⟩
      have u0 := s4'.cells g5 p0
      have u1 := s4'.cells g5 p1
      have u2 := s4'.cells g5 p2
      have u3 := s4'.cells g5 p3
      have y0 := s5.cells g6 u0
      have y1 := s5.cells g6 u1
      have y2 := s5.cells g6 u2
      have y3 := s5.cells g6 u3
      refine hK.out _ _ ?_ (fun hHeld => ?_)
      · go_keep
      clear hK K
      try simp only [Act.put, List.setIfInBounds_toArray, List.set_cons_zero, List.set_cons_succ]
      refine wpAnyH_take (i := 12) (oi := { dst := some 43, op := Op.extract (Operand.tmp 42) 1, type := 3, pos := "l05_choose.go:60", after := #[{ on := 11, ground := Ground.data }], guard := none }) (v := ?_) rfl (by kernel_rfl) (by kernel_rfl) (by kernel_rfl) (fun _ _ _ h => h) (Or.inl ⟨by rfl, ?_⟩) (by assumption) ?_
      rotate_left 1
      · intro w hSw
        (try dsimp only at hSw)
        first | (go_simp; done) | (go_simp; with_reducible rfl)
      try simp only [Act.put, List.setIfInBounds_toArray, List.set_cons_zero, List.set_cons_succ]
      refine wpAnyH_ready (rs := [13]) (by kernel_rfl) (by simp) ?_
      refine AllReadyH.cons (o := { dst := none, op := Op.entryStore 63 (Operand.tmp 34) (Operand.tmp 43) (Operand.tmp 41), type := 0, pos := "l05_choose.go:60", after := #[{ on := 2, ground := Ground.data }, { on := 12, ground := Ground.data }, { on := 9, ground := Ground.data }, { on := 11, ground := Ground.chain }, { on := 0, ground := Ground.phase }, { on := 1, ground := Ground.phase }, { on := 2, ground := Ground.phase }, { on := 3, ground := Ground.phase }, { on := 4, ground := Ground.phase }, { on := 5, ground := Ground.phase }, { on := 6, ground := Ground.phase }, { on := 7, ground := Ground.phase }, { on := 8, ground := Ground.phase }, { on := 9, ground := Ground.phase }, { on := 10, ground := Ground.phase }, { on := 11, ground := Ground.phase }], guard := none }) rfl (fun K hK => ?_) AllReadyH.nil
      refine step_entryStore rfl _ _ _ rfl (w1.heap.size + 1) st rfl rfl rfl r6 ?_
      refine hK.out _ _ ?_ (fun hHeld => ?_)
      · go_keep
      clear hK K
      try simp only [Act.put]
      refine wpAnyH_done (by kernel_rfl) ?_ _
      refine OnlyN.normal ?_
      have v1 := s5.cells g6 (s4'.cells g5 (s0'.cells g4 k1'))
      have kF6 : KeepsFrom W0.heap.size W w6 := ((kF.trans (KeepsFrom.of_grownBy (grownBy_drew w3 none) (fun j e => by cases e))).trans (s0'.keepsFrom (by omega) g4)).trans ((s4'.keepsFrom (by omega) g5).trans (s5.keepsFrom (by omega) g6))
      have kC6 : KeepC W0.heap.size W w6 := (kC.drew.trans (keepC_set s0' g4)).trans ((keepC_set s4' g5).trans (keepC_set s5 g6))
      have hna : (i : Int) ∉ acc := not_mem_of_dom (ds := ds) (by rw [dUnhide E3, dUnhide HL]; exact hdn)
      have hasc := putA_asc (dUnhide HI).1 hna
      have m6 := ((s4.kept g5 (by simp)).kept g6 (by simp)).perm (ys := putA (i : Int) acc) (by
        unfold addD
        rw [if_neg (by simpa using hna)]
        exact putA_perm (nodup_of_asc (dUnhide HI).1) hna (nodup_of_asc hasc))
      have t6 := s6.perm (ys := domsOf ds (putA (i : Int) acc)) (by
        have := doms_put_perm ds (i : Int) acc
        rw [dUnhide E3, dUnhide HL] at this
        exact this)
      have b4 : Below w.heap.size w w6 := (((dUnhide HA3).below.drew.grown g4 (by have := (dUnhide HA3).below.size; exact this) (fun j e => by cases e; omega)).grown g5 (by have := (dUnhide HA3).below.drew.size; have := g4.size; omega) (fun j e => by cases e; omega)).grown g6 (by have := (dUnhide HA3).below.drew.size; have := g4.size; have := g5.size; omega) (fun j e => by cases e; omega)
      have A6 : ChoAt w w.heap.size w1.heap.size (.slice (some ⟨b', off, none⟩) ds.length cap) ds cop (putA (i : Int) acc) w6 := ⟨⟨y0, v1⟩, y1, y2, m6, t6, b4⟩
      have e5 : Hid (choL ds cop (pre'.map Subtype.val) = putA (i : Int) acc) := by
        rw [Hid, dUnhide hst, choStep, if_pos ⟨hlc, by rw [dUnhide E3, dUnhide HL]; exact hdn⟩]
      have hln := fun ty => m6.len ty
      have hpl : ((putA (i : Int) acc).length : Int) = (acc.length : Int) + 1 := by rw [putA_len]; omega
      rw [hpl] at hln
      have HP := dHide hpl
      clear hHeld HA3 s0' s1' s4 s4' s5 s6 g4 g5 g6 m6 t6 b4 hasc hna kF kC q0 q1 q2 q3 p0 p1 p2 p3 u0 u1 u2 u3 y0 y3 hpl r6
      by_cases hcq : (acc.length : Int) + 1 = cop
      · have hdq : decide ((acc.length : Int) + 1 = cop) = true := decide_eq_true hcq
        gi_wp2
        refine ⟨kF6, ?_⟩
        dsimp only
        rw [dUnhide e5]
        exact ⟨A6, rfl, by rw [dUnhide HP]; omega⟩
      · have hdq : decide ((acc.length : Int) + 1 = cop) = false := decide_eq_false hcq
        gi_wp2
        refine ⟨kF6, kC6, ?_⟩
        dsimp only
        rw [dUnhide e5]
        exact ⟨A6, by rw [dUnhide HP]; omega⟩
    · have hdy := dHide (hbb.1 rfl)
      clear hbb
      have e5 : Hid (choL ds cop (pre'.map Subtype.val) = acc) := by
        rw [Hid, dUnhide hst, choStep, if_neg (fun h => h.2 (by rw [dUnhide E3, dUnhide HL]; exact dUnhide hdy))]
      gi_wp2
      refine ⟨kF, kC, ?_⟩
      dsimp only
      rw [dUnhide e5]
      exact ⟨A3, hlc⟩
  case done =>
    rintro D ys W hD hS ⟨hat, hlc⟩ hK
    have hch : choL ds cop (ys.map Subtype.val) = chooseL ds cop xs F := by rw [chooseL, hS]
    have hinv : ChoInv ds cop xs (choL ds cop (ys.map Subtype.val)) := choL_inv (by omega) (ys.map Subtype.val) [] (fun y hy => by obtain ⟨q, -, rfl⟩ := List.mem_map.1 hy; exact q.2) (ChoInv.nil (by omega))
    rw [hch] at hinv hlc
    have hset : SetN W w1.heap.size (chooseL ds cop xs F) := by rw [← hch]; exact hat.s0
    have hasc := hinv.1
    clear hinv hch hS
    have CS := dHide ((callsIn_wide (n := 8)).2 (setSorted_any w1.heap.size (chooseL ds cop xs F) W hset hasc (by omega)))
    have k2 := hat.ch
    have HB := dHide hat.below
    have hlt := (Array.getElem?_eq_some_iff.1 hK).1
    clear hat hset hasc A0 hseq HC
    gi_wp2_with (gi_at_call 42; refine (dUnhide CS).mono ?_; rintro e w9 ⟨⟨o, rfl, ho⟩, b9⟩)
    have hK9 : w9.heap[D]? = some (.deferred (some [])) := (b9.block D hlt).trans hK
    refine ⟨by simp, .inl ⟨_, _, rfl, run_takeDeferred hK9, ?_⟩⟩
    refine ⟨_, results_tmp2 rfl _ _ _, ⟨o, rfl, (ho.turn hlt _).mono (dUnhide HB).size⟩, ?_⟩
    exact (belowThen (dUnhide HB) b9).trans (belowK_b (w := w) (Nat.le_refl _) w9 D _ _ (by omega) hK9 rfl rfl)
  case stop =>
    rintro D c pre W hD hS ⟨hat, rfl, hlc⟩ hK
    obtain ⟨zs, hzs⟩ := hS
    have hch : choL ds cop (pre.map Subtype.val) = chooseL ds cop xs F := by
      have h1 : (rotL xs (F % xs.length)).take (pre.map Subtype.val).length = pre.map Subtype.val := by rw [← hzs]; simp
      have h2 := choL_stop (ds := ds) (cop := cop) (xs := rotL xs (F % xs.length)) (pre.map Subtype.val).length (by rw [h1]; exact hlc)
      rw [chooseL, h2, h1]
    have hinv : ChoInv ds cop xs (choL ds cop (pre.map Subtype.val)) := choL_inv (by omega) (pre.map Subtype.val) [] (fun y hy => by obtain ⟨q, -, rfl⟩ := List.mem_map.1 hy; exact q.2) (ChoInv.nil (by omega))
    rw [hch] at hinv hlc
    have hset : SetN W w1.heap.size (chooseL ds cop xs F) := by rw [← hch]; exact hat.s0
    have hasc := hinv.1
    have hln := hinv.2.2.2
    clear hinv hch hzs
    have CS := dHide ((callsIn_wide (n := 8)).2 (setSorted_any w1.heap.size (chooseL ds cop xs F) W hset hasc (by omega)))
    have k2 := hat.ch
    have HB := dHide hat.below
    have hlt := (Array.getElem?_eq_some_iff.1 hK).1
    clear hat hset hasc A0 hseq HC
    gi_wp2_with (gi_at_call 42; refine (dUnhide CS).mono ?_; rintro e w9 ⟨⟨o, rfl, ho⟩, b9⟩)
    have hK9 : w9.heap[D]? = some (.deferred (some [])) := (b9.block D hlt).trans hK
    refine ⟨by simp, .inl ⟨_, _, rfl, run_takeDeferred hK9, ?_⟩⟩
    refine ⟨_, results_tmp2 rfl _ _ _, ⟨o, rfl, (ho.turn hlt _).mono (dUnhide HB).size⟩, ?_⟩
    exact (belowThen (dUnhide HB) b9).trans (belowK_b (w := w) (Nat.le_refl _) w9 D _ _ (by omega) hK9 rfl rfl)
set_option maxHeartbeats 2000000 in
theorem implChoose_no (sv v : Value) (ds xs : List Int) (cop frm : Int) (w : World) (hd : Ns w sv ds) (hv : Ns w v xs) (had : allInt ds) (hax : allInt xs) (hld : ds.length ≤ 1048576) (hlx : xs.length ≤ 1048576) (c0 : -9223372036854775808 ≤ cop) (c1 : cop ≤ 9223372036854775807)
    (hf : -9223372036854775808 ≤ frm ∧ frm ≤ 9223372036854775807) (hn : ¬ (holdsP ds cop xs ∧ 0 ≤ frm)) :
    Calls Try.prog 17 #[.agg #[sv, .int .i64 cop], v, .int .i64 frm] w fun e w' => (∃ o, e = .returned (.tuple #[o, .bool false]) ∧ OwnN w' w.heap.size o []) ∧ Below w.heap.size w w' := by
  have hb0 : ∀ o, Below w.heap.size w (w.alloc o) := fun o => (Below.refl _ _).alloc (Nat.le_refl _) o
  have CH := dHide fun o => implHolds_any sv v ds xs cop (w.alloc o) (hd.below (hb0 o)) (hv.below (hb0 o)) had hax hld hlx c0 c1
  obtain ⟨h0, a, cap, rfl, -, -⟩ := hd
  obtain ⟨h0', a', cap', rfl, -, -⟩ := hv
  clear had hax
  by_cases h : frm < 0
  · have hd1 : decide (frm < 0) = true := decide_eq_true h
    clear hn CH
    go_enter Try.func17, Try.ntmps17
    go_wp2
    go_ret2
    exact ⟨⟨_, rfl, ownN_none0 _ _⟩, hb0 _⟩
  · have hd1 : decide (frm < 0) = false := decide_eq_false h
    have HN : Hid (¬ holdsP ds cop xs) := fun hh => hn ⟨hh, by omega⟩
    clear hn
    go_enter Try.func17, Try.ntmps17
    go_wp2_with fail
    refine (dUnhide CH _).mono ?_
    rintro e w1 ⟨hr, b1⟩
    obtain rfl := hr.of_no (dUnhide HN)
    have B1 := belowThen (hb0 _) b1
    clear hr b1 hb0 CH
    go_wp2
    go_ret2
    exact ⟨⟨_, rfl, ownN_none0 _ _⟩, B1⟩
end Go.Proofs.Ytofklfjomofijaa
