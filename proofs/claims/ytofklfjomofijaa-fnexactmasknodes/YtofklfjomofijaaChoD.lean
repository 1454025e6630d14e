/- spec's Choose. -/
import Derived.Test.YtofklfjomofijaaChoC
import Derived.Test.YtofklfjomofijaaAppN
import Derived.Test.YtofklfjomofijaaDrwD
import Derived.Test.YtofklfjomofijaaDomF
import Derived.Deep.RegionHeld3
import Derived.Deep.DeepCutAuto
namespace Go.Proofs.Ytofklfjomofijaa
open Go.ChangeShapes Go.WideShapes Go.ChangeAt Go.RowKit
set_option linter.unusedVariables false
set_option linter.unusedSimpArgs false

/-- Ascending numbers from lo to hi are at most so many. -/
theorem asc_len {lo hi : Int} : ∀ xs : List Int, xs.Pairwise (· < ·) → (∀ x ∈ xs, lo ≤ x ∧ x ≤ hi) → (xs.length : Int) ≤ max 0 (hi - lo + 1)
  | [], _, _ => by simp; omega
  | x :: xs, h, hb => by
    obtain ⟨h1, h2⟩ := List.pairwise_cons.1 h
    have hx := hb x (by simp)
    have := asc_len (lo := x + 1) (hi := hi) xs h2 fun y hy => ⟨by have := h1 y hy; omega, (hb y (by simp [hy])).2⟩
    simp only [List.length_cons]
    omega
theorem nodes_len {ds xs : List Int} {cop : Int} (h : nodesP ds cop xs) : xs.length ≤ ds.length := by
  have := asc_len xs ((ascP_iff _ _ _).1 h.2).1 ((ascP_iff _ _ _).1 h.2).2
  have hd := h.1.1
  omega
theorem inP_snoc {ds set acc : List Int} {cop x : Int} (h : nodesP ds cop set) (ha : ∀ y ∈ acc, y ∈ set) (hx : x ∈ set) : inP ds cop (acc ++ [x]) := by
  have hb := ((ascP_iff _ _ _).1 h.2).2
  refine ⟨h.1, fun i hi => hb _ ?_⟩
  rcases List.mem_append.1 (List.getElem_mem hi) with h1 | h1
  · exact ha _ h1
  · rw [List.mem_singleton.1 h1]; exact hx
theorem inP_sub {ds set acc : List Int} {cop : Int} (h : nodesP ds cop set) (ha : ∀ y ∈ acc, y ∈ set) : inP ds cop acc := by
  have hb := ((ascP_iff _ _ _).1 h.2).2
  exact ⟨h.1, fun i hi => hb _ (ha _ (List.getElem_mem hi))⟩
set_option maxHeartbeats 4000000 in
theorem specChoose_no (sv v : Value) (ds xs : List Int) (cop frm : Int) (w : World) (hd : Ns w sv ds) (hv : Ns w v xs) (hl : xs.length ≤ 1000000000) (hn : ¬ (holdsP ds cop xs ∧ 0 ≤ frm)) :
    Calls Try.prog 18 #[.agg #[sv, .int .i64 cop], v, .int .i64 frm] w fun e w' => (∃ o, e = .returned (.tuple #[o, .bool false]) ∧ OwnN w' w.heap.size o []) ∧ Below w.heap.size w w' := by
  have hb0 : ∀ o o', Below w.heap.size w ((w.alloc o).alloc o') := fun o o' => ((Below.refl _ _).alloc (Nat.le_refl _) o).alloc (by simp) o'
  have C1 := dHide fun W (hb : Below w.heap.size w W) => specNodes_any sv v ds xs cop W (hd.below hb) (hv.below hb)
  have C2 := dHide fun W (hb : Below w.heap.size w W) => specHolds_any sv v ds xs cop W (hd.below hb) (hv.below hb) (by omega)
  obtain ⟨h0, a, cap, rfl, -, -⟩ := hd
  obtain ⟨h0', a', cap', rfl, -, -⟩ := hv
  have T0 : Two ((w.alloc (.cells #[.slice a ds.length cap, .int .i64 cop] 31)).alloc (.cells #[] 3)) w.heap.size (.slice a ds.length cap) (.int .i64 cop) := ⟨by simp, by simp⟩
  have HT0 := dHide T0
  have hq : Hid (∀ (w : World) n, OwnN w n (.slice (some ⟨n + 1, 0, none⟩) 0 0) []) := fun w n => ⟨by simp, _, _, rfl, by simp, .inl rfl⟩
  clear T0
  go_enter Try.func18, Try.ntmps18
  go_wp2_with fail
  refine (dUnhide C1 _ (hb0 _ _)).mono ?_
  rintro e w1 ⟨hr, b1⟩
  have T1 := (dUnhide HT0).kept b1
  have HT1 := dHide T1
  obtain ⟨k0, k1⟩ := T1
  have B1 := belowThen (hb0 _ _) b1
  clear b1 hb0 C1 HT0
  by_cases h1 : nodesP ds cop xs
  · obtain rfl := hr.of_yes h1
    clear hr
    by_cases hf : frm < 0
    · have hd : decide (frm < 0) = true := decide_eq_true hf
      clear hn h1 hf
      go_wp2
      go_ret2
      exact ⟨⟨_, rfl, dUnhide hq _ _⟩, B1⟩
    · have hd : decide (frm < 0) = false := decide_eq_false hf
      have hh : Hid (¬ holdsP ds cop xs) := fun h => hn ⟨h, by omega⟩
      clear hn h1 hf
      go_wp2_with fail
      refine (dUnhide C2 _ B1).mono ?_
      rintro e w2 ⟨hr, b2⟩
      obtain rfl := hr.of_no (dUnhide hh)
      have B2 := belowThen B1 b2
      clear hr b2 B1 C2 k0 k1
      go_wp2
      go_ret2
      exact ⟨⟨_, rfl, dUnhide hq _ _⟩, B2⟩
  · obtain rfl := hr.of_no h1
    clear hr h1 hn
    go_wp2
    go_ret2
    exact ⟨⟨_, rfl, dUnhide hq _ _⟩, B1⟩
set_option maxHeartbeats 8000000 in
set_option maxRecDepth 100000 in
theorem specChoose_yes (sv v : Value) (ds xs : List Int) (cop : Int) (F : Nat) (w : World) (hd : Ns w sv ds) (hv : Ns w v xs) (hF : F ≤ 9223372036854775807) (hh : holdsP ds cop xs) (hl : xs.length ≤ 1000000) :
    Calls Try.prog 18 #[.agg #[sv, .int .i64 cop], v, .int .i64 (F : Int)] w fun e w' => (∃ o, e = .returned (.tuple #[o, .bool true]) ∧ OwnN w' w.heap.size o (chooseL ds cop xs F)) ∧ Below w.heap.size w w' := by
  have hb0 : ∀ o o', Below w.heap.size w ((w.alloc o).alloc o') := fun o o' => ((Below.refl _ _).alloc (Nat.le_refl _) o).alloc (by simp) o'
  have C1 := dHide fun W (hb : Below w.heap.size w W) => specNodes_any sv v ds xs cop W (hd.below hb) (hv.below hb)
  have C2 := dHide fun W (hb : Below w.heap.size w W) => specHolds_any sv v ds xs cop W (hd.below hb) (hv.below hb) (by omega)
  have C3 := dHide fun W (hb : Below w.heap.size w W) u zs (hu : Ns W u zs) (hi : inP ds cop zs) (hz : zs.length ≤ 1000000000) => l4Span_in sv u ds zs cop W (hd.below hb) hu hi hz
  have HV := dHide fun W (hb : Below w.heap.size w W) => hv.below hb
  obtain ⟨h0, a, cap, rfl, -, -⟩ := hd
  obtain ⟨h0', a', cap', rfl, -, -⟩ := hv
  have T0 : Two ((w.alloc (.cells #[.slice a ds.length cap, .int .i64 cop] 31)).alloc (.cells #[] 3)) w.heap.size (.slice a ds.length cap) (.int .i64 cop) := ⟨by simp, by simp⟩
  have HT0 := dHide T0
  have hrow0 : ((w.alloc (.cells #[.slice a ds.length cap, .int .i64 cop] 31)).alloc (.cells #[] 3)).ownsRow w.heap.size 3 1 (.slice (some ⟨w.heap.size + 1, 0, none⟩) 0 0) 0 (ncells []) := by
    have := World.ownsRow_made (base := w.heap.size) (e := 3) (size := 1) (w.alloc (.cells #[.slice a ds.length cap, .int .i64 cop] 31)) #[] 0 (by simp) (by decide) (by simp)
    simpa [ncells] using this
  have HR0 := dHide hrow0
  have HH := dHide hh
  have hcop := hh.1.1.2.1
  have hn1 : 1 ≤ xs.length := by
    have h1 := hh.2
    have h2 := spanN_le_len ds xs
    omega
  clear T0 hrow0 hh
  have hdf : decide ((F : Int) < 0) = false := decide_eq_false (by omega)
  go_enter Try.func18, Try.ntmps18
  go_wp2_with fail
  refine (dUnhide C1 _ (hb0 _ _)).mono ?_
  rintro e w1 ⟨hr, b1⟩
  obtain rfl := hr.of_yes (dUnhide HH).1
  have T1 := (dUnhide HT0).kept b1
  have HT1 := dHide T1
  have HR1 := dHide (rowN_below (dUnhide HR0) b1)
  obtain ⟨k0, k1⟩ := T1
  have B1 := belowThen (hb0 _ _) b1
  clear b1 hb0 C1 HT0 HR0 hr
  go_wp2_with fail
  refine (dUnhide C2 _ B1).mono ?_
  rintro e w2 ⟨hr, b2⟩
  obtain rfl := hr.of_yes (dUnhide HH)
  have B2 := belowThen B1 b2
  have T2 := (dUnhide HT1).kept b2
  have R2 := rowN_below (dUnhide HR1) b2
  clear hr b2 B1 C2 k0 k1 HT1 HR1
  have ER : Hid (chooseL ds cop xs F = choL ds cop (rotL xs (F % xs.length))) := rfl
  have hrl := rotL_len xs (F % xs.length)
  have hrn : F % xs.length < xs.length := Nat.mod_lt _ (by omega)
  have HG := dHide (fun i => rotL_get xs (F % xs.length) i hrn)
  have HM := dHide (fun x => (mem_rotL (xs := xs) (r := F % xs.length) (x := x)).1)
  generalize hR : rotL xs (F % xs.length) = R at *
  have HRL := dHide hrl
  clear hR hrl
  go_wp2
  go_loopw [8, 10] (fun o x wr => ∃ k : Nat, x = .int .i64 (k : Int) ∧ k ≤ xs.length ∧ wr.ownsRow w.heap.size 3 1 o (choL ds cop (R.take k)).length (ncells (choL ds cop (R.take k))) ∧ Two wr w.heap.size (.slice a ds.length cap) (.int .i64 cop) ∧ Below w.heap.size w wr) (fun _ x _ => xs.length - (intOf x).toNat)
  case atStart => exact ⟨0, rfl, Nat.zero_le _, R2, T2, B2⟩
  case round =>
    obtain ⟨k, rfl, hk, hrow, hT, hb⟩ := hrel
    clear R2 T2 B2
    have hinv : Hid (ChoInv ds cop xs (choL ds cop (R.take k))) := choL_inv (by omega) _ [] (fun x hx => dUnhide HM x (List.mem_of_mem_take hx)) (ChoInv.nil (by omega))
    by_cases hlt : (k : Int) < (xs.length : Int)
    · have hkR : k < R.length := by rw [dUnhide HRL]; omega
      have hst := dHide (choL_take ds cop R k hkR)
      have hget := dHide (dUnhide HG k hkR)
      have hstop := dHide (fun h => choL_stop (ds := ds) (xs := R) (cop := cop) k h)
      have HX : Hid (R[k] ∈ xs) := dUnhide HM _ (List.getElem_mem hkR)
      generalize R[k] = x at *
      generalize choL ds cop (R.take k) = acc at *
      have ns := dHide (rowN_ns hrow)
      have HT := dHide hT
      obtain ⟨k0, k1⟩ := hT
      obtain ⟨oa, on, oc, rfl⟩ := rowN_slice hrow
      have hon := rowN_len hrow
      subst hon
      by_cases hlc : (acc.length : Int) < cop
      · have hdc : decide ((acc.length : Int) < cop) = true := decide_eq_true hlc
        obtain ⟨-, a9, c9, h9, -, hu⟩ := dUnhide HV wr hb
        cases h9
        obtain ⟨g, off, rfl, hc⟩ := orN_of_lt hu (k := (F % xs.length + k) % xs.length) (Nat.mod_lt _ (by omega))
        have c1 : wr.cell? ⟨g, off + (F % xs.length + k) % xs.length, none⟩ = some (.int .i64 x) := by rw [dUnhide hget]; exact hc _ (Nat.mod_lt _ (by omega))
        rw [Nat.mod_add_mod] at c1
        obtain ⟨j, hj⟩ : ∃ j, (F + k) % xs.length = j := ⟨_, rfl⟩
        have hjl : j < xs.length := by rw [← hj]; exact Nat.mod_lt _ (by omega)
        have hj1 : ((F : Int) + (k : Int)) % (xs.length : Int) = (j : Int) := by rw [← hj]; simp
        have hj2 : (0 : Int) ≤ (j : Int) := by omega
        have hj3 : (j : Int) < (xs.length : Int) := by omega
        rw [hj] at c1
        clear hu hc hj hget HG
        have hbr : Below wr.heap.size wr wr.drew := (Below.refl _ _).drew
        have rOE : Hid (((wr.drew.alloc (.cells #[.int .i64 x] 3)).alloc (.cells #[] 3)).ownsRow wr.heap.size 3 1 (.slice (some ⟨wr.heap.size + 1, 0, none⟩) 0 0) 0 (ncells [])) := by
          have := World.ownsRow_made (base := wr.heap.size) (e := 3) (size := 1) (wr.drew.alloc (.cells #[.int .i64 x] 3)) #[] 0 (by simp) (by decide) (by simp)
          simpa [Hid, ncells] using this
        have sEO : Hid (∀ j u, (ncells [x])[j]? = some u → ((wr.drew.alloc (.cells #[] 3)).alloc (.cells #[.int .i64 x] 3)).cell? ((⟨wr.heap.size + 1, 0, none⟩ : Addr).add j) = some u) := by
          have e : (wr.drew.alloc (.cells #[] 3)).heap.size = wr.heap.size + 1 := by simp
          have := one_int (wr.drew.alloc (.cells #[] 3)) x 3
          rw [e] at this
          exact this
        have hal : acc.length ≤ 4 := by omega
        have I1 := dHide (inP_snoc (dUnhide HH).1 (dUnhide hinv).2.1 (dUnhide HX))
        have I2 := dHide (inP_sub (dUnhide HH).1 (dUnhide hinv).2.1)
        have SP := dHide (span_snoc ds acc x)
        have L1 := spanN_le_len ds (acc ++ [x])
        have L2 := spanN_le_len ds acc
        have CN := dHide (fun W hB u hu => dUnhide C3 W hB u (acc ++ [x]) hu (dUnhide I1) (by simp; omega))
        have CO := dHide (fun W hB u hu => dUnhide C3 W hB u acc hu (dUnhide I2) (by omega))
        generalize hN1 : spanN ds (acc ++ [x]) = N1 at *
        generalize hN0 : spanN ds acc = N0 at *
        clear hN1 hN0 I1 I2
        have hl5 : (acc ++ [x]).length = acc.length + 1 := by simp
        rw [hl5] at L1
        clear hl5
        go_wp2_with fail
        go_cut [63] (fun sv wx => ∃ bq : Bool, sv = .bool bq ∧ (bq = true ↔ N0 < N1) ∧ Below wr.heap.size wr wx)
        case first =>
          go_region_held3 (fun W => W.cell? ⟨w.heap.size, 0, none⟩ = some (.slice a ds.length cap) ∧ W.cell? ⟨w.heap.size, 1, none⟩ = some (.int .i64 cop)) (first | exact ⟨cD, cD'⟩ | exact ⟨cB, cB'⟩ | go_keep)
            (first
              | (go_at_call 45; refine (dUnhide CO _ (belowThen hb hb7) _ ((dUnhide ns).below hb7)).mono ?_; rintro e w8 ⟨rfl, b8⟩; have hb8 := belowThen hb7 b8; obtain ⟨cD, cD'⟩ := (dUnhide HT).kept hb8)
              | (go_at_call 45; refine (dUnhide CN _ (belowThen hb hb6) _ (rowN_ns o6)).mono ?_; rintro e w7 ⟨rfl, b7⟩; have hb7 := belowThen hb6 b7; obtain ⟨cD, cD'⟩ := (dUnhide HT).kept hb7)
              | (refine step_appN rfl _ _ rfl wr.heap.size _ ([] ++ acc) rfl o5 _ 1 x rfl s5 (by simp; omega) hb5.size ?_; intro v6 w6 o6 r6; have l5 := o5.lt; have hb6 : Below wr.heap.size wr w6 := hb5.grown r6 hb5.size (fun k hk => (l5 k hk).1); obtain ⟨cD, cD'⟩ := (dUnhide HT).kept hb6)
              | (refine step_appN rfl _ _ rfl wr.heap.size _ ([] ++ acc) rfl (o5.alloc _) w5.heap.size 1 x rfl (one_int _ _ _) (by simp; omega) (by have := hb5.size; simp; omega) ?_; intro v6 w6 o6 r6; have l5 := o5.lt; have hb6 : Below wr.heap.size wr w6 := (belowThen hb5 ((Below.refl _ _).alloc (Nat.le_refl _) (.cells #[.int .i64 x] 3))).grown r6 (by have := hb5.size; simp; omega) (fun k hk => (l5 k hk).1); obtain ⟨cD, cD'⟩ := (dUnhide HT).kept hb6)
              | (refine step_appNs rfl _ _ rfl wr.heap.size _ [] rfl (World.ownsRow_made wr.drew #[] 0 (Nat.le_refl _) (by decide) (by simp)) _ acc rfl ((dUnhide ns).below ((belowThen hbr ((Below.refl _ _).alloc (Nat.le_refl _) (.cells #[] 3))))) (by simp; omega) (by simp <;> omega) ?_; intro v5 w5 o5 r5; have hb5 : Below wr.heap.size wr w5 := ((belowThen hbr ((Below.refl _ _).alloc (Nat.le_refl _) (.cells #[] 3)))).grown r5 (by simp <;> omega) (fun k hk => by have h1 := Option.some.inj hk; simp at h1; omega); obtain ⟨cB, cB'⟩ := (dUnhide HT).kept hb5)
              | (refine step_appNs rfl _ _ rfl wr.heap.size _ [] rfl ((World.ownsRow_made wr.drew #[] 0 (Nat.le_refl _) (by decide) (by simp)).alloc (.cells #[.int .i64 x] 3)) _ acc rfl ((dUnhide ns).below ((belowThen (belowThen hbr ((Below.refl _ _).alloc (Nat.le_refl _) (.cells #[] 3))) ((Below.refl _ _).alloc (Nat.le_refl _) (.cells #[.int .i64 x] 3))))) (by simp; omega) (by simp <;> omega) ?_; intro v5 w5 o5 r5; have hb5 : Below wr.heap.size wr w5 := ((belowThen (belowThen hbr ((Below.refl _ _).alloc (Nat.le_refl _) (.cells #[] 3))) ((Below.refl _ _).alloc (Nat.le_refl _) (.cells #[.int .i64 x] 3)))).grown r5 (by simp <;> omega) (fun k hk => by have h1 := Option.some.inj hk; simp at h1; omega); obtain ⟨cB, cB'⟩ := (dUnhide HT).kept hb5; have s5 := src_grown (dUnhide sEO) r5 (fun e => by have h1 := Option.some.inj e; simp at h1))
              | (refine step_appNs rfl _ _ rfl wr.heap.size _ [] rfl (dUnhide rOE) _ acc rfl ((dUnhide ns).below ((belowThen (belowThen hbr ((Below.refl _ _).alloc (Nat.le_refl _) (.cells #[.int .i64 x] 3))) ((Below.refl _ _).alloc (Nat.le_refl _) (.cells #[] 3))))) (by simp; omega) (by simp <;> omega) ?_; intro v5 w5 o5 r5; have hb5 : Below wr.heap.size wr w5 := ((belowThen (belowThen hbr ((Below.refl _ _).alloc (Nat.le_refl _) (.cells #[.int .i64 x] 3))) ((Below.refl _ _).alloc (Nat.le_refl _) (.cells #[] 3)))).grown r5 (by simp <;> omega) (fun k hk => by have h1 := Option.some.inj hk; simp at h1; omega); obtain ⟨cB, cB'⟩ := (dUnhide HT).kept hb5; have s5 := src_grown (src_alloc (one_int wr.drew x 3) (.cells #[] 3)) r5 (fun e => by have h1 := Option.some.inj e; simp at h1)))
          all_goals
            go_wp2_with fail
            go_meet
            case rel => exact ⟨_, rfl, decide_eq_true_iff, hb8⟩
        case rest =>
          obtain ⟨bq, rfl, hbq, bc⟩ := hcut
          have hb' := belowThen hb bc
          have hT' := (dUnhide HT).kept bc
          have hrow' := rowN_below hrow bc
          have ns' := dHide ((dUnhide ns).below bc)
          clear hb hrow ns HT bc hbr rOE sEO k0 k1 c1 CN CO
          generalize hwc : wc = w9 at *
          clear hwc
          by_cases hdom : domAt ds x ∈ domsOf ds acc
          · have e1 : N1 = N0 := by rw [dUnhide SP, if_pos hdom]
            have e2 : Hid (choL ds cop (R.take (k + 1)) = acc) := by rw [Hid, dUnhide hst, choStep, if_neg (fun h => h.2 hdom)]
            obtain rfl : bq = false := by cases bq; rfl; exact absurd (hbq.1 rfl) (by omega)
            clear hdom SP e1 hst hbq
            go_wp2
            go_roundw
            case rel => exact ⟨k + 1, by go_num, by omega, by rw [dUnhide e2]; exact hrow', hT', hb'⟩
            case measure => simp [intOf]; omega
          · have e1 : N1 = N0 + 1 := by rw [dUnhide SP, if_neg hdom]
            have e2 : Hid (choL ds cop (R.take (k + 1)) = putA x acc) := by rw [Hid, dUnhide hst, choStep, if_pos ⟨hlc, hdom⟩]
            obtain rfl : bq = true := hbq.2 (by omega)
            have CP := dHide (l4Put_new _ acc x w9 (dUnhide ns') (by omega) (not_mem_of_dom hdom))
            clear hdom SP e1 hst hbq
            go_wp2_with fail
            refine (dUnhide CP).mono ?_
            rintro e w10 ⟨⟨u, rfl, o10⟩, b10⟩
            have hb10 := belowThen hb' b10
            have hT10 := hT'.kept b10
            have hrow10 := rowN_mono o10 hb'.size
            clear o10 b10 hb' hT' hrow' ns' CP
            go_wp2
            go_roundw
            case rel => exact ⟨k + 1, by go_num, by omega, by rw [dUnhide e2]; exact hrow10, hT10, hb10⟩
            case measure => simp [intOf]; omega
      · have hdc : decide ((acc.length : Int) < cop) = false := decide_eq_false hlc
        have e2 : Hid (chooseL ds cop xs F = acc) := by rw [Hid, dUnhide ER, dUnhide hstop (by omega)]
        have q : Hid (OwnN wr w.heap.size (.slice oa acc.length oc) (chooseL ds cop xs F)) := by rw [Hid, dUnhide e2]; exact ownN_of_row hrow
        clear hrow hst hget hstop HX ns HG HM HV HT hinv HH C3
        go_wp2
        go_ret2
        exact ⟨⟨_, rfl, dUnhide q⟩, hb⟩
    · have e1 : R.take k = R := List.take_of_length_le (by rw [dUnhide HRL]; omega)
      rw [e1, ← dUnhide ER] at hrow
      have q := dHide (ownN_of_row hrow)
      obtain ⟨oa, on, oc, rfl⟩ := rowN_slice hrow
      clear hrow hinv HG HM HV HH C3 e1
      obtain ⟨k0, k1⟩ := hT
      go_wp2
      go_ret2
      exact ⟨⟨_, rfl, dUnhide q⟩, hb⟩
end Go.Proofs.Ytofklfjomofijaa
