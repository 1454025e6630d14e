/- impl's words of which a node is forgotten: slices.DeleteFunc on ints. -/
import Derived.Test.YtfipenjojgflmaaWrJ
import Derived.Test.YtfipenjojgflmaaWrM
import Derived.Laws.IdiomCopy
import Derived.Lib.SliceRun
namespace Go.Proofs.Ytfipenjojgflmaa
open Go.ChangeShapes Go.WideShapes Go.ChangeAt Go.RowKit
set_option linter.unusedVariables false
set_option linter.unusedSimpArgs false
set_option maxRecDepth 100000

theorem grown_trans {w w1 w2 : World} {b : Nat} (h : w.grownBy w1 (some b)) (h' : w1.grownBy w2 (some b)) : w.grownBy w2 (some b) :=
  ⟨h'.os.trans h.os, h'.tape.trans h.tape, h'.output.trans h.output, Nat.le_trans h.size h'.size, fun k hk hn => (h'.block k (Nat.lt_of_lt_of_le hk h.size) hn).trans (h.block k hk hn)⟩
theorem grown_refl (w : World) (row : Option Nat) : w.grownBy w row := ⟨rfl, rfl, rfl, Nat.le_refl _, fun _ _ _ => rfl⟩
theorem grown_sets (b : Nat) : ∀ (vs : List Value) (o : Nat) (w : World), w.grownBy (w.setCells b o vs) (some b)
  | [], o, w => grown_refl w _
  | v :: vs, o, w => grown_trans (grown_set w b o v) (grown_sets b vs (o + 1) _)
/-- One int of an owned list is another. -/
theorem OwnN.store {w : World} {base b off n cap k : Nat} {xs : List Int} (h : OwnN w base (.slice (some ⟨b, off, none⟩) n cap) xs) (hk : k < xs.length) (z : Int) : OwnN (w.setCell ⟨b, off + k, none⟩ (.int .i64 z)) base (.slice (some ⟨b, off, none⟩) n cap) (xs.set k z) := by
  obtain ⟨h0, a, c, e, hcap, h⟩ := h
  simp only [Value.slice.injEq] at e
  obtain ⟨rfl, rfl, rfl⟩ := e
  refine ⟨by simpa using h0, _, _, by rw [List.length_set], by simpa using hcap, ?_⟩
  rcases h with h | ⟨b', off', e, hb, hc⟩
  · subst h; simp at hk
  · cases e
    refine .inr ⟨b, off, rfl, hb, fun i hi => ?_⟩
    have hi2 : i < xs.length := by simpa using hi
    rw [List.getElem_set]
    by_cases e : i = k
    · subst e
      rw [if_pos rfl]
      exact ⟨World.cell?_setCell_same _ _ _ (hc i hi2).1, (World.frozen?_setCell _ _ _ _).trans (hc i hi2).2⟩
    · rw [if_neg (Ne.symm e)]
      exact ⟨set_other (hc i hi2).1 (.inr (by omega)), (World.frozen?_setCell _ _ _ _).trans (hc i hi2).2⟩
/-- The head of an owned list, behind which zeros are written. -/
theorem OwnN.cut {w : World} {base b off n cap k : Nat} {xs : List Int} (h : OwnN w base (.slice (some ⟨b, off, none⟩) n cap) xs) (hk : k ≤ xs.length) (vs : List Value) (hv : off + k + vs.length ≤ off + xs.length) : OwnN (w.setCells b (off + k) vs) base (.slice (some ⟨b, off, none⟩) k cap) (xs.take k) := by
  obtain ⟨h0, a, c, e, hcap, h⟩ := h
  simp only [Value.slice.injEq] at e
  obtain ⟨rfl, rfl, rfl⟩ := e
  have hl : (xs.take k).length = k := by rw [List.length_take]; omega
  refine ⟨by omega, _, _, by rw [hl], by omega, ?_⟩
  rcases h with h | ⟨b', off', e, hb, hc⟩
  · left; rw [h]; simp
  · cases e
    refine .inr ⟨b, off, rfl, hb, fun i hi => ?_⟩
    have hi2 : i < xs.length := by omega
    rw [List.getElem_take]
    exact ⟨(World.cell?_setCells_out b vs (off + k) w ⟨b, off + i, none⟩ (fun _ _ => .inl (by simp only; omega))).trans (hc i hi2).1, (World.frozen?_setCells b vs (off + k) w _).trans (hc i hi2).2⟩
theorem OwnN.at_ {w : World} {base b off n cap : Nat} {xs : List Int} (h : OwnN w base (.slice (some ⟨b, off, none⟩) n cap) xs) {k : Nat} (hk : k < xs.length) : w.cell? ⟨b, off + k, none⟩ = some (.int .i64 xs[k]) ∧ w.frozen? ⟨b, off + k, none⟩ = false := by
  obtain ⟨h0, a, c, e, hcap, h⟩ := h
  simp only [Value.slice.injEq] at e
  obtain ⟨rfl, rfl, rfl⟩ := e
  rcases h with h | ⟨b', off', e, hb, hc⟩
  · subst h; simp at hk
  · cases e
    exact hc k hk
theorem forgetFn (z x : Int) (bn : Nat) (W : World) (hc : W.cell? ⟨bn, 0, none⟩ = some (.int .i64 x)) :
    Calls Try.prog 106 #[.int .i64 z, .pointer (some ⟨bn, 0, none⟩)] W fun e w' => e = .returned (.bool (z == x)) ∧ w' = W := by
  go_enter Try.func106, Try.ntmps106
  go_wp2
  go_ret
  exact ⟨rfl, rfl⟩
set_option maxHeartbeats 2000000 in
theorem indexN_any (v : Value) (xs : List Int) (x : Int) (bn : Nat) (w : World) (hv : Ns w v xs) (hc : w.cell? ⟨bn, 0, none⟩ = some (.int .i64 x)) :
    Calls Try.prog 112 #[v, .func (.func 106) #[] #[.pointer (some ⟨bn, 0, none⟩)]] w fun e w' => ((x ∉ xs ∧ e = .returned (.int .i64 (-1))) ∨ ∃ k, ∃ h : k < xs.length, (∀ i (h : i < xs.length), i < k → xs[i] ≠ x) ∧ xs[k] = x ∧ e = .returned (.int .i64 (k : Int))) ∧ w' = w := by
  have hF := Try.call106
  obtain ⟨h0, a, cap, rfl, -, hu⟩ := hv
  have HU := dHide hu
  clear hu
  go_enter Try.func112, Try.ntmps112
  go_wp2
  go_loopw [8] (fun y wr => ∃ k : Nat, y = .int .i64 (k : Int) ∧ k ≤ xs.length ∧ Hid (∀ i (h : i < xs.length), i < k → xs[i] ≠ x) ∧ wr = w) (fun y _ => xs.length - (intOf y).toNat)
  case atStart => exact ⟨0, rfl, Nat.zero_le _, fun i h h' => by omega, rfl⟩
  case round =>
    obtain ⟨k, rfl, hk, hcd, rfl⟩ := hrel
    by_cases hlt : (k : Int) < (xs.length : Int)
    · have hkl : k < xs.length := by omega
      obtain ⟨b, off, rfl, he⟩ : ∃ b off, a = some ⟨b, off, none⟩ ∧ ∀ i (h : i < xs.length), wr.cell? ⟨b, off + i, none⟩ = some (.int .i64 xs[i]) := by
        rcases dUnhide HU with h | ⟨b, off, e, h⟩
        · subst h; simp at hkl
        · exact ⟨b, off, e, h⟩
      have ck := he k hkl
      have CE := forgetFn xs[k] x bn wr hc
      by_cases hx : xs[k] = x
      · have hb : (xs[k] == x) = true := by simp [hx]
        rw [hb] at CE
        have G := dHide (show ∃ k, ∃ h : k < xs.length, (∀ i (h : i < xs.length), i < k → xs[i] ≠ x) ∧ xs[k] = x ∧ (k : Int) = (k : Int) from ⟨k, hkl, dUnhide hcd, hx, rfl⟩)
        have HX := dHide hx
        replace CE := dHide CE
        have hcd' := hcd
        generalize hy : xs[k] = y at ck CE
        clear he hx hb hcd
        go_wp2_with fail
        refine (dUnhide CE).mono ?_
        rintro e w1 ⟨rfl, rfl⟩
        clear CE G
        go_wp2
        go_ret
        exact ⟨.inr ⟨k, hkl, dUnhide hcd', dUnhide HX, rfl⟩, rfl⟩
      · have hb : (xs[k] == x) = false := by simp [hx]
        rw [hb] at CE
        have H2 : Hid (∀ i (h : i < xs.length), i < k + 1 → xs[i] ≠ x) := fun i h hi => by
          by_cases e : i = k
          · subst e; exact hx
          · exact dUnhide hcd i h (by omega)
        replace CE := dHide CE
        generalize xs[k] = y at ck CE
        clear he hx hb hcd
        go_wp2_with fail
        refine (dUnhide CE).mono ?_
        rintro e w1 ⟨rfl, rfl⟩
        clear CE
        go_wp2
        go_roundw
        case rel => exact ⟨k + 1, by go_num, by omega, H2, by trivial⟩
        case measure => simp [intOf]; omega
    · have G := dHide (show x ∉ xs from fun hm => by
        obtain ⟨i, hi, e⟩ := List.mem_iff_getElem.1 hm
        exact dUnhide hcd i hi (by omega) e)
      clear hcd HU
      go_wp2
      go_ret
      exact ⟨.inl ⟨dUnhide G, rfl⟩, rfl⟩
theorem lessL_same {xs : List Int} {x : Int} (h : x ∉ xs) : lessL xs [x] = xs := by
  unfold lessL
  rw [List.filter_eq_self]
  intro a ha
  have : a ≠ x := fun e => h (e ▸ ha)
  simp [this]
theorem lessL_head {xs : List Int} {x : Int} {k : Nat} (h : ∀ i (h : i < xs.length), i < k → xs[i] ≠ x) : lessL (xs.take k) [x] = xs.take k := lessL_same fun hm => by
  obtain ⟨i, hi, e⟩ := List.mem_iff_getElem.1 hm
  rw [List.length_take] at hi
  rw [List.getElem_take] at e
  exact h i (by omega) (by omega) e
/-- What DeleteFunc has done up to j. -/
def DelS (x : Int) (xs : List Int) (i j : Nat) (ys : List Int) : Prop := ys.length = xs.length ∧ i = (lessL (xs.take j) [x]).length ∧ i < j ∧ j ≤ xs.length ∧ ys.take i = lessL (xs.take j) [x] ∧ ∀ t (h : t < xs.length) (h' : t < ys.length), j ≤ t → ys[t] = xs[t]
theorem DelS.start {x : Int} {xs : List Int} {k : Nat} (hk : k < xs.length) (h : ∀ i (h : i < xs.length), i < k → xs[i] ≠ x) (hx : xs[k] = x) : DelS x xs k (k + 1) xs := by
  have e1 := lessL_yes xs [x] k hk (by simp [hx])
  have e2 := lessL_head (k := k) h
  refine ⟨rfl, ?_, by omega, by omega, ?_, fun t _ _ _ => rfl⟩
  · rw [e1, e2, List.length_take]; omega
  · rw [e1, e2]
theorem DelS.skip {x : Int} {xs ys : List Int} {i j : Nat} (h : DelS x xs i j ys) (hj : j < xs.length) (hx : xs[j] = x) : DelS x xs i (j + 1) ys := by
  obtain ⟨h1, h2, h3, h4, h5, h6⟩ := h
  have e1 := lessL_yes xs [x] j hj (by simp [hx])
  exact ⟨h1, by rw [e1]; exact h2, by omega, by omega, by rw [e1]; exact h5, fun t ht ht' hjt => h6 t ht ht' (by omega)⟩
theorem DelS.keep {x : Int} {xs ys : List Int} {i j : Nat} (h : DelS x xs i j ys) (hj : j < xs.length) (hx : xs[j] ≠ x) : DelS x xs (i + 1) (j + 1) (ys.set i xs[j]) := by
  obtain ⟨h1, h2, h3, h4, h5, h6⟩ := h
  have e1 := lessL_no xs [x] j hj (by simp [hx])
  refine ⟨by rw [List.length_set]; exact h1, by rw [e1, List.length_append, ← h2]; rfl, by omega, by omega, ?_, fun t ht ht' hjt => ?_⟩
  · rw [e1, ← h5, List.take_succ_eq_append_getElem (by rw [List.length_set]; omega), List.getElem_set_self, List.take_set_of_le (Nat.le_refl _)]
  · rw [List.getElem_set_ne (by omega)]
    exact h6 t ht (by rw [List.length_set] at ht'; exact ht') (by omega)
set_option maxHeartbeats 4000000 in
theorem deleteN_any (a : Option Addr) (cap : Nat) (xs : List Int) (x : Int) (bn base : Nat) (w : World) (ho : OwnN w base (.slice a xs.length cap) xs) (hc : w.cell? ⟨bn, 0, none⟩ = some (.int .i64 x)) (hne : xs = [] ∨ blockOf (.slice a xs.length cap) ≠ bn) :
    Calls Try.prog 105 #[.slice a xs.length cap, .func (.func 106) #[] #[.pointer (some ⟨bn, 0, none⟩)]] w fun e w' => e = .returned (.slice a (lessL xs [x]).length cap) ∧ OwnN w' base (.slice a (lessL xs [x]).length cap) (lessL xs [x]) ∧ ∃ row, w.grownBy w' row ∧ (row = none ∨ (xs ≠ [] ∧ row = some (blockOf (.slice a xs.length cap)))) := by
  have hF := Try.call106
  have CI := dHide (indexN_any _ xs x bn w ho.bs hc)
  have hl0 := ho.1
  have hcap : xs.length ≤ cap ∧ cap ≤ 9223372036854775807 := by
    obtain ⟨-, a', c', e, h, -⟩ := ho
    simp only [Value.slice.injEq] at e
    obtain ⟨-, -, rfl⟩ := e
    exact h
  have HO := dHide ho
  go_enter Try.func105, Try.ntmps105
  go_wp2_with fail
  refine (dUnhide CI).mono ?_
  rintro e w1 ⟨hcase, rfl⟩
  clear CI
  rcases hcase with ⟨hx, rfl⟩ | ⟨k, hk, hlt, hx, rfl⟩
  · have E := dHide (lessL_same hx)
    have H := dHide ho
    clear hx ho HO
    go_wp2
    go_ret
    rw [dUnhide E]
    exact ⟨rfl, dUnhide H, none, grown_refl _ _, .inl rfl⟩
  · have hxe : xs ≠ [] := fun e => by subst e; simp at hk
    obtain ⟨b, off, rfl⟩ : ∃ b off, a = some ⟨b, off, none⟩ := by
      obtain ⟨-, a', c', e, -, h⟩ := ho
      simp only [Value.slice.injEq] at e
      rcases h with h | ⟨b, off, h, -⟩
      · exact absurd h hxe
      · exact ⟨b, off, by rw [e.1, h]⟩
    have hbn : b ≠ bn := hne.resolve_left hxe
    have S0 := dHide (DelS.start hk hlt hx)
    have G0 := dHide (grown_refl w1 (some b))
    have hk1 : ((k : Int) == -1) = false := by
      rw [beq_eq_false_iff_ne]
      omega
    have HC := dHide hc
    have HXE := dHide hxe
    clear hlt hx hne ho hc hxe
    go_wp2
    go_loopw [5, 6] (fun p q wr => ∃ (i j : Nat) (ys : List Int), p = .int .i64 (i : Int) ∧ q = .int .i64 (j : Int) ∧ j ≤ xs.length ∧ i ≤ xs.length ∧ Hid (DelS x xs i j ys) ∧ Hid (OwnN wr base (.slice (some ⟨b, off, none⟩) xs.length cap) ys) ∧ Hid (w1.grownBy wr (some b)) ∧ Hid (wr.cell? ⟨bn, 0, none⟩ = some (.int .i64 x))) (fun _ q _ => xs.length - (intOf q).toNat)
    case atStart => exact ⟨k, k + 1, xs, rfl, by go_num, by omega, by omega, S0, HO, G0, HC⟩
    case round =>
      obtain ⟨i, j, ys, rfl, rfl, hj, hi, hS, hO, hG, hC⟩ := hrel
      clear S0 HO G0 HC
      have hyl := (dUnhide hS).1
      have hij := (dUnhide hS).2.2.1
      by_cases hlt : (j : Int) < (xs.length : Int)
      · have hjl : j < xs.length := by omega
        obtain ⟨cj, -⟩ := (dUnhide hO).at_ (show j < ys.length by omega)
        have ej := (dUnhide hS).2.2.2.2.2 j hjl (by omega) (Nat.le_refl _)
        rw [ej] at cj
        obtain ⟨ci, fi⟩ := (dUnhide hO).at_ (show i < ys.length by omega)
        have hil : (i : Int) < (xs.length : Int) := by omega
        have CE := dHide (forgetFn xs[j] x bn wr (dUnhide hC))
        by_cases hx : xs[j] = x
        · have hb : (xs[j] == x) = true := by simp [hx]
          rw [hb] at CE
          have S2 := dHide ((dUnhide hS).skip hjl hx)
          generalize xs[j] = y at *
          clear hx hb hS ej ci fi
          go_wp2_with fail
          refine (dUnhide CE).mono ?_
          rintro e w2 ⟨rfl, rfl⟩
          clear CE
          go_wp2
          go_roundw
          case rel => exact ⟨i, j + 1, ys, rfl, by go_num, by omega, hi, S2, hO, hG, hC⟩
          case measure => simp [intOf]; omega
        · have hb : (xs[j] == x) = false := by simp [hx]
          rw [hb] at CE
          have S2 := dHide ((dUnhide hS).keep hjl hx)
          have O2 := dHide ((dUnhide hO).store (show i < ys.length by omega) xs[j])
          have G2 := dHide (grown_trans (dUnhide hG) (grown_set wr b (off + i) (.int .i64 xs[j])))
          have C2 : Hid ((wr.setCell ⟨b, off + i, none⟩ (.int .i64 xs[j])).cell? ⟨bn, 0, none⟩ = some (.int .i64 x)) := set_other (dUnhide hC) (.inl (Ne.symm hbn))
          generalize xs[j] = y at *
          clear hx hb hS ej hO hG hC
          go_wp2_with fail
          refine (dUnhide CE).mono ?_
          rintro e w2 ⟨rfl, rfl⟩
          clear CE
          go_wp2
          go_roundw
          case rel => exact ⟨i + 1, j + 1, _, by go_num, by go_num, by omega, by omega, S2, O2, G2, C2⟩
          case measure => simp [intOf]; omega
      · have ej : j = xs.length := by omega
        subst ej
        obtain ⟨-, h2, -, -, h5, -⟩ := dUnhide hS
        rw [List.take_of_length_le (Nat.le_refl _)] at h2 h5
        have hn : 0 < xs.length - i := by omega
        have CC := fun (hcs : ∀ t, t < xs.length - i → (wr.cell? ⟨b, off + i + t, none⟩).isSome = true) (hfs : ∀ t, t < xs.length - i → wr.frozen? ⟨b, off + i + t, none⟩ = false) => Go.Lib.run_clear_slice (P := Try.prog) wr 24 3 0 (.int .i64 0) Try.underlying24 (fun w => by kernel_rfl) rfl rfl b (off + i) (xs.length - i) (cap - i) hn hcs hfs
        have CC' := CC (fun t ht => by
          have := ((dUnhide hO).at_ (show i + t < ys.length by omega)).1
          rw [← Nat.add_assoc] at this
          rw [this]; rfl) (fun t ht => by
          have := ((dUnhide hO).at_ (show i + t < ys.length by omega)).2
          rw [← Nat.add_assoc] at this
          exact this)
        have O2 := (dUnhide hO).cut (k := i) (by omega) (List.replicate (xs.length - i) (.int .i64 0)) (by simp; omega)
        rw [h5] at O2
        have G2 := dHide (grown_trans (dUnhide hG) (grown_sets b (List.replicate (xs.length - i) (.int .i64 0)) (off + i) wr))
        have E2 := dHide h2
        have HO2 := dHide O2
        clear CC hS hO hG hC O2 h2 h5
        go_wp2
        go_ret
        rw [← dUnhide E2]
        exact ⟨rfl, dUnhide HO2, some b, dUnhide G2, .inr ⟨dUnhide HXE, rfl⟩⟩
end Go.Proofs.Ytfipenjojgflmaa
