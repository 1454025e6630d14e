/- slices.IndexFunc and slices.DeleteFunc on ints: the function's own contract is handed in. -/
import Derived.Test.YtmgomacmaidmlaaGreatDoorRmP
import Derived.Laws.IdiomCopy
import Derived.Lib.SliceRun
namespace Go.Proofs.YtmgomacmaidmlaaGreatDoor
open Go.ChangeShapes Go.WideShapes Go.ChangeAt Go.RowKit
set_option linter.unusedVariables false
set_option linter.unusedSimpArgs false
set_option maxRecDepth 100000

theorem grownT {w w1 w2 : World} {b : Nat} (h : w.grownBy w1 (some b)) (h' : w1.grownBy w2 (some b)) : w.grownBy w2 (some b) :=
  ⟨h'.os.trans h.os, h'.tape.trans h.tape, h'.output.trans h.output, Nat.le_trans h.size h'.size, fun k hk hn => (h'.block k (Nat.lt_of_lt_of_le hk h.size) hn).trans (h.block k hk hn)⟩
theorem grownR (w : World) (row : Option Nat) : w.grownBy w row := ⟨rfl, rfl, rfl, Nat.le_refl _, fun _ _ _ => rfl⟩
theorem grownOf {w w' : World} {row : Option Nat} (h : Below w.heap.size w w') : w.grownBy w' row := ⟨h.os, h.tape, h.output, h.size, fun j hj _ => h.block j hj⟩
theorem grownS (b : Nat) : ∀ (vs : List Value) (o : Nat) (w : World), w.grownBy (w.setCells b o vs) (some b)
  | [], o, w => grownR w _
  | v :: vs, o, w => grownT (grown_set w b o v) (grownS b vs (o + 1) _)
/-- One int of an owned list is another. -/
theorem OwnN.store1 {w : World} {base b off n cap k : Nat} {xs : List Int} (h : OwnN w base (.slice (some ⟨b, off, none⟩) n cap) xs) (hk : k < xs.length) (z : Int) : OwnN (w.setCell ⟨b, off + k, none⟩ (.int .i64 z)) base (.slice (some ⟨b, off, none⟩) n cap) (xs.set k z) := by
  obtain ⟨h0, a, c, e, hcap, h⟩ := h
  simp only [Value.slice.injEq] at e
  obtain ⟨rfl, rfl, rfl⟩ := e
  refine ⟨by simpa using h0, _, _, by rw [List.length_set], by simpa using hcap, ?_⟩
  rcases h with h | ⟨b', off', e, hb, hc⟩
  · subst h; simp at hk
  · cases e
    refine .inr ⟨b, off, rfl, hb, fun i hi => ?_⟩
    have hi2 : i < xs.length := by simpa using hi
    rw [List.getElem_set]
    by_cases e : i = k
    · subst e
      rw [if_pos rfl]
      exact ⟨World.cell?_setCell_same _ _ _ (hc i hi2).1, (World.frozen?_setCell _ _ _ _).trans (hc i hi2).2⟩
    · rw [if_neg (Ne.symm e)]
      exact ⟨set_other (hc i hi2).1 (.inr (by omega)), (World.frozen?_setCell _ _ _ _).trans (hc i hi2).2⟩
/-- The head of an owned list, behind which zeros are written. -/
theorem OwnN.cut1 {w : World} {base b off n cap k : Nat} {xs : List Int} (h : OwnN w base (.slice (some ⟨b, off, none⟩) n cap) xs) (hk : k ≤ xs.length) (vs : List Value) (hv : off + k + vs.length ≤ off + xs.length) : OwnN (w.setCells b (off + k) vs) base (.slice (some ⟨b, off, none⟩) k cap) (xs.take k) := by
  obtain ⟨h0, a, c, e, hcap, h⟩ := h
  simp only [Value.slice.injEq] at e
  obtain ⟨rfl, rfl, rfl⟩ := e
  have hl : (xs.take k).length = k := by rw [List.length_take]; omega
  refine ⟨by omega, _, _, by rw [hl], by omega, ?_⟩
  rcases h with h | ⟨b', off', e, hb, hc⟩
  · left; rw [h]; simp
  · cases e
    refine .inr ⟨b, off, rfl, hb, fun i hi => ?_⟩
    have hi2 : i < xs.length := by omega
    rw [List.getElem_take]
    exact ⟨(World.cell?_setCells_out b vs (off + k) w ⟨b, off + i, none⟩ (fun _ _ => .inl (by simp only; omega))).trans (hc i hi2).1, (World.frozen?_setCells b vs (off + k) w _).trans (hc i hi2).2⟩
theorem OwnN.at1 {w : World} {base b off n cap : Nat} {xs : List Int} (h : OwnN w base (.slice (some ⟨b, off, none⟩) n cap) xs) {k : Nat} (hk : k < xs.length) : w.cell? ⟨b, off + k, none⟩ = some (.int .i64 xs[k]) ∧ w.frozen? ⟨b, off + k, none⟩ = false := by
  obtain ⟨h0, a, c, e, hcap, h⟩ := h
  simp only [Value.slice.injEq] at e
  obtain ⟨rfl, rfl, rfl⟩ := e
  rcases h with h | ⟨b', off', e, hb, hc⟩
  · subst h; simp at hk
  · cases e
    exact hc k hk
/-- Those for which q does not hold. -/
def flQ (q : Int → Bool) (xs : List Int) : List Int := xs.filter fun z => !(q z)
theorem flQ_yes {q : Int → Bool} (xs : List Int) (k : Nat) (h : k < xs.length) (hx : q xs[k] = true) : flQ q (xs.take (k + 1)) = flQ q (xs.take k) := by
  rw [flQ, List.take_succ_eq_append_getElem h, List.filter_append]
  simp [flQ, hx]
theorem flQ_no {q : Int → Bool} (xs : List Int) (k : Nat) (h : k < xs.length) (hx : q xs[k] = false) : flQ q (xs.take (k + 1)) = flQ q (xs.take k) ++ [xs[k]] := by
  rw [flQ, List.take_succ_eq_append_getElem h, List.filter_append]
  simp [flQ, hx]
theorem flQ_same {q : Int → Bool} {xs : List Int} (h : ∀ x ∈ xs, q x = false) : flQ q xs = xs := by
  unfold flQ
  rw [List.filter_eq_self]
  intro a ha
  simp [h a ha]
theorem flQ_head {q : Int → Bool} {xs : List Int} {k : Nat} (h : ∀ i (h : i < xs.length), i < k → q xs[i] = false) : flQ q (xs.take k) = xs.take k := flQ_same fun x hm => by
  obtain ⟨i, hi, e⟩ := List.mem_iff_getElem.1 hm
  rw [List.length_take] at hi
  rw [List.getElem_take] at e
  rw [← e]
  exact h i (by omega) (by omega)
set_option maxHeartbeats 2000000 in
theorem indexG_any (v : Value) (xs : List Int) (F : Nat) (caps : Array Value) (q : Int → Bool) (w : World) (hF : ∀ args w, (callFunc F args).run Tryz.prog w = .ok (.enter F args) w) (hv : Ns w v xs)
    (hq : ∀ W, Below w.heap.size w W → ∀ z ∈ xs, Calls Tryz.prog F (#[.int .i64 z] ++ caps) W fun e w' => e = .returned (.bool (q z)) ∧ Below W.heap.size W w') :
    Calls Tryz.prog 100 #[v, .func (.func F) #[] caps] w fun e w' => (((∀ x ∈ xs, q x = false) ∧ e = .returned (.int .i64 (-1))) ∨ ∃ k, ∃ h : k < xs.length, (∀ i (h : i < xs.length), i < k → q xs[i] = false) ∧ q xs[k] = true ∧ e = .returned (.int .i64 (k : Int))) ∧ Below w.heap.size w w' := by
  have HV := dHide fun W (hb : Below w.heap.size w W) => hv.below hb
  have HQ := dHide hq
  have hl0 := hv.1
  obtain ⟨-, a, cap, rfl, -, -⟩ := hv
  clear hq
  go_enter Tryz.func100, Tryz.ntmps100
  go_wp2
  go_loopw [8] (fun y wr => ∃ k : Nat, y = .int .i64 (k : Int) ∧ k ≤ xs.length ∧ Hid (∀ i (h : i < xs.length), i < k → q xs[i] = false) ∧ Below w.heap.size w wr) (fun y _ => xs.length - (intOf y).toNat)
  case atStart => exact ⟨0, rfl, Nat.zero_le _, fun i h h' => by omega, Below.refl _ _⟩
  case round =>
    obtain ⟨k, rfl, hk, hcd, hb⟩ := hrel
    by_cases hlt : (k : Int) < (xs.length : Int)
    · have hkl : k < xs.length := by omega
      obtain ⟨b, off, rfl, he⟩ : ∃ b off, a = some ⟨b, off, none⟩ ∧ ∀ i (h : i < xs.length), wr.cell? ⟨b, off + i, none⟩ = some (.int .i64 xs[i]) := by
        obtain ⟨-, a', c', e, -, h⟩ := dUnhide HV wr hb
        simp only [Value.slice.injEq] at e
        obtain ⟨rfl, -, rfl⟩ := e
        rcases h with h | ⟨b, off, e, h⟩
        · rw [h] at hkl; simp at hkl
        · exact ⟨b, off, e, h⟩
      have ck := he k hkl
      have CE := dHide (dUnhide HQ wr hb xs[k] (List.getElem_mem hkl))
      cases hx : q xs[k] with
      | true =>
        rw [hx] at CE
        have G : Hid (∀ wz, Below w.heap.size w wz → (((∀ x ∈ xs, q x = false) ∧ (Ending.returned (.int .i64 (k : Int))) = .returned (.int .i64 (-1))) ∨ ∃ j, ∃ h : j < xs.length, (∀ i (h : i < xs.length), i < j → q xs[i] = false) ∧ q xs[j] = true ∧ (Ending.returned (.int .i64 (k : Int))) = .returned (.int .i64 (j : Int))) ∧ Below w.heap.size w wz) := fun wz hz => ⟨.inr ⟨k, hkl, dUnhide hcd, hx, rfl⟩, hz⟩
        generalize xs[k] = y at ck CE
        clear he hx hcd
        go_wp2_with fail
        refine (dUnhide CE).mono ?_
        rintro e w1 ⟨rfl, b1⟩
        clear CE
        go_wp2
        go_ret
        exact dUnhide G _ (belowThen hb b1)
      | false =>
        rw [hx] at CE
        have H2 : Hid (∀ i (h : i < xs.length), i < k + 1 → q xs[i] = false) := fun i h hi => by
          by_cases e : i = k
          · subst e; exact hx
          · exact dUnhide hcd i h (by omega)
        generalize xs[k] = y at ck CE
        clear he hx hcd
        go_wp2_with fail
        refine (dUnhide CE).mono ?_
        rintro e w1 ⟨rfl, b1⟩
        clear CE
        go_wp2
        go_roundw
        case rel => exact ⟨k + 1, by go_num, by omega, H2, belowThen hb b1⟩
        case measure => simp [intOf]; omega
    · have G := dHide (show ∀ x ∈ xs, q x = false from fun x hm => by
        obtain ⟨i, hi, e⟩ := List.mem_iff_getElem.1 hm
        rw [← e]
        exact dUnhide hcd i hi (by omega))
      clear hcd
      go_wp2
      go_ret
      exact ⟨.inl ⟨dUnhide G, rfl⟩, hb⟩
/-- What DeleteFunc has done up to j. -/
def DelG (q : Int → Bool) (xs : List Int) (i j : Nat) (ys : List Int) : Prop := ys.length = xs.length ∧ i = (flQ q (xs.take j)).length ∧ i < j ∧ j ≤ xs.length ∧ ys.take i = flQ q (xs.take j) ∧ ∀ t (h : t < xs.length) (h' : t < ys.length), j ≤ t → ys[t] = xs[t]
theorem DelG.start {q : Int → Bool} {xs : List Int} {k : Nat} (hk : k < xs.length) (h : ∀ i (h : i < xs.length), i < k → q xs[i] = false) (hx : q xs[k] = true) : DelG q xs k (k + 1) xs := by
  have e1 := flQ_yes xs k hk hx
  have e2 := flQ_head (k := k) h
  refine ⟨rfl, ?_, by omega, by omega, ?_, fun t _ _ _ => rfl⟩
  · rw [e1, e2, List.length_take]; omega
  · rw [e1, e2]
theorem DelG.skip {q : Int → Bool} {xs ys : List Int} {i j : Nat} (h : DelG q xs i j ys) (hj : j < xs.length) (hx : q xs[j] = true) : DelG q xs i (j + 1) ys := by
  obtain ⟨h1, h2, h3, h4, h5, h6⟩ := h
  have e1 := flQ_yes xs j hj hx
  exact ⟨h1, by rw [e1]; exact h2, by omega, by omega, by rw [e1]; exact h5, fun t ht ht' hjt => h6 t ht ht' (by omega)⟩
theorem DelG.keep {q : Int → Bool} {xs ys : List Int} {i j : Nat} (h : DelG q xs i j ys) (hj : j < xs.length) (hx : q xs[j] = false) : DelG q xs (i + 1) (j + 1) (ys.set i xs[j]) := by
  obtain ⟨h1, h2, h3, h4, h5, h6⟩ := h
  have e1 := flQ_no xs j hj hx
  refine ⟨by rw [List.length_set]; exact h1, by rw [e1, List.length_append, ← h2]; rfl, by omega, by omega, ?_, fun t ht ht' hjt => ?_⟩
  · rw [e1, ← h5, List.take_succ_eq_append_getElem (by rw [List.length_set]; omega), List.getElem_set_self, List.take_set_of_le (Nat.le_refl _)]
  · rw [List.getElem_set_ne (by omega)]
    exact h6 t ht (by rw [List.length_set] at ht'; exact ht') (by omega)
set_option maxHeartbeats 4000000 in
theorem deleteG_any (a : Option Addr) (cap : Nat) (xs : List Int) (F : Nat) (caps : Array Value) (q : Int → Bool) (Inv : World → Prop) (base : Nat) (w : World) (hF : ∀ args w, (callFunc F args).run Tryz.prog w = .ok (.enter F args) w) (ho : OwnN w base (.slice a xs.length cap) xs) (hI : Inv w)
    (hInv : ∀ W W' row, Inv W → W.grownBy W' row → (row = none ∨ (xs ≠ [] ∧ row = some (blockOf (.slice a xs.length cap)))) → Inv W')
    (hq : ∀ W, Inv W → ∀ z ∈ xs, Calls Tryz.prog F (#[.int .i64 z] ++ caps) W fun e w' => e = .returned (.bool (q z)) ∧ Below W.heap.size W w') :
    Calls Tryz.prog 213 #[.slice a xs.length cap, .func (.func F) #[] caps] w fun e w' => e = .returned (.slice a (flQ q xs).length cap) ∧ OwnN w' base (.slice a (flQ q xs).length cap) (flQ q xs) ∧ ∃ row, w.grownBy w' row ∧ (row = none ∨ (xs ≠ [] ∧ row = some (blockOf (.slice a xs.length cap)))) := by
  have CI := dHide (indexG_any _ xs F caps q w hF ho.bs (fun W hb z hz => hq W (hInv w W none hI (grownOf hb) (.inl rfl)) z hz))
  have hl0 := ho.1
  have hcap : xs.length ≤ cap ∧ cap ≤ 9223372036854775807 := by
    obtain ⟨-, a', c', e, h, -⟩ := ho
    simp only [Value.slice.injEq] at e
    obtain ⟨-, -, rfl⟩ := e
    exact h
  have HO := dHide fun W (hb : Below w.heap.size w W) => ho.below hb
  have HIN := dHide hInv
  have HQ := dHide hq
  have II := dHide hI
  clear ho hI hInv hq
  go_enter Tryz.func213, Tryz.ntmps213
  go_wp2_with fail
  refine (dUnhide CI).mono ?_
  rintro e w1 ⟨hcase, bl⟩
  clear CI
  have O1 := dHide (dUnhide HO w1 bl)
  have I1 := dHide (dUnhide HIN w w1 none (dUnhide II) (grownOf bl) (.inl rfl))
  clear HO II
  rcases hcase with ⟨hx, rfl⟩ | ⟨k, hk, hlt, hx, rfl⟩
  · have E := dHide (flQ_same hx)
    clear hx HQ HIN I1
    go_wp2
    go_ret
    rw [dUnhide E]
    exact ⟨rfl, dUnhide O1, none, grownOf bl, .inl rfl⟩
  · have hxe : xs ≠ [] := fun e => by subst e; simp at hk
    obtain ⟨b, off, rfl⟩ : ∃ b off, a = some ⟨b, off, none⟩ := by
      obtain ⟨-, a', c', e, -, h⟩ := dUnhide O1
      simp only [Value.slice.injEq] at e
      rcases h with h | ⟨b, off, h, -⟩
      · exact absurd h hxe
      · exact ⟨b, off, by rw [e.1, h]⟩
    have eb : blockOf (.slice (some ⟨b, off, none⟩) xs.length cap) = b := rfl
    rw [eb] at HIN
    have S0 := dHide (DelG.start hk hlt hx)
    have G0 : Hid (w.grownBy w1 (some b)) := grownOf bl
    have hk1 : ((k : Int) == -1) = false := by
      rw [beq_eq_false_iff_ne]
      omega
    have HXE := dHide hxe
    clear hlt hx hxe eb bl
    go_wp2
    go_loopw [5, 6] (fun p y wr => ∃ (i j : Nat) (ys : List Int), p = .int .i64 (i : Int) ∧ y = .int .i64 (j : Int) ∧ j ≤ xs.length ∧ i ≤ xs.length ∧ Hid (DelG q xs i j ys) ∧ Hid (OwnN wr base (.slice (some ⟨b, off, none⟩) xs.length cap) ys) ∧ Hid (w.grownBy wr (some b)) ∧ Hid (Inv wr)) (fun _ y _ => xs.length - (intOf y).toNat)
    case atStart => exact ⟨k, k + 1, xs, rfl, by go_num, by omega, by omega, S0, O1, G0, I1⟩
    case round =>
      obtain ⟨i, j, ys, rfl, rfl, hj, hi, hS, hO, hG, hC⟩ := hrel
      clear S0 O1 G0 I1
      have hyl := (dUnhide hS).1
      have hij := (dUnhide hS).2.2.1
      by_cases hlt : (j : Int) < (xs.length : Int)
      · have hjl : j < xs.length := by omega
        obtain ⟨cj, -⟩ := (dUnhide hO).at1 (show j < ys.length by omega)
        have ej := (dUnhide hS).2.2.2.2.2 j hjl (by omega) (Nat.le_refl _)
        rw [ej] at cj
        have hil : (i : Int) < (xs.length : Int) := by omega
        have CE := dHide (dUnhide HQ wr (dUnhide hC) xs[j] (List.getElem_mem hjl))
        cases hx : q xs[j] with
        | true =>
          rw [hx] at CE
          have S2 := dHide ((dUnhide hS).skip hjl hx)
          generalize xs[j] = y at *
          clear hx hS ej
          go_wp2_with fail
          refine (dUnhide CE).mono ?_
          rintro e w2 ⟨rfl, b2⟩
          have O2 := dHide ((dUnhide hO).below b2)
          have G2 := dHide (grownT (dUnhide hG) (grownOf b2))
          have C2 := dHide (dUnhide HIN wr w2 none (dUnhide hC) (grownOf b2) (.inl rfl))
          clear CE hO hG hC b2 cj
          go_wp2
          go_roundw
          case rel => exact ⟨i, j + 1, ys, rfl, by go_num, by omega, hi, S2, O2, G2, C2⟩
          case measure => simp [intOf]; omega
        | false =>
          rw [hx] at CE
          have S2 := dHide ((dUnhide hS).keep hjl hx)
          generalize xs[j] = y at *
          clear hx hS ej
          go_wp2_with fail
          refine (dUnhide CE).mono ?_
          rintro e w2 ⟨rfl, b2⟩
          have O1 := (dUnhide hO).below b2
          have cj2 := (b2.cell (p := ⟨b, off + j, none⟩) (dCell_lt cj)).trans cj
          obtain ⟨ci, fi⟩ := O1.at1 (show i < ys.length by omega)
          have O2 := dHide (O1.store1 (show i < ys.length by omega) y)
          have G2 := dHide (grownT (grownT (dUnhide hG) (grownOf b2)) (grown_set w2 b (off + i) (.int .i64 y)))
          have C2 := dHide (dUnhide HIN w2 _ (some b) (dUnhide HIN wr w2 none (dUnhide hC) (grownOf b2) (.inl rfl)) (grown_set w2 b (off + i) (.int .i64 y)) (.inr ⟨dUnhide HXE, rfl⟩))
          clear CE hO hG hC b2 O1 cj
          go_wp2
          go_roundw
          case rel => exact ⟨i + 1, j + 1, _, by go_num, by go_num, by omega, by omega, S2, O2, G2, C2⟩
          case measure => simp [intOf]; omega
      · have ej : j = xs.length := by omega
        subst ej
        obtain ⟨-, h2, -, -, h5, -⟩ := dUnhide hS
        rw [List.take_of_length_le (Nat.le_refl _)] at h2 h5
        have hn : 0 < xs.length - i := by omega
        have CC := fun (hcs : ∀ t, t < xs.length - i → (wr.cell? ⟨b, off + i + t, none⟩).isSome = true) (hfs : ∀ t, t < xs.length - i → wr.frozen? ⟨b, off + i + t, none⟩ = false) => Go.Lib.run_clear_slice (P := Tryz.prog) wr 33 3 0 (.int .i64 0) Tryz.underlying33 (fun w => by kernel_rfl) rfl rfl b (off + i) (xs.length - i) (cap - i) hn hcs hfs
        have CC' := CC (fun t ht => by
          have := ((dUnhide hO).at1 (show i + t < ys.length by omega)).1
          rw [← Nat.add_assoc] at this
          rw [this]; rfl) (fun t ht => by
          have := ((dUnhide hO).at1 (show i + t < ys.length by omega)).2
          rw [← Nat.add_assoc] at this
          exact this)
        have O2 := (dUnhide hO).cut1 (k := i) (by omega) (List.replicate (xs.length - i) (.int .i64 0)) (by simp; omega)
        rw [h5] at O2
        have G2 := dHide (grownT (dUnhide hG) (grownS b (List.replicate (xs.length - i) (.int .i64 0)) (off + i) wr))
        have E2 := dHide h2
        have HO2 := dHide O2
        clear CC hS hO hG hC O2 h2 h5
        go_wp2
        go_ret
        rw [← dUnhide E2]
        exact ⟨rfl, dUnhide HO2, some b, dUnhide G2, .inr ⟨dUnhide HXE, rfl⟩⟩
end Go.Proofs.YtmgomacmaidmlaaGreatDoor
