/- SureOf, both sides (printed by tools/mkso.py). -/
import Derived.Test.YtnogallomdckiaaWoA
import Derived.Test.YtnogallomdckiaaWrB
import Derived.Test.YtnogallomdckiaaOpenY
import Derived.Deep.DeepCutAuto
namespace Go.Proofs.Ytnogallomdckiaa
open Go.ChangeShapes Go.WideShapes Go.ChangeAt Go.RowKit
set_option linter.unusedVariables false
set_option linter.unusedSimpArgs false
set_option maxRecDepth 100000

/-- How far the writer of the epoch x is sure. -/
def sureOf (x : Int) : List Wt → Int
  | [] => 0
  | e :: l => if e.epoch = x then (sureL e.words : Int) else sureOf x l
theorem sureOf_at (x : Int) : ∀ (l : List Wt) (k : Nat) (hk : k < l.length), (∀ i (h : i < l.length), i < k → l[i].epoch ≠ x) → l[k].epoch = x → sureOf x l = (sureL l[k].words : Int)
  | [], k, hk, _, _ => by simp at hk
  | e :: l, 0, hk, _, ho => if_pos ho
  | e :: l, k + 1, hk, h, ho => by
    have h0 : e.epoch ≠ x := h 0 (by simp) (by omega)
    have h1 := sureOf_at x l k (by simpa using hk) (fun i hi hik => h (i + 1) (by simpa using hi) (by omega)) (by simpa using ho)
    unfold sureOf
    rw [if_neg h0, h1]
    simp
theorem sureOf_none (x : Int) : ∀ l : List Wt, (∀ i (h : i < l.length), l[i].epoch ≠ x) → sureOf x l = 0
  | [], _ => rfl
  | e :: l, h => by
    have h0 : e.epoch ≠ x := h 0 (by simp)
    unfold sureOf
    rw [if_neg h0]
    exact sureOf_none x l fun i hi => h (i + 1) (by simpa using hi)
set_option maxHeartbeats 1000000 in
theorem specSureOf_any (v : Value) (m : Wo) (x : Int) (w : World) (hv : RdWorld v m w) :
    Calls Try.prog 15 #[v, .int .i64 x] w fun e w' => e = .returned (.int .i64 (sureOf x m.writers)) ∧ Below w.heap.size w w' := by
  obtain ⟨da, dc, sa, sc, la, lc, ea, ec, wa, wc, na, nc, ra, rc', ta, tc, rfl, -, -, -, -, hw, -, -, -⟩ := partsWorld hv
  obtain ⟨cfg, stores, lost, reg, writers, mends, readers, sent, torn⟩ := m
  simp only at *
  clear hv
  obtain ⟨rs, rfl, hr, hn⟩ := hw
  rw [List.length_map] at *
  have hl0 := hr.1
  have FA : Hid (∀ k (hk : k < rs.length), (∀ i (h : i < rs.length), i < k → rs[i].m.epoch ≠ x) → rs[k].m.epoch = x → sureOf x (rs.map Pd.m) = (sureL rs[k].m.words : Int)) := fun k hk h1 h2 => by
    have := sureOf_at x (rs.map Pd.m) k (by simpa using hk) (fun i hi hik => by rw [List.getElem_map]; exact h1 i (by simpa using hi) hik) (by rw [List.getElem_map]; exact h2)
    rwa [List.getElem_map] at this
  have FN : Hid ((∀ i (h : i < rs.length), rs[i].m.epoch ≠ x) → sureOf x (rs.map Pd.m) = 0) := fun h => sureOf_none x _ fun i hi => by rw [List.getElem_map]; exact h i (by simpa using hi)
  generalize sureOf x (rs.map Pd.m) = M at *
  have B0 : Below w.heap.size w (w.alloc (.cells #[.slice da cfg.1.length dc, .int .i64 cfg.2, .slice sa stores.length sc, .slice la lost.length lc, .slice ea reg.eras.length ec, .int .i64 reg.trim, .slice wa rs.length wc, .slice na mends.length nc, .slice ra readers.length rc', .slice ta sent.length tc, .bool torn] 36)) := (Below.refl _ _).alloc (Nat.le_refl _) _
  have X0 := Bx.new w [.slice da cfg.1.length dc, .int .i64 cfg.2, .slice sa stores.length sc, .slice la lost.length lc, .slice ea reg.eras.length ec, .int .i64 reg.trim, .slice wa rs.length wc, .slice na mends.length nc, .slice ra readers.length rc', .slice ta sent.length tc, .bool torn] 36
  have HV := dHide fun W (hb : Below w.heap.size w W) => hr.below hb
  have HN := dHide fun W (hb : Below w.heap.size w W) k (hk : k < rs.length) => (hn _ (List.getElem_mem hk)).below hb
  clear hn hr
  go_enter Try.func15, Try.ntmps15
  go_wp2
  have k6 := X0 6 _ rfl
  generalize w.alloc (.cells #[.slice da cfg.1.length dc, .int .i64 cfg.2, .slice sa stores.length sc, .slice la lost.length lc, .slice ea reg.eras.length ec, .int .i64 reg.trim, .slice wa rs.length wc, .slice na mends.length nc, .slice ra readers.length rc', .slice ta sent.length tc, .bool torn] 36) = w0 at *
  clear X0
  go_loopw [5] (fun y wr => ∃ k : Nat, y = .int .i64 (k : Int) ∧ k ≤ rs.length ∧ Hid (∀ i (h : i < rs.length), i < k → rs[i].m.epoch ≠ x) ∧ wr = w0) (fun y _ => rs.length - (intOf y).toNat)
  case atStart => exact ⟨0, rfl, Nat.zero_le _, fun i h h' => by omega, rfl⟩
  case round =>
    obtain ⟨k, rfl, hk, hc, rfl⟩ := hrel
    by_cases hlt : (k : Int) < (rs.length : Int)
    · have hkl : k < rs.length := by omega
      obtain ⟨b, off, rfl, he⟩ := (dUnhide HV _ B0).pd hkl
      have hck := he k hkl
      have CE := dHide fun W (hb : Below w.heap.size w W) => specSure_any rs[k].val rs[k].m W (dUnhide HN W hb k hkl)
      have hF := formWriter (dUnhide HN _ B0 k hkl)
      have H2 : Hid (rs[k].m.epoch ≠ x → ∀ i (h : i < rs.length), i < k + 1 → rs[i].m.epoch ≠ x) := fun hcl i h hi => by
        by_cases e : i = k
        · subst e; exact hcl
        · exact dUnhide hc i h (by omega)
      have H3 : Hid (rs[k].m.epoch = x → M = (sureL rs[k].m.words : Int)) := fun hcl => dUnhide FA k hkl (dUnhide hc) hcl
      clear he hc
      generalize rs[k] = y at *
      obtain ⟨yc, yl, m⟩ := y
      obtain ⟨xa, xc, hF, -⟩ := hF
      have hF := Pd.eq hF
      simp only at hF
      subst hF
      unfold Pd.val at CE
      simp only at *
      have c0 := hck 0 _ rfl
      have c1 := hck 1 _ rfl
      simp only [Nat.add_zero] at c0 c1
      clear hck
      obtain ⟨me, mw⟩ := m
      simp only at *
      by_cases hx : me = x
      · have e1 := dUnhide H3 hx
        subst e1
        clear H2 H3 FA FN
        subst hx
        go_wp2_with fail
        refine (dUnhide CE _ B0).mono ?_
        rintro e w1 ⟨rfl, b1⟩
        have B1 := belowThen B0 b1
        clear CE b1 c0 c1
        go_wp2
        go_ret
        exact ⟨rfl, B1⟩
      · have H4 := dHide (dUnhide H2 hx)
        clear H2 H3
        go_wp2
        go_roundw
        case rel => exact ⟨k + 1, by go_num, by omega, dUnhide H4, by first | rfl | trivial⟩
        case measure => simp [intOf]; omega
    · have e1 := dUnhide FN fun i h => dUnhide hc i h (by omega)
      subst e1
      clear hc FA FN
      go_wp2
      go_ret
      exact ⟨rfl, B0⟩
set_option maxHeartbeats 1000000 in
theorem implSureOf_any (v : Value) (m : Wo) (x : Int) (w : World) (hs : sizWorld m ≤ 1048576) (hv : RdWorld v m w) :
    Calls Try.prog 17 #[v, .int .i64 x] w fun e w' => e = .returned (.int .i64 (sureOf x m.writers)) ∧ Below w.heap.size w w' := by
  obtain ⟨da, dc, sa, sc, la, lc, ea, ec, wa, wc, na, nc, ra, rc', ta, tc, rfl, -, -, -, -, hw, -, -, -⟩ := partsWorld hv
  obtain ⟨cfg, stores, lost, reg, writers, mends, readers, sent, torn⟩ := m
  simp only at *
  clear hv
  have hwl : ∀ y ∈ writers, y.words.length ≤ 1073741824 := fun y hy => by
    obtain ⟨k, hk, rfl⟩ := List.getElem_of_mem hy
    have := sumPd_mem sizWriter hk
    unfold sizWorld sizWriterS sizD at hs
    have e : sizWriter writers[k] = writers[k].words.length + sumX writers[k].words + sumW writers[k].words := rfl
    simp only at hs
    omega
  clear hs
  obtain ⟨rs, rfl, hr, hn⟩ := hw
  rw [List.length_map] at *
  have hl0 := hr.1
  have FA : Hid (∀ k (hk : k < rs.length), (∀ i (h : i < rs.length), i < k → rs[i].m.epoch ≠ x) → rs[k].m.epoch = x → sureOf x (rs.map Pd.m) = (sureL rs[k].m.words : Int)) := fun k hk h1 h2 => by
    have := sureOf_at x (rs.map Pd.m) k (by simpa using hk) (fun i hi hik => by rw [List.getElem_map]; exact h1 i (by simpa using hi) hik) (by rw [List.getElem_map]; exact h2)
    rwa [List.getElem_map] at this
  have FN : Hid ((∀ i (h : i < rs.length), rs[i].m.epoch ≠ x) → sureOf x (rs.map Pd.m) = 0) := fun h => sureOf_none x _ fun i hi => by rw [List.getElem_map]; exact h i (by simpa using hi)
  generalize sureOf x (rs.map Pd.m) = M at *
  have B0 : Below w.heap.size w (w.alloc (.cells #[.slice da cfg.1.length dc, .int .i64 cfg.2, .slice sa stores.length sc, .slice la lost.length lc, .slice ea reg.eras.length ec, .int .i64 reg.trim, .slice wa rs.length wc, .slice na mends.length nc, .slice ra readers.length rc', .slice ta sent.length tc, .bool torn] 36)) := (Below.refl _ _).alloc (Nat.le_refl _) _
  have X0 := Bx.new w [.slice da cfg.1.length dc, .int .i64 cfg.2, .slice sa stores.length sc, .slice la lost.length lc, .slice ea reg.eras.length ec, .int .i64 reg.trim, .slice wa rs.length wc, .slice na mends.length nc, .slice ra readers.length rc', .slice ta sent.length tc, .bool torn] 36
  have HV := dHide fun W (hb : Below w.heap.size w W) => hr.below hb
  have HN := dHide fun W (hb : Below w.heap.size w W) k (hk : k < rs.length) => (hn _ (List.getElem_mem hk)).below hb
  have HL : Hid (∀ k (hk : k < rs.length), rs[k].m.words.length ≤ 1073741824) := fun k hk => hwl _ (List.mem_map.2 ⟨_, List.getElem_mem hk, rfl⟩)
  clear hwl
  clear hn hr
  go_enter Try.func17, Try.ntmps17
  go_wp2
  have k6 := X0 6 _ rfl
  generalize w.alloc (.cells #[.slice da cfg.1.length dc, .int .i64 cfg.2, .slice sa stores.length sc, .slice la lost.length lc, .slice ea reg.eras.length ec, .int .i64 reg.trim, .slice wa rs.length wc, .slice na mends.length nc, .slice ra readers.length rc', .slice ta sent.length tc, .bool torn] 36) = w0 at *
  clear X0
  go_loopw [10] (fun y wr => ∃ k : Nat, y = .int .i64 (k : Int) ∧ k ≤ rs.length ∧ Hid (∀ i (h : i < rs.length), i < k → rs[i].m.epoch ≠ x) ∧ Below w.heap.size w wr) (fun y _ => rs.length - (intOf y).toNat)
  case atStart => exact ⟨0, rfl, Nat.zero_le _, fun i h h' => by omega, B0⟩
  case round =>
    obtain ⟨k, rfl, hk, hc, hb⟩ := hrel
    by_cases hlt : (k : Int) < (rs.length : Int)
    · have hkl : k < rs.length := by omega
      obtain ⟨b, off, rfl, he⟩ := (dUnhide HV _ hb).pd hkl
      have hck := he k hkl
      have CE := dHide fun W (hb : Below w.heap.size w W) => implSure_any rs[k].val rs[k].m W (dUnhide HL k hkl) (dUnhide HN W hb k hkl)
      have hF := formWriter (dUnhide HN _ hb k hkl)
      have H2 : Hid (rs[k].m.epoch ≠ x → ∀ i (h : i < rs.length), i < k + 1 → rs[i].m.epoch ≠ x) := fun hcl i h hi => by
        by_cases e : i = k
        · subst e; exact hcl
        · exact dUnhide hc i h (by omega)
      have H3 : Hid (rs[k].m.epoch = x → M = (sureL rs[k].m.words : Int)) := fun hcl => dUnhide FA k hkl (dUnhide hc) hcl
      clear he hc
      generalize rs[k] = y at *
      obtain ⟨yc, yl, m⟩ := y
      obtain ⟨xa, xc, hF, -⟩ := hF
      have hF := Pd.eq hF
      simp only at hF
      subst hF
      unfold Pd.val at CE
      simp only at *
      have c0 := hck 0 _ rfl
      have c1 := hck 1 _ rfl
      simp only [Nat.add_zero] at c0 c1
      clear hck
      obtain ⟨me, mw⟩ := m
      simp only at *
      by_cases hx : me = x
      · have e1 := dUnhide H3 hx
        subst e1
        clear H2 H3 FA FN
        subst hx
        go_wp2_with fail
        refine (dUnhide CE _ (hb.alloc hb.size _)).mono ?_
        rintro e w1 ⟨rfl, b1⟩
        have B1 := belowThen (hb.alloc hb.size _) b1
        clear CE b1 c0 c1
        go_wp2
        go_ret
        exact ⟨rfl, B1⟩
      · have H4 := dHide (dUnhide H2 hx)
        clear H2 H3
        go_wp2
        go_roundw
        case rel => exact ⟨k + 1, by go_num, by omega, dUnhide H4, hb.alloc hb.size _⟩
        case measure => simp [intOf]; omega
    · have e1 := dUnhide FN fun i h => dUnhide hc i h (by omega)
      subst e1
      clear hc FA FN
      go_wp2
      go_ret
      exact ⟨rfl, hb⟩
theorem bothSureOf_ (m0 : Wo) (m1 : Int) (ok0 : okWorld m0) (ok1 : okInt m1) (hs0 : sizWorld m0 ≤ 1048576) : ∃ (s0 : Int), (∀ W v0, RdWorld v0 m0 W → Calls Try.prog 15 #[v0, .int .i64 m1] W fun e w' => e = .returned (.int .i64 s0) ∧ Below W.heap.size W w') ∧ (∀ W v0, RdWorld v0 m0 W → Calls Try.prog 17 #[v0, .int .i64 m1] W fun e w' => e = .returned (.int .i64 s0) ∧ Below W.heap.size W w') :=
  ⟨sureOf m1 m0.writers, fun W v0 h => specSureOf_any v0 m0 m1 W h, fun W v0 h => implSureOf_any v0 m0 m1 W hs0 h⟩
end Go.Proofs.Ytnogallomdckiaa
